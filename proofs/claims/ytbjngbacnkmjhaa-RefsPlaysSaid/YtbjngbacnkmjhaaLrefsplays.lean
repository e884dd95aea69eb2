/- The walk of RefsPlays over this translation. Condition: slices that are no longer than a slice may be, texts that are no longer than a text may be. -/
import Derived.Test.YtbjngbacnkmjhaaRFh
namespace Go.Proofs.Ytbjngbacnkmjhaa.LRefsPlays
open Go.RowKit Vi

set_option maxRecDepth 100000 in
set_option maxHeartbeats 8000000 in
theorem walk (A : Option Addr) (n c : Nat) (l : List Rf) (A2 : Option Addr) (n2 c2 : Nat) (rs : List Rc) (w : World) (h : RdX rfC 3 w A n l) (h2 : RdX rcC 8 w A2 n2 rs) (hnc : n ≤ c) (hcm : c ≤ maxLen) (hn2 : n2 ≤ maxLen) (hz : ∀ r ∈ l, r.2.1.size ≤ maxLen) (hz2 : ∀ r ∈ rs, r.2.2.2.1.size ≤ maxLen) :
    Calls Try.prog 12 #[.slice A n c, .slice A2 n2 c2] w fun e w' => e = .returned (.bool true) ∧ Below w.heap.size w w' := by
  have hm : n ≤ maxLen := Nat.le_trans hnc hcm
  have H := Lib.hid h
  have H2 := Lib.hid h2
  have L2 := Lib.hid h2.1
  have HFW := Lib.hid (fun (W : World) (q : RdX rfC 3 W A n l) => rffew_any A n c l W q hm)
  have HWR := Lib.hid (fun (W : World) (q : RdX rfC 3 W A n l) => rfwrong_any A n c l W q hm hz)
  have HOK := Lib.hid (fun q : wrR l = 0 => wr_ok q)
  have HP1 := Lib.hid (fun (W : World) (q : RdX rfC 3 W A n l) (q2 : RdX rcC 8 W A2 n2 rs) (hok : OkL l) => rfplay_any A n c l A2 n2 c2 rs W q q2 hn2 hok hz2)
  have HP2 := Lib.hid (fun (W : World) (q : RdX rfC 3 W A n l) (q2 : RdX rcC 8 W A2 n2 rs) (hok : OkL l) => rfdplay_any A n c l A2 n2 c2 rs W q q2 hnc hcm hn2 hok hz2)
  unfold maxLen at hm hn2
  clear h h2 hz hz2
  go_enter Try.func12, Try.ntmps12
  go_wp2_with fail
  refine (HFW.out w H.out).mono ?_
  rintro e w1 ⟨b, rfl, hb70, hb⟩
  have HB := Lib.hid hb
  clear hb
  cases b with
  | false =>
    go_wp2_with fail
    refine (awake37 _).mono ?_
    rintro e w9 ⟨rfl, hb9⟩
    have HB9 := Lib.hid (HB.out.trans (hb9.mono HB.out.size))
    clear hb9
    go_wp2_with fail
    go_ret
    exact ⟨rfl, HB9.out⟩
  | true =>
    have hn := hb70 rfl
    clear hb70 HFW
    go_wp2_with fail
    refine (HWR.out _ (H.out.below HB.out)).mono ?_
    rintro e w2 ⟨rfl, hb⟩
    have HB2 := Lib.hid (HB.out.trans (hb.mono HB.out.size))
    clear hb HB HWR
    by_cases hw0 : wrR l = 0
    rotate_left
    · have e0 : (wrR l != 0) = true := by simpa using hw0
      generalize wrR l = wz at *
      go_wp2_with fail
      refine (awake37 _).mono ?_
      rintro e w9 ⟨rfl, hb9⟩
      have HB9 := Lib.hid (HB2.out.trans (hb9.mono HB2.out.size))
      clear hb9
      go_wp2_with fail
      go_ret
      exact ⟨rfl, HB9.out⟩
    have HKL := Lib.hid (HOK.out hw0)
    rw [hw0]
    clear hw0 HOK
    have HVK := Lib.hid (play_ok rs l HKL.out)
    by_cases g1 : n2 ≤ 40
    rotate_left
    · have d1 : decide ((40 : Int) < (n2 : Int)) = true := decide_eq_true (by omega)
      go_wp2_with fail
      refine (awake37 _).mono ?_
      rintro e w9 ⟨rfl, hb9⟩
      have HB9 := Lib.hid (HB2.out.trans (hb9.mono HB2.out.size))
      clear hb9
      go_wp2_with fail
      go_ret
      exact ⟨rfl, HB9.out⟩
    have d1 : decide ((40 : Int) < (n2 : Int)) = false := decide_eq_false (by omega)
    go_wp2_with fail
    clear d1
    go_loopw [27] (fun i wr => ∃ k : Nat, i = .int .i64 (k : Int) ∧ k ≤ n2 ∧ Below w.heap.size w wr) (fun i _ => n2 - (intOf i).toNat)
    case atStart => exact ⟨0, rfl, Nat.zero_le _, HB2.out⟩
    case round =>
      clear HB2
      obtain ⟨k, rfl, hk, hb⟩ := hrel
      have HB := Lib.hid hb
      clear hb
      by_cases hlt : k < n2
      · have hd1 : decide ((k : Int) < (n2 : Int)) = true := decide_eq_true (by omega)
        have hl : k < rs.length := by rw [L2.out]; exact hlt
        obtain ⟨b, off, _, rfl, hbb, _⟩ := (H2.out.below HB.out).at hlt
        obtain ⟨x, hx⟩ : ∃ x, rs[k] = x := ⟨_, rfl⟩
        have HX := Lib.hid (show rs[k]? = some x by rw [List.getElem?_eq_getElem hl, hx])
        clear hx
        obtain ⟨q1, q2, kd, s, old, now, q3, q4⟩ := x
        have hi0 : (0 : Int) ≤ (k : Int) := by omega
        by_cases f1 : s.size ≤ 100
        rotate_left
        · have df1 : decide ((100 : Int) < (s.size : Int)) = true := decide_eq_true (by omega)
          have hc101 : wr.cell? ⟨b, off + k * 8, none⟩ = some (.int .i64 q1) := (H2.out.below HB.out).cellAt HX.out hlt 0 _ rfl
          have hc102 : wr.cell? ⟨b, off + k * 8 + 1, none⟩ = some (.int .i64 q2) := (H2.out.below HB.out).cellAt HX.out hlt 1 _ rfl
          have hc103 : wr.cell? ⟨b, off + k * 8 + 2, none⟩ = some (.int .i64 kd) := (H2.out.below HB.out).cellAt HX.out hlt 2 _ rfl
          have hc104 : wr.cell? ⟨b, off + k * 8 + 3, none⟩ = some (.string s) := (H2.out.below HB.out).cellAt HX.out hlt 3 _ rfl
          have hc105 : wr.cell? ⟨b, off + k * 8 + 4, none⟩ = some (.string old) := (H2.out.below HB.out).cellAt HX.out hlt 4 _ rfl
          have hc106 : wr.cell? ⟨b, off + k * 8 + 5, none⟩ = some (.string now) := (H2.out.below HB.out).cellAt HX.out hlt 5 _ rfl
          have hc107 : wr.cell? ⟨b, off + k * 8 + 6, none⟩ = some (.int .i64 q3) := (H2.out.below HB.out).cellAt HX.out hlt 6 _ rfl
          have hc108 : wr.cell? ⟨b, off + k * 8 + 7, none⟩ = some (.int .i64 q4) := (H2.out.below HB.out).cellAt HX.out hlt 7 _ rfl
          have HF109 := Lib.hid (blk_new wr (.cells #[.int .i64 q1, .int .i64 q2, .int .i64 kd, .string s, .string old, .string now, .int .i64 q3, .int .i64 q4] 110 (0, 0)))
          have HB110 := Lib.hid (HB.out.alloc HB.out.size (.cells #[.int .i64 q1, .int .i64 q2, .int .i64 kd, .string s, .string old, .string now, .int .i64 q3, .int .i64 q4] 110 (0, 0)))
          clear HB
          have hc111 : (wr.alloc (.cells #[.int .i64 q1, .int .i64 q2, .int .i64 kd, .string s, .string old, .string now, .int .i64 q3, .int .i64 q4] 110 (0, 0))).cell? ⟨wr.heap.size, 3, none⟩ = some (.string s) := by rw [cell_of_row _ _ _ _ _ _ HF109.out]; rfl
          have hc112 : (wr.alloc (.cells #[.int .i64 q1, .int .i64 q2, .int .i64 kd, .string s, .string old, .string now, .int .i64 q3, .int .i64 q4] 110 (0, 0))).cell? ⟨wr.heap.size, 4, none⟩ = some (.string old) := by rw [cell_of_row _ _ _ _ _ _ HF109.out]; rfl
          have hc113 : (wr.alloc (.cells #[.int .i64 q1, .int .i64 q2, .int .i64 kd, .string s, .string old, .string now, .int .i64 q3, .int .i64 q4] 110 (0, 0))).cell? ⟨wr.heap.size, 5, none⟩ = some (.string now) := by rw [cell_of_row _ _ _ _ _ _ HF109.out]; rfl
          go_wp2_with fail
          refine (awake37 (wr.alloc (.cells #[.int .i64 q1, .int .i64 q2, .int .i64 kd, .string s, .string old, .string now, .int .i64 q3, .int .i64 q4] 110 (0, 0)))).mono ?_
          rintro e w11 ⟨rfl, hb11⟩
          clear hc101 hc102 hc103 hc104 hc105 hc106 hc107 hc108 hc111 hc112 hc113
          have HF114 := Lib.hid (blk_below HF109.out hb11)
          have HB115 := Lib.hid (HB110.out.trans (hb11.mono HB110.out.size))
          clear hb11 HB110 HF109
          go_wp2_with fail
          go_ret
          exact ⟨rfl, HB115.out⟩
        have df1 : decide ((100 : Int) < (s.size : Int)) = false := decide_eq_false (by omega)
        by_cases f2 : old.size ≤ 200
        rotate_left
        · have df2 : decide ((200 : Int) < (old.size : Int)) = true := decide_eq_true (by omega)
          have hc101 : wr.cell? ⟨b, off + k * 8, none⟩ = some (.int .i64 q1) := (H2.out.below HB.out).cellAt HX.out hlt 0 _ rfl
          have hc102 : wr.cell? ⟨b, off + k * 8 + 1, none⟩ = some (.int .i64 q2) := (H2.out.below HB.out).cellAt HX.out hlt 1 _ rfl
          have hc103 : wr.cell? ⟨b, off + k * 8 + 2, none⟩ = some (.int .i64 kd) := (H2.out.below HB.out).cellAt HX.out hlt 2 _ rfl
          have hc104 : wr.cell? ⟨b, off + k * 8 + 3, none⟩ = some (.string s) := (H2.out.below HB.out).cellAt HX.out hlt 3 _ rfl
          have hc105 : wr.cell? ⟨b, off + k * 8 + 4, none⟩ = some (.string old) := (H2.out.below HB.out).cellAt HX.out hlt 4 _ rfl
          have hc106 : wr.cell? ⟨b, off + k * 8 + 5, none⟩ = some (.string now) := (H2.out.below HB.out).cellAt HX.out hlt 5 _ rfl
          have hc107 : wr.cell? ⟨b, off + k * 8 + 6, none⟩ = some (.int .i64 q3) := (H2.out.below HB.out).cellAt HX.out hlt 6 _ rfl
          have hc108 : wr.cell? ⟨b, off + k * 8 + 7, none⟩ = some (.int .i64 q4) := (H2.out.below HB.out).cellAt HX.out hlt 7 _ rfl
          have HF109 := Lib.hid (blk_new wr (.cells #[.int .i64 q1, .int .i64 q2, .int .i64 kd, .string s, .string old, .string now, .int .i64 q3, .int .i64 q4] 110 (0, 0)))
          have HB110 := Lib.hid (HB.out.alloc HB.out.size (.cells #[.int .i64 q1, .int .i64 q2, .int .i64 kd, .string s, .string old, .string now, .int .i64 q3, .int .i64 q4] 110 (0, 0)))
          clear HB
          have hc111 : (wr.alloc (.cells #[.int .i64 q1, .int .i64 q2, .int .i64 kd, .string s, .string old, .string now, .int .i64 q3, .int .i64 q4] 110 (0, 0))).cell? ⟨wr.heap.size, 3, none⟩ = some (.string s) := by rw [cell_of_row _ _ _ _ _ _ HF109.out]; rfl
          have hc112 : (wr.alloc (.cells #[.int .i64 q1, .int .i64 q2, .int .i64 kd, .string s, .string old, .string now, .int .i64 q3, .int .i64 q4] 110 (0, 0))).cell? ⟨wr.heap.size, 4, none⟩ = some (.string old) := by rw [cell_of_row _ _ _ _ _ _ HF109.out]; rfl
          have hc113 : (wr.alloc (.cells #[.int .i64 q1, .int .i64 q2, .int .i64 kd, .string s, .string old, .string now, .int .i64 q3, .int .i64 q4] 110 (0, 0))).cell? ⟨wr.heap.size, 5, none⟩ = some (.string now) := by rw [cell_of_row _ _ _ _ _ _ HF109.out]; rfl
          go_wp2_with fail
          refine (awake37 (wr.alloc (.cells #[.int .i64 q1, .int .i64 q2, .int .i64 kd, .string s, .string old, .string now, .int .i64 q3, .int .i64 q4] 110 (0, 0)))).mono ?_
          rintro e w11 ⟨rfl, hb11⟩
          clear hc101 hc102 hc103 hc104 hc105 hc106 hc107 hc108 hc111 hc112 hc113
          have HF114 := Lib.hid (blk_below HF109.out hb11)
          have HB115 := Lib.hid (HB110.out.trans (hb11.mono HB110.out.size))
          clear hb11 HB110 HF109
          go_wp2_with fail
          go_ret
          exact ⟨rfl, HB115.out⟩
        have df2 : decide ((200 : Int) < (old.size : Int)) = false := decide_eq_false (by omega)
        by_cases f3 : now.size ≤ 200
        rotate_left
        · have df3 : decide ((200 : Int) < (now.size : Int)) = true := decide_eq_true (by omega)
          have hc101 : wr.cell? ⟨b, off + k * 8, none⟩ = some (.int .i64 q1) := (H2.out.below HB.out).cellAt HX.out hlt 0 _ rfl
          have hc102 : wr.cell? ⟨b, off + k * 8 + 1, none⟩ = some (.int .i64 q2) := (H2.out.below HB.out).cellAt HX.out hlt 1 _ rfl
          have hc103 : wr.cell? ⟨b, off + k * 8 + 2, none⟩ = some (.int .i64 kd) := (H2.out.below HB.out).cellAt HX.out hlt 2 _ rfl
          have hc104 : wr.cell? ⟨b, off + k * 8 + 3, none⟩ = some (.string s) := (H2.out.below HB.out).cellAt HX.out hlt 3 _ rfl
          have hc105 : wr.cell? ⟨b, off + k * 8 + 4, none⟩ = some (.string old) := (H2.out.below HB.out).cellAt HX.out hlt 4 _ rfl
          have hc106 : wr.cell? ⟨b, off + k * 8 + 5, none⟩ = some (.string now) := (H2.out.below HB.out).cellAt HX.out hlt 5 _ rfl
          have hc107 : wr.cell? ⟨b, off + k * 8 + 6, none⟩ = some (.int .i64 q3) := (H2.out.below HB.out).cellAt HX.out hlt 6 _ rfl
          have hc108 : wr.cell? ⟨b, off + k * 8 + 7, none⟩ = some (.int .i64 q4) := (H2.out.below HB.out).cellAt HX.out hlt 7 _ rfl
          have HF109 := Lib.hid (blk_new wr (.cells #[.int .i64 q1, .int .i64 q2, .int .i64 kd, .string s, .string old, .string now, .int .i64 q3, .int .i64 q4] 110 (0, 0)))
          have HB110 := Lib.hid (HB.out.alloc HB.out.size (.cells #[.int .i64 q1, .int .i64 q2, .int .i64 kd, .string s, .string old, .string now, .int .i64 q3, .int .i64 q4] 110 (0, 0)))
          clear HB
          have hc111 : (wr.alloc (.cells #[.int .i64 q1, .int .i64 q2, .int .i64 kd, .string s, .string old, .string now, .int .i64 q3, .int .i64 q4] 110 (0, 0))).cell? ⟨wr.heap.size, 3, none⟩ = some (.string s) := by rw [cell_of_row _ _ _ _ _ _ HF109.out]; rfl
          have hc112 : (wr.alloc (.cells #[.int .i64 q1, .int .i64 q2, .int .i64 kd, .string s, .string old, .string now, .int .i64 q3, .int .i64 q4] 110 (0, 0))).cell? ⟨wr.heap.size, 4, none⟩ = some (.string old) := by rw [cell_of_row _ _ _ _ _ _ HF109.out]; rfl
          have hc113 : (wr.alloc (.cells #[.int .i64 q1, .int .i64 q2, .int .i64 kd, .string s, .string old, .string now, .int .i64 q3, .int .i64 q4] 110 (0, 0))).cell? ⟨wr.heap.size, 5, none⟩ = some (.string now) := by rw [cell_of_row _ _ _ _ _ _ HF109.out]; rfl
          go_wp2_with fail
          refine (awake37 (wr.alloc (.cells #[.int .i64 q1, .int .i64 q2, .int .i64 kd, .string s, .string old, .string now, .int .i64 q3, .int .i64 q4] 110 (0, 0)))).mono ?_
          rintro e w11 ⟨rfl, hb11⟩
          clear hc101 hc102 hc103 hc104 hc105 hc106 hc107 hc108 hc111 hc112 hc113
          have HF114 := Lib.hid (blk_below HF109.out hb11)
          have HB115 := Lib.hid (HB110.out.trans (hb11.mono HB110.out.size))
          clear hb11 HB110 HF109
          go_wp2_with fail
          go_ret
          exact ⟨rfl, HB115.out⟩
        have df3 : decide ((200 : Int) < (now.size : Int)) = false := decide_eq_false (by omega)
        have hc101 : wr.cell? ⟨b, off + k * 8, none⟩ = some (.int .i64 q1) := (H2.out.below HB.out).cellAt HX.out hlt 0 _ rfl
        have hc102 : wr.cell? ⟨b, off + k * 8 + 1, none⟩ = some (.int .i64 q2) := (H2.out.below HB.out).cellAt HX.out hlt 1 _ rfl
        have hc103 : wr.cell? ⟨b, off + k * 8 + 2, none⟩ = some (.int .i64 kd) := (H2.out.below HB.out).cellAt HX.out hlt 2 _ rfl
        have hc104 : wr.cell? ⟨b, off + k * 8 + 3, none⟩ = some (.string s) := (H2.out.below HB.out).cellAt HX.out hlt 3 _ rfl
        have hc105 : wr.cell? ⟨b, off + k * 8 + 4, none⟩ = some (.string old) := (H2.out.below HB.out).cellAt HX.out hlt 4 _ rfl
        have hc106 : wr.cell? ⟨b, off + k * 8 + 5, none⟩ = some (.string now) := (H2.out.below HB.out).cellAt HX.out hlt 5 _ rfl
        have hc107 : wr.cell? ⟨b, off + k * 8 + 6, none⟩ = some (.int .i64 q3) := (H2.out.below HB.out).cellAt HX.out hlt 6 _ rfl
        have hc108 : wr.cell? ⟨b, off + k * 8 + 7, none⟩ = some (.int .i64 q4) := (H2.out.below HB.out).cellAt HX.out hlt 7 _ rfl
        have HF109 := Lib.hid (blk_new wr (.cells #[.int .i64 q1, .int .i64 q2, .int .i64 kd, .string s, .string old, .string now, .int .i64 q3, .int .i64 q4] 110 (0, 0)))
        have HB110 := Lib.hid (HB.out.alloc HB.out.size (.cells #[.int .i64 q1, .int .i64 q2, .int .i64 kd, .string s, .string old, .string now, .int .i64 q3, .int .i64 q4] 110 (0, 0)))
        clear HB
        have hc111 : (wr.alloc (.cells #[.int .i64 q1, .int .i64 q2, .int .i64 kd, .string s, .string old, .string now, .int .i64 q3, .int .i64 q4] 110 (0, 0))).cell? ⟨wr.heap.size, 3, none⟩ = some (.string s) := by rw [cell_of_row _ _ _ _ _ _ HF109.out]; rfl
        have hc112 : (wr.alloc (.cells #[.int .i64 q1, .int .i64 q2, .int .i64 kd, .string s, .string old, .string now, .int .i64 q3, .int .i64 q4] 110 (0, 0))).cell? ⟨wr.heap.size, 4, none⟩ = some (.string old) := by rw [cell_of_row _ _ _ _ _ _ HF109.out]; rfl
        have hc113 : (wr.alloc (.cells #[.int .i64 q1, .int .i64 q2, .int .i64 kd, .string s, .string old, .string now, .int .i64 q3, .int .i64 q4] 110 (0, 0))).cell? ⟨wr.heap.size, 5, none⟩ = some (.string now) := by rw [cell_of_row _ _ _ _ _ _ HF109.out]; rfl
        go_wp2_with fail
        go_roundw
        case rel => exact ⟨k + 1, by go_num, by omega, HB110.out⟩
        case measure => simp [intOf] <;> omega
      · have hd1 : decide ((k : Int) < (n2 : Int)) = false := decide_eq_false (by omega)
        obtain ⟨V, z, hVz⟩ : ∃ V z, playR l rs = (V, z) := ⟨_, _, rfl⟩
        rw [hVz] at HVK HP1 HP2
        clear hVz
        have ez : (z == z) = true := by simp
        have hVl : V.length ≤ 64 := HVK.out.len
        go_wp2_with fail
        refine (HP1.out wr (H.out.below HB.out) (H2.out.below HB.out) HKL.out).mono ?_
        rintro e w11 ⟨v4, rfl, ⟨A4, c4, rfl, hx4, -, -⟩, hb11⟩
        have HB101 := Lib.hid (HB.out.trans (hb11.mono (by have := HB.out.size; simp at this ⊢ <;> omega)))
        clear hb11 HB 
        have HX4 := Lib.hid hx4
        clear hx4
        go_wp2_with fail
        refine (HP2.out w11 (H.out.below HB101.out) (H2.out.below HB101.out) HKL.out).mono ?_
        rintro e w12 ⟨v5, rfl, ⟨A5, c5, rfl, hx5, -, -⟩, hb12⟩
        have HB102 := Lib.hid (HB101.out.trans (hb12.mono (by have := HB101.out.size; simp at this ⊢ <;> omega)))
        have HQ103 := Lib.hid (HX4.out.below hb12)
        clear HX4
        clear hb12 HB101 
        have HX5 := Lib.hid hx5
        clear hx5
        go_wp2_with fail
        refine (rfsame_any A4 V.length c4 V A5 V.length c5 V w12 HQ103.out HX5.out (by unfold maxLen; omega)).mono ?_
        rintro e w13 ⟨rfl, hb13⟩
        have HB104 := Lib.hid (HB102.out.trans (hb13.mono (by have := HB102.out.size; simp at this ⊢ <;> omega)))
        have HQ105 := Lib.hid (HQ103.out.below hb13)
        clear HQ103
        have HQ106 := Lib.hid (HX5.out.below hb13)
        clear HX5
        clear hb13 HB102 
        rw [show sameR V V = true from decide_eq_true rfl]
        go_wp2_with fail
        refine (awake37 w13).mono ?_
        rintro e w14 ⟨rfl, hb14⟩
        have HB107 := Lib.hid (HB104.out.trans (hb14.mono HB104.out.size))
        have HQ108 := Lib.hid (HQ105.out.below hb14)
        clear HQ105
        have HQ109 := Lib.hid (HQ106.out.below hb14)
        clear HQ106
        clear hb14 HB104 
        go_wp2_with fail
        go_ret
        exact ⟨rfl, HB107.out⟩
end Go.Proofs.Ytbjngbacnkmjhaa.LRefsPlays
