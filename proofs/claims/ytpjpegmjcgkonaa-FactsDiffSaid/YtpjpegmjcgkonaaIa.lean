/- facts.Compare, and the document's Less, over this translation. No condition. -/
import Derived.Test.YtpjpegmjcgkonaaAa
import Derived.Test.YtpjpegmjcgkonaaWb
import Derived.Test.YtpjpegmjcgkonaaNp
namespace Go.Proofs.Ytpjpegmjcgkonaa
open Go.RowKit Vi

abbrev Fc := Int × ByteArray × ByteArray × ByteArray
def fcC (f : Fc) : List Value := [.int .i64 f.1, .string f.2.1, .string f.2.2.1, .string f.2.2.2]
theorem fcC_len (f : Fc) : (fcC f).length = 4 := rfl
theorem fcC_one (f : Fc) : ∀ u ∈ fcC f, u.oneCell' = true := by
  intro u hu
  simp only [fcC, List.mem_cons, List.not_mem_nil, or_false] at hu
  rcases hu with h | h | h | h <;> (subst h; rfl)
def cmpF (a b : Fc) : Int := orL [cmpI a.1 b.1, cmpS a.2.1 b.2.1, cmpS a.2.2.1 b.2.2.1]
def lessF (a b : Fc) : Bool := if a.1 ≠ b.1 then decide (a.1 < b.1) else if (a.2.1.toList == b.2.1.toList) = true then Op.bytesLess a.2.2.1.toList b.2.2.1.toList else Op.bytesLess a.2.1.toList b.2.1.toList
theorem cmpS_lt (s t : ByteArray) : cmpS s t < 0 ↔ Op.bytesLess s.toList t.toList = true := by
  unfold cmpS
  cases Op.bytesLess s.toList t.toList <;> cases Op.bytesLess t.toList s.toList <;> simp
theorem cmpS_self (s t : ByteArray) (h : (s.toList == t.toList) = true) : cmpS s t = 0 := by
  have e : s.toList = t.toList := by simpa using h
  unfold cmpS
  rw [e, bl_irrefl]
  rfl
theorem cmpS_ne (s t : ByteArray) (h : (s.toList == t.toList) = false) : cmpS s t ≠ 0 := by
  have e : s.toList ≠ t.toList := by simpa using h
  unfold cmpS
  cases h1 : Op.bytesLess s.toList t.toList <;> cases h2 : Op.bytesLess t.toList s.toList
  · exact absurd (bl_total _ _ h1 h2) e
  · simp
  · simp
  · simp
theorem cmpF_lt (a b : Fc) : cmpF a b < 0 ↔ lessF a b = true := by
  unfold cmpF lessF
  by_cases h1 : a.1 = b.1
  · have hz : cmpI a.1 b.1 = 0 := by unfold cmpI; rw [if_neg (by omega), if_neg (by omega)]
    rw [hz, if_neg (show ¬ a.1 ≠ b.1 from fun q => q h1)]
    rw [show orL [0, cmpS a.2.1 b.2.1, cmpS a.2.2.1 b.2.2.1] = orL [cmpS a.2.1 b.2.1, cmpS a.2.2.1 b.2.2.1] from rfl]
    cases h2 : (a.2.1.toList == b.2.1.toList) with
    | true =>
      rw [if_pos rfl, cmpS_self _ _ h2, show orL [0, cmpS a.2.2.1 b.2.2.1] = orL [cmpS a.2.2.1 b.2.2.1] from rfl, ← cmpS_lt]
      unfold orL
      by_cases h3 : cmpS a.2.2.1 b.2.2.1 = 0
      · rw [if_neg (fun q => q h3), h3]; rfl
      · rw [if_pos h3]
    | false =>
      rw [if_neg (by simp), ← cmpS_lt]
      unfold orL
      rw [if_pos (cmpS_ne _ _ h2)]
  · have hz : cmpI a.1 b.1 ≠ 0 := by unfold cmpI; split <;> (try split) <;> omega
    rw [if_pos h1]
    unfold orL
    rw [if_pos hz, decide_eq_true_iff]
    unfold cmpI
    split <;> (try split) <;> omega
set_option maxRecDepth 100000 in
set_option maxHeartbeats 1000000 in
theorem orInt_any (g off n c : Nat) (l : List Int) (w : World) (h : RdX ieC 1 w (some ⟨g, off, none⟩) n l) (hn : (n : Int) ≤ 9223372036854775807) :
    Calls Try.prog 43 #[.slice (some ⟨g, off, none⟩) n c] w fun e w' => e = .returned (.int .i64 (orL l)) ∧ w = w' := by
  have H := Lib.hid h
  have L := Lib.hid h.1
  clear h
  go_enter Try.func43, Try.ntmps43
  go_wp2_with fail
  go_loop [8] (fun i => ∃ k : Nat, i = .int .i64 (k : Int) ∧ k ≤ n ∧ orL (l.drop k) = orL l) (fun i => n - (intOf i).toNat)
  case atStart => exact ⟨0, rfl, Nat.zero_le _, rfl⟩
  case round =>
    obtain ⟨k, rfl, hk, hs⟩ := hrel
    have HS := Lib.hid hs
    clear hs
    by_cases hlt : k < n
    · have hd1 : decide ((k : Int) < (n : Int)) = true := decide_eq_true (by omega)
      have hl : k < l.length := by rw [L.out]; exact hlt
      have HA := Lib.hid (orL_at l k hl)
      obtain ⟨x, hx⟩ : ∃ x, l[k] = x := ⟨_, rfl⟩
      have HX := Lib.hid (show l[k]? = some x by rw [List.getElem?_eq_getElem hl, hx])
      have a0 : w.cell? ⟨g, off + k, none⟩ = some (.int .i64 x) := by have h := H.out.cellAt HX.out hlt 0 _ rfl; rw [Nat.add_zero, Nat.mul_one] at h; exact h
      rw [hx] at HA
      have hi0 : (0 : Int) ≤ (k : Int) := by omega
      clear hx
      by_cases hz : x = 0
      · have hz1 : (x != 0) = false := by rw [hz]; rfl
        have HR := Lib.hid (show orL (l.drop (k + 1)) = orL l by rw [← HS.out, HA.out, if_neg (by omega)])
        clear hz
        go_wp2_with fail
        go_round
        case rel => exact ⟨k + 1, by go_num, by omega, HR.out⟩
        case measure => simp [intOf] <;> omega
      · have hz1 : (x != 0) = true := by simpa using hz
        have HR := Lib.hid (show x = orL l by rw [← HS.out, HA.out, if_pos hz])
        clear hz
        go_wp2_with fail
        go_ret
        exact ⟨retI HR.out, rfl⟩
    · have hd1 : decide ((k : Int) < (n : Int)) = false := decide_eq_false (by omega)
      have HR := Lib.hid (show (0 : Int) = orL l by rw [← HS.out, orL_end l k (by rw [L.out]; omega)])
      go_wp2_with fail
      go_ret
      exact ⟨retI HR.out, rfl⟩
set_option maxRecDepth 100000 in
set_option maxHeartbeats 2000000 in
theorem fcmp_any (a1 : Int) (a2 a3 a4 : ByteArray) (b1 : Int) (b2 b3 b4 : ByteArray) (w : World) :
    Calls Try.prog 21 #[.agg #[.int .i64 a1, .string a2, .string a3, .string a4], .agg #[.int .i64 b1, .string b2, .string b3, .string b4]] w fun e w' => e = .returned (.int .i64 (cmpF (a1, a2, a3, a4) (b1, b2, b3, b4))) ∧ Below w.heap.size w w' := by
  have HV := Lib.hid (show cmpF (a1, a2, a3, a4) (b1, b2, b3, b4) = orL [cmpI a1 b1, cmpS a2 b2, cmpS a3 b3] from rfl)
  have HX := Lib.hid (fun W : World => cmpI_any a1 b1 W)
  have HY := Lib.hid (fun W : World => cmpS_any a2 b2 W)
  have HZ := Lib.hid (fun W : World => cmpS_any a3 b3 W)
  rw [HV.out]
  clear HV
  generalize cmpI a1 b1 = x at *
  generalize cmpS a2 b2 = y at *
  generalize cmpS a3 b3 = z at *
  have HB1 := Lib.hid (Below.refl w.heap.size w)
  go_enter Try.func21, Try.ntmps21
  have HFa := Lib.hid (blk_alloc (blk_new w (.cells #[.int .i64 a1, .string a2, .string a3, .string a4] 32 (0, 0))) (.cells #[.int .i64 b1, .string b2, .string b3, .string b4] 32 (0, 0)))
  have HFb := Lib.hid (two_blk w (.cells #[.int .i64 a1, .string a2, .string a3, .string a4] 32 (0, 0)) (.cells #[.int .i64 b1, .string b2, .string b3, .string b4] 32 (0, 0)))
  have HB5 := Lib.hid ((HB1.out.alloc HB1.out.size (.cells #[.int .i64 a1, .string a2, .string a3, .string a4] 32 (0, 0))).alloc (HB1.out.alloc HB1.out.size (.cells #[.int .i64 a1, .string a2, .string a3, .string a4] 32 (0, 0))).size (.cells #[.int .i64 b1, .string b2, .string b3, .string b4] 32 (0, 0)))
  clear HB1
  have ha0 : ((w.alloc (.cells #[.int .i64 a1, .string a2, .string a3, .string a4] 32 (0, 0))).alloc (.cells #[.int .i64 b1, .string b2, .string b3, .string b4] 32 (0, 0))).cell? ⟨w.heap.size, 0, none⟩ = some (.int .i64 a1) := by rw [cell_of_row _ _ _ _ _ _ HFa.out]; rfl
  have ha1 : ((w.alloc (.cells #[.int .i64 a1, .string a2, .string a3, .string a4] 32 (0, 0))).alloc (.cells #[.int .i64 b1, .string b2, .string b3, .string b4] 32 (0, 0))).cell? ⟨w.heap.size, 1, none⟩ = some (.string a2) := by rw [cell_of_row _ _ _ _ _ _ HFa.out]; rfl
  have ha2 : ((w.alloc (.cells #[.int .i64 a1, .string a2, .string a3, .string a4] 32 (0, 0))).alloc (.cells #[.int .i64 b1, .string b2, .string b3, .string b4] 32 (0, 0))).cell? ⟨w.heap.size, 2, none⟩ = some (.string a3) := by rw [cell_of_row _ _ _ _ _ _ HFa.out]; rfl
  have ha3 : ((w.alloc (.cells #[.int .i64 a1, .string a2, .string a3, .string a4] 32 (0, 0))).alloc (.cells #[.int .i64 b1, .string b2, .string b3, .string b4] 32 (0, 0))).cell? ⟨w.heap.size, 3, none⟩ = some (.string a4) := by rw [cell_of_row _ _ _ _ _ _ HFa.out]; rfl
  have hb0 : ((w.alloc (.cells #[.int .i64 a1, .string a2, .string a3, .string a4] 32 (0, 0))).alloc (.cells #[.int .i64 b1, .string b2, .string b3, .string b4] 32 (0, 0))).cell? ⟨w.heap.size + 1, 0, none⟩ = some (.int .i64 b1) := by rw [cell_of_row _ _ _ _ _ _ HFb.out]; rfl
  have hb1 : ((w.alloc (.cells #[.int .i64 a1, .string a2, .string a3, .string a4] 32 (0, 0))).alloc (.cells #[.int .i64 b1, .string b2, .string b3, .string b4] 32 (0, 0))).cell? ⟨w.heap.size + 1, 1, none⟩ = some (.string b2) := by rw [cell_of_row _ _ _ _ _ _ HFb.out]; rfl
  have hb2 : ((w.alloc (.cells #[.int .i64 a1, .string a2, .string a3, .string a4] 32 (0, 0))).alloc (.cells #[.int .i64 b1, .string b2, .string b3, .string b4] 32 (0, 0))).cell? ⟨w.heap.size + 1, 2, none⟩ = some (.string b3) := by rw [cell_of_row _ _ _ _ _ _ HFb.out]; rfl
  have hb3 : ((w.alloc (.cells #[.int .i64 a1, .string a2, .string a3, .string a4] 32 (0, 0))).alloc (.cells #[.int .i64 b1, .string b2, .string b3, .string b4] 32 (0, 0))).cell? ⟨w.heap.size + 1, 3, none⟩ = some (.string b4) := by rw [cell_of_row _ _ _ _ _ _ HFb.out]; rfl
  go_wp2_with fail
  have ra0 := fun d os => cell_regrown ha0 d os
  have ra1 := fun d os => cell_regrown ha1 d os
  have ra2 := fun d os => cell_regrown ha2 d os
  have ra3 := fun d os => cell_regrown ha3 d os
  have rb0 := fun d os => cell_regrown hb0 d os
  have rb1 := fun d os => cell_regrown hb1 d os
  have rb2 := fun d os => cell_regrown hb2 d os
  have rb3 := fun d os => cell_regrown hb3 d os
  refine wp_region_quiet_tail 15 (by kernel_rfl) (by kernel_rfl) ?_
  simp only [List.take_succ_cons, List.take_zero, List.drop_succ_cons, List.drop_zero]
  repeat (any_goals (first | go_big_quiet_step ((first | (go_at_call 44; with_reducible exact Calls.regrown_of (of_same (HX.out _))) | (go_at_call 45; with_reducible exact Calls.regrown_of (of_same (HY.out _))) | (go_at_call 45; with_reducible exact Calls.regrown_of (of_same (HZ.out _))))) | quiet_step ((first | (go_at_call 44; with_reducible exact Calls.regrown_of (of_same (HX.out _))) | (go_at_call 45; with_reducible exact Calls.regrown_of (of_same (HY.out _))) | (go_at_call 45; with_reducible exact Calls.regrown_of (of_same (HZ.out _)))))))
  refine wpQuiet_nil ?_
  intro w1 hw1
  have hb9 := below_anyY hw1
  clear hw1 ra0 ra1 ra2 ra3 rb0 rb1 rb2 rb3
  clear ha0 ha1 ha2 ha3 hb0 hb1 hb2 hb3
  have HB6 := Lib.hid (HB5.out.trans (hb9.mono HB5.out.size))
  clear hb9 HB5 HFa HFb
  have HO := Lib.hid (blk_new w1 (.cells #[.int .i64 x, .int .i64 y, .int .i64 z] 3 (0, 0)))
  have HB7 := Lib.hid (HB6.out.alloc HB6.out.size (.cells #[.int .i64 x, .int .i64 y, .int .i64 z] 3 (0, 0)))
  go_wp2_with fail
  refine (orInt_any _ 0 3 3 [x, y, z] _ (rd_blk (f := ieC) (s := 1) (fun _ => rfl) [x, y, z] HO.out rfl) (by omega)).mono ?_
  rintro e w' ⟨rfl, rfl⟩
  go_wp2_with fail
  go_ret
  exact ⟨rfl, HB7.out⟩
set_option maxRecDepth 100000 in
set_option maxHeartbeats 2000000 in
theorem rless_any (a1 : Int) (a2 a3 a4 : ByteArray) (b1 : Int) (b2 b3 b4 : ByteArray) (w : World) :
    Calls Try.prog 11 #[.agg #[.int .i64 a1, .string a2, .string a3, .string a4], .agg #[.int .i64 b1, .string b2, .string b3, .string b4]] w fun e w' => e = .returned (.bool (lessF (a1, a2, a3, a4) (b1, b2, b3, b4))) ∧ Below w.heap.size w w' := by
  by_cases h1 : a1 = b1
  · have e1 : (a1 != b1) = false := by simpa using h1
    cases e2 : (a2.toList == b2.toList) with
    | true =>
      have HV := Lib.hid (show lessF (a1, a2, a3, a4) (b1, b2, b3, b4) = Op.bytesLess a3.toList b3.toList by unfold lessF; rw [if_neg (by simpa using h1), if_pos e2])
      clear h1
      have HB1 := Lib.hid (Below.refl w.heap.size w)
      go_enter Try.func11, Try.ntmps11
      have HFa := Lib.hid (blk_alloc (blk_new w (.cells #[.int .i64 a1, .string a2, .string a3, .string a4] 32 (0, 0))) (.cells #[.int .i64 b1, .string b2, .string b3, .string b4] 32 (0, 0)))
      have HFb := Lib.hid (two_blk w (.cells #[.int .i64 a1, .string a2, .string a3, .string a4] 32 (0, 0)) (.cells #[.int .i64 b1, .string b2, .string b3, .string b4] 32 (0, 0)))
      have HB5 := Lib.hid ((HB1.out.alloc HB1.out.size (.cells #[.int .i64 a1, .string a2, .string a3, .string a4] 32 (0, 0))).alloc (HB1.out.alloc HB1.out.size (.cells #[.int .i64 a1, .string a2, .string a3, .string a4] 32 (0, 0))).size (.cells #[.int .i64 b1, .string b2, .string b3, .string b4] 32 (0, 0)))
      clear HB1
      have ha0 : ((w.alloc (.cells #[.int .i64 a1, .string a2, .string a3, .string a4] 32 (0, 0))).alloc (.cells #[.int .i64 b1, .string b2, .string b3, .string b4] 32 (0, 0))).cell? ⟨w.heap.size, 0, none⟩ = some (.int .i64 a1) := by rw [cell_of_row _ _ _ _ _ _ HFa.out]; rfl
      have ha1 : ((w.alloc (.cells #[.int .i64 a1, .string a2, .string a3, .string a4] 32 (0, 0))).alloc (.cells #[.int .i64 b1, .string b2, .string b3, .string b4] 32 (0, 0))).cell? ⟨w.heap.size, 1, none⟩ = some (.string a2) := by rw [cell_of_row _ _ _ _ _ _ HFa.out]; rfl
      have ha2 : ((w.alloc (.cells #[.int .i64 a1, .string a2, .string a3, .string a4] 32 (0, 0))).alloc (.cells #[.int .i64 b1, .string b2, .string b3, .string b4] 32 (0, 0))).cell? ⟨w.heap.size, 2, none⟩ = some (.string a3) := by rw [cell_of_row _ _ _ _ _ _ HFa.out]; rfl
      have ha3 : ((w.alloc (.cells #[.int .i64 a1, .string a2, .string a3, .string a4] 32 (0, 0))).alloc (.cells #[.int .i64 b1, .string b2, .string b3, .string b4] 32 (0, 0))).cell? ⟨w.heap.size, 3, none⟩ = some (.string a4) := by rw [cell_of_row _ _ _ _ _ _ HFa.out]; rfl
      have hb0 : ((w.alloc (.cells #[.int .i64 a1, .string a2, .string a3, .string a4] 32 (0, 0))).alloc (.cells #[.int .i64 b1, .string b2, .string b3, .string b4] 32 (0, 0))).cell? ⟨w.heap.size + 1, 0, none⟩ = some (.int .i64 b1) := by rw [cell_of_row _ _ _ _ _ _ HFb.out]; rfl
      have hb1 : ((w.alloc (.cells #[.int .i64 a1, .string a2, .string a3, .string a4] 32 (0, 0))).alloc (.cells #[.int .i64 b1, .string b2, .string b3, .string b4] 32 (0, 0))).cell? ⟨w.heap.size + 1, 1, none⟩ = some (.string b2) := by rw [cell_of_row _ _ _ _ _ _ HFb.out]; rfl
      have hb2 : ((w.alloc (.cells #[.int .i64 a1, .string a2, .string a3, .string a4] 32 (0, 0))).alloc (.cells #[.int .i64 b1, .string b2, .string b3, .string b4] 32 (0, 0))).cell? ⟨w.heap.size + 1, 2, none⟩ = some (.string b3) := by rw [cell_of_row _ _ _ _ _ _ HFb.out]; rfl
      have hb3 : ((w.alloc (.cells #[.int .i64 a1, .string a2, .string a3, .string a4] 32 (0, 0))).alloc (.cells #[.int .i64 b1, .string b2, .string b3, .string b4] 32 (0, 0))).cell? ⟨w.heap.size + 1, 3, none⟩ = some (.string b4) := by rw [cell_of_row _ _ _ _ _ _ HFb.out]; rfl
      go_wp2_with fail
      go_ret
      exact ⟨by first | (rw [HV.out]; done) | (rw [HV.out]; rfl), HB5.out⟩
    | false =>
      have HV := Lib.hid (show lessF (a1, a2, a3, a4) (b1, b2, b3, b4) = Op.bytesLess a2.toList b2.toList by unfold lessF; rw [if_neg (by simpa using h1), if_neg (by simp only; rw [e2]; simp)])
      clear h1
      have HB1 := Lib.hid (Below.refl w.heap.size w)
      go_enter Try.func11, Try.ntmps11
      have HFa := Lib.hid (blk_alloc (blk_new w (.cells #[.int .i64 a1, .string a2, .string a3, .string a4] 32 (0, 0))) (.cells #[.int .i64 b1, .string b2, .string b3, .string b4] 32 (0, 0)))
      have HFb := Lib.hid (two_blk w (.cells #[.int .i64 a1, .string a2, .string a3, .string a4] 32 (0, 0)) (.cells #[.int .i64 b1, .string b2, .string b3, .string b4] 32 (0, 0)))
      have HB5 := Lib.hid ((HB1.out.alloc HB1.out.size (.cells #[.int .i64 a1, .string a2, .string a3, .string a4] 32 (0, 0))).alloc (HB1.out.alloc HB1.out.size (.cells #[.int .i64 a1, .string a2, .string a3, .string a4] 32 (0, 0))).size (.cells #[.int .i64 b1, .string b2, .string b3, .string b4] 32 (0, 0)))
      clear HB1
      have ha0 : ((w.alloc (.cells #[.int .i64 a1, .string a2, .string a3, .string a4] 32 (0, 0))).alloc (.cells #[.int .i64 b1, .string b2, .string b3, .string b4] 32 (0, 0))).cell? ⟨w.heap.size, 0, none⟩ = some (.int .i64 a1) := by rw [cell_of_row _ _ _ _ _ _ HFa.out]; rfl
      have ha1 : ((w.alloc (.cells #[.int .i64 a1, .string a2, .string a3, .string a4] 32 (0, 0))).alloc (.cells #[.int .i64 b1, .string b2, .string b3, .string b4] 32 (0, 0))).cell? ⟨w.heap.size, 1, none⟩ = some (.string a2) := by rw [cell_of_row _ _ _ _ _ _ HFa.out]; rfl
      have ha2 : ((w.alloc (.cells #[.int .i64 a1, .string a2, .string a3, .string a4] 32 (0, 0))).alloc (.cells #[.int .i64 b1, .string b2, .string b3, .string b4] 32 (0, 0))).cell? ⟨w.heap.size, 2, none⟩ = some (.string a3) := by rw [cell_of_row _ _ _ _ _ _ HFa.out]; rfl
      have ha3 : ((w.alloc (.cells #[.int .i64 a1, .string a2, .string a3, .string a4] 32 (0, 0))).alloc (.cells #[.int .i64 b1, .string b2, .string b3, .string b4] 32 (0, 0))).cell? ⟨w.heap.size, 3, none⟩ = some (.string a4) := by rw [cell_of_row _ _ _ _ _ _ HFa.out]; rfl
      have hb0 : ((w.alloc (.cells #[.int .i64 a1, .string a2, .string a3, .string a4] 32 (0, 0))).alloc (.cells #[.int .i64 b1, .string b2, .string b3, .string b4] 32 (0, 0))).cell? ⟨w.heap.size + 1, 0, none⟩ = some (.int .i64 b1) := by rw [cell_of_row _ _ _ _ _ _ HFb.out]; rfl
      have hb1 : ((w.alloc (.cells #[.int .i64 a1, .string a2, .string a3, .string a4] 32 (0, 0))).alloc (.cells #[.int .i64 b1, .string b2, .string b3, .string b4] 32 (0, 0))).cell? ⟨w.heap.size + 1, 1, none⟩ = some (.string b2) := by rw [cell_of_row _ _ _ _ _ _ HFb.out]; rfl
      have hb2 : ((w.alloc (.cells #[.int .i64 a1, .string a2, .string a3, .string a4] 32 (0, 0))).alloc (.cells #[.int .i64 b1, .string b2, .string b3, .string b4] 32 (0, 0))).cell? ⟨w.heap.size + 1, 2, none⟩ = some (.string b3) := by rw [cell_of_row _ _ _ _ _ _ HFb.out]; rfl
      have hb3 : ((w.alloc (.cells #[.int .i64 a1, .string a2, .string a3, .string a4] 32 (0, 0))).alloc (.cells #[.int .i64 b1, .string b2, .string b3, .string b4] 32 (0, 0))).cell? ⟨w.heap.size + 1, 3, none⟩ = some (.string b4) := by rw [cell_of_row _ _ _ _ _ _ HFb.out]; rfl
      go_wp2_with fail
      go_ret
      exact ⟨by first | (rw [HV.out]; done) | (rw [HV.out]; rfl), HB5.out⟩
  · have e1 : (a1 != b1) = true := by simpa using h1
    have HV := Lib.hid (show lessF (a1, a2, a3, a4) (b1, b2, b3, b4) = decide (a1 < b1) by unfold lessF; rw [if_pos h1])
    clear h1
    have HB1 := Lib.hid (Below.refl w.heap.size w)
    go_enter Try.func11, Try.ntmps11
    have HFa := Lib.hid (blk_alloc (blk_new w (.cells #[.int .i64 a1, .string a2, .string a3, .string a4] 32 (0, 0))) (.cells #[.int .i64 b1, .string b2, .string b3, .string b4] 32 (0, 0)))
    have HFb := Lib.hid (two_blk w (.cells #[.int .i64 a1, .string a2, .string a3, .string a4] 32 (0, 0)) (.cells #[.int .i64 b1, .string b2, .string b3, .string b4] 32 (0, 0)))
    have HB5 := Lib.hid ((HB1.out.alloc HB1.out.size (.cells #[.int .i64 a1, .string a2, .string a3, .string a4] 32 (0, 0))).alloc (HB1.out.alloc HB1.out.size (.cells #[.int .i64 a1, .string a2, .string a3, .string a4] 32 (0, 0))).size (.cells #[.int .i64 b1, .string b2, .string b3, .string b4] 32 (0, 0)))
    clear HB1
    have ha0 : ((w.alloc (.cells #[.int .i64 a1, .string a2, .string a3, .string a4] 32 (0, 0))).alloc (.cells #[.int .i64 b1, .string b2, .string b3, .string b4] 32 (0, 0))).cell? ⟨w.heap.size, 0, none⟩ = some (.int .i64 a1) := by rw [cell_of_row _ _ _ _ _ _ HFa.out]; rfl
    have ha1 : ((w.alloc (.cells #[.int .i64 a1, .string a2, .string a3, .string a4] 32 (0, 0))).alloc (.cells #[.int .i64 b1, .string b2, .string b3, .string b4] 32 (0, 0))).cell? ⟨w.heap.size, 1, none⟩ = some (.string a2) := by rw [cell_of_row _ _ _ _ _ _ HFa.out]; rfl
    have ha2 : ((w.alloc (.cells #[.int .i64 a1, .string a2, .string a3, .string a4] 32 (0, 0))).alloc (.cells #[.int .i64 b1, .string b2, .string b3, .string b4] 32 (0, 0))).cell? ⟨w.heap.size, 2, none⟩ = some (.string a3) := by rw [cell_of_row _ _ _ _ _ _ HFa.out]; rfl
    have ha3 : ((w.alloc (.cells #[.int .i64 a1, .string a2, .string a3, .string a4] 32 (0, 0))).alloc (.cells #[.int .i64 b1, .string b2, .string b3, .string b4] 32 (0, 0))).cell? ⟨w.heap.size, 3, none⟩ = some (.string a4) := by rw [cell_of_row _ _ _ _ _ _ HFa.out]; rfl
    have hb0 : ((w.alloc (.cells #[.int .i64 a1, .string a2, .string a3, .string a4] 32 (0, 0))).alloc (.cells #[.int .i64 b1, .string b2, .string b3, .string b4] 32 (0, 0))).cell? ⟨w.heap.size + 1, 0, none⟩ = some (.int .i64 b1) := by rw [cell_of_row _ _ _ _ _ _ HFb.out]; rfl
    have hb1 : ((w.alloc (.cells #[.int .i64 a1, .string a2, .string a3, .string a4] 32 (0, 0))).alloc (.cells #[.int .i64 b1, .string b2, .string b3, .string b4] 32 (0, 0))).cell? ⟨w.heap.size + 1, 1, none⟩ = some (.string b2) := by rw [cell_of_row _ _ _ _ _ _ HFb.out]; rfl
    have hb2 : ((w.alloc (.cells #[.int .i64 a1, .string a2, .string a3, .string a4] 32 (0, 0))).alloc (.cells #[.int .i64 b1, .string b2, .string b3, .string b4] 32 (0, 0))).cell? ⟨w.heap.size + 1, 2, none⟩ = some (.string b3) := by rw [cell_of_row _ _ _ _ _ _ HFb.out]; rfl
    have hb3 : ((w.alloc (.cells #[.int .i64 a1, .string a2, .string a3, .string a4] 32 (0, 0))).alloc (.cells #[.int .i64 b1, .string b2, .string b3, .string b4] 32 (0, 0))).cell? ⟨w.heap.size + 1, 3, none⟩ = some (.string b4) := by rw [cell_of_row _ _ _ _ _ _ HFb.out]; rfl
    go_wp2_with fail
    go_ret
    exact ⟨by first | (rw [HV.out]; done) | (rw [HV.out]; rfl), HB5.out⟩
end Go.Proofs.Ytpjpegmjcgkonaa
