/- The walk of DeltaPuts over this translation. No condition. -/
import Derived.Test.YthndcgaelcilnaaDk
import Derived.Test.YthndcgaelcilnaaDf
namespace Go.Proofs.Ythndcgaelcilnaa.LDeltaPuts
open Go.RowKit Vi

theorem sizes : ∀ l : List Pc, l.all okP = true → (putLs l).length ≤ 65556 * l.length
  | [], _ => by simp [putLs]
  | p :: r, h => by
    simp only [List.all_cons, Bool.and_eq_true] at h
    have h1 := sizes r h.2
    obtain ⟨o1, o2, o3, o4⟩ := okP_bd h.1
    have e : putLs (p :: r) = putP p ++ putLs r := by unfold putLs; simp
    rw [e, List.length_append, List.length_cons]
    have hp : (putP p).length ≤ 65556 := by
      unfold putP
      have b1 := put_len (2 * p.2.2.1 + 1).toNat
      have b2 := put_len p.2.1.toNat
      have b3 := put_len (2 * p.2.2.1).toNat
      split
      · rw [List.length_append]; omega
      · next hc =>
        obtain ⟨_, o5⟩ := o4 (by simpa using hc)
        have e4 : p.2.2.2.data.toList.length = p.2.2.2.size := by simp
        rw [List.length_append]; omega
    omega
theorem rd_later {A : Option Addr} {n : Nat} {l : List Pc} {w w' : World} (h : RdX pcC 4 w A n l) (hb : Below w.heap.size w w') : RdX pcC 4 w' A n l := h.below hb
theorem take_ok (l : List Pc) (hl : l.length ≤ 60) (k : Nat) (h : (l.take k).all okP = true) : (putLs (l.take k)).length ≤ 5000000 := by
  have h1 := sizes _ h
  have h2 : (l.take k).length ≤ l.length := by rw [List.length_take]; omega
  omega
set_option maxRecDepth 100000 in
set_option maxHeartbeats 4000000 in
theorem walk (B : ByteArray) (A : Option Addr) (n c : Nat) (l : List Pc) (w : World) (h : RdX pcC 4 w A n l) (hm : n ≤ maxLen) (ho : ∀ p ∈ l, p.2.2.2.size ≤ maxLen) :
    Calls Try.prog 3 #[.string B, .slice A n c] w fun e w' => e = .returned (.bool true) ∧ Below w.heap.size w w' := by
  unfold maxLen at hm
  have hni : (n : Int) ≤ 9223372036854775807 := by omega
  have H := Lib.hid h
  have LL := Lib.hid h.1
  have HO := Lib.hid ho
  clear h ho
  by_cases hb : B.size ≤ 1000
  · have hd1 : decide ((1000 : Int) < (B.size : Int)) = false := decide_eq_false (by omega)
    have HFW := Lib.hid (few11_any A n c l w H.out hni)
    cases hf : fewB l with
    | false =>
      rw [hf] at HFW
      clear hf hb
      go_enter Try.func3, Try.ntmps3
      go_wp2_with fail
      refine HFW.out.mono ?_
      rintro e w1 ⟨rfl, hb1⟩
      have HB1 := Lib.hid hb1
      clear hb1
      go_wp2_with fail
      refine (awake11 w1).mono ?_
      rintro e w2 ⟨rfl, hb2⟩
      have HB2 := Lib.hid (HB1.out.trans (hb2.mono HB1.out.size))
      clear hb2
      go_wp2_with fail
      go_ret
      exact ⟨rfl, HB2.out⟩
    | true =>
      rw [hf] at HFW
      have h60 : n ≤ 60 := by
        unfold fewB at hf
        simp only [Bool.and_eq_true, decide_eq_true_eq] at hf
        have := LL.out
        omega
      have HM := Lib.hid (take_ok l (by have := LL.out; omega))
      have hb2 : B.size ≤ 100000 := by omega
      obtain ⟨Z, z, hz⟩ : ∃ Z z, jn B l ⟨#[]⟩ = (Z, z) := ⟨_, _, rfl⟩
      have CJ1 := Lib.hid (fun (W : World) (g : RdX pcC 4 W A n l) => djoin_any B A n c l W g (by omega) hb2 Z z hz)
      have CJ2 := Lib.hid (fun (W : World) (g : RdX pcC 4 W A n l) => rjoin_any B A n c l W g (by omega) hb2 Z z hz)
      have CP1 := Lib.hid (fun (W : World) (g : RdX pcC 4 W A n l) => dput_any A n c l W g (by omega) HM.out)
      have CP2 := Lib.hid (fun (W : World) (g : RdX pcC 4 W A n l) => rdput_any A n c l W g (by omega) HM.out HO.out)
      have hqz : (Z.toList == Z.toList) = true := by simp
      clear hz hf hb hb2
      go_enter Try.func3, Try.ntmps3
      go_wp2_with fail
      refine HFW.out.mono ?_
      rintro e w0 ⟨rfl, hb1⟩
      have HB0 := Lib.hid hb1
      clear hb1 HFW
      go_wp2_with fail
      go_loopw [26] (fun i wr => ∃ k : Nat, i = .int .i64 (k : Int) ∧ k ≤ n ∧ Below w.heap.size w wr) (fun i _ => n - (intOf i).toNat)
      case atStart => exact ⟨0, rfl, Nat.zero_le _, HB0.out⟩
      case round =>
        obtain ⟨k, rfl, hk, hb⟩ := hrel
        have HB := Lib.hid hb
        clear hb
        by_cases hlt : k < n
        · obtain ⟨b, off, hl, rfl, hbb, hc⟩ := H.out.at hlt
          obtain ⟨p, hp⟩ : ∃ p, l[k] = p := ⟨_, rfl⟩
          rw [hp] at hc
          clear hp
          obtain ⟨pc, pa, pn, po⟩ := p
          have a0 : wr.cell? ⟨b, off + k * 4, none⟩ = some (.bool pc) := (HB.out.cell (p := ⟨b, _, none⟩) hbb).trans (hc 0 _ rfl)
          have a1 : wr.cell? ⟨b, off + k * 4 + 1, none⟩ = some (.int .i64 pa) := (HB.out.cell (p := ⟨b, _, none⟩) hbb).trans (hc 1 _ rfl)
          have a2 : wr.cell? ⟨b, off + k * 4 + 2, none⟩ = some (.int .i64 pn) := (HB.out.cell (p := ⟨b, _, none⟩) hbb).trans (hc 2 _ rfl)
          have a3 : wr.cell? ⟨b, off + k * 4 + 3, none⟩ = some (.string po) := (HB.out.cell (p := ⟨b, _, none⟩) hbb).trans (hc 3 _ rfl)
          clear hc
          cases hok : okP (pc, pa, pn, po) with
          | false =>
            have HI1 := Lib.hid (fun W : World => dcheck_any pc pa pn po false W hok)
            have HI2 := Lib.hid (fun W : World => dis_any pc pa pn po false W hok)
            rw [if_neg (by simp)] at HI1
            clear hok
            have HF1 := Lib.hid (blk_new wr (.cells #[.bool pc, .int .i64 pa, .int .i64 pn, .string po] 26 (0, 0)))
            have HB2 := Lib.hid (HB.out.alloc HB.out.size (.cells #[.bool pc, .int .i64 pa, .int .i64 pn, .string po] 26 (0, 0)))
            clear HB
            go_wp2_with fail
            clear a0 a1 a2 a3
            have hc3 : (wr.alloc (.cells #[.bool pc, .int .i64 pa, .int .i64 pn, .string po] 26 (0, 0))).cell? ⟨wr.heap.size, 0, none⟩ = some (.bool pc) := by rw [cell_of_row _ _ _ _ _ _ HF1.out]; rfl
            have hc4 : (wr.alloc (.cells #[.bool pc, .int .i64 pa, .int .i64 pn, .string po] 26 (0, 0))).cell? ⟨wr.heap.size, 1, none⟩ = some (.int .i64 pa) := by rw [cell_of_row _ _ _ _ _ _ HF1.out]; rfl
            have hc5 : (wr.alloc (.cells #[.bool pc, .int .i64 pa, .int .i64 pn, .string po] 26 (0, 0))).cell? ⟨wr.heap.size, 2, none⟩ = some (.int .i64 pn) := by rw [cell_of_row _ _ _ _ _ _ HF1.out]; rfl
            have hc6 : (wr.alloc (.cells #[.bool pc, .int .i64 pa, .int .i64 pn, .string po] 26 (0, 0))).cell? ⟨wr.heap.size, 3, none⟩ = some (.string po) := by rw [cell_of_row _ _ _ _ _ _ HF1.out]; rfl
            have hr7 := fun d os => cell_regrown hc3 d os
            have hr8 := fun d os => cell_regrown hc4 d os
            have hr9 := fun d os => cell_regrown hc5 d os
            have hr10 := fun d os => cell_regrown hc6 d os
            refine wp_region_quiet_below (by kernel_rfl) (by kernel_rfl) ?_
            repeat (any_goals (first | go_big_quiet_step (first | (go_at_call 17; exact Calls.regrown_of (HI1.out _)) | (go_at_call 18; exact Calls.regrown_of (HI2.out _))) | quiet_step (first | (go_at_call 17; exact Calls.regrown_of (HI1.out _)) | (go_at_call 18; exact Calls.regrown_of (HI2.out _)))))
            refine wpQuiet_nil ?_
            intro w1 hw1
            have hb1 := below_anyY hw1
            clear hw1 hr7 hr8 hr9 hr10
            clear hc3 hc4 hc5 hc6
            have HF11 := Lib.hid (blk_below HF1.out hb1)
            have HB12 := Lib.hid (HB2.out.trans (hb1.mono HB2.out.size))
            clear hb1 HB2 HF1
            go_wp2_with fail
            go_roundw
            case rel => exact ⟨k + 1, by go_num, by omega, HB12.out⟩
            case measure => simp [intOf] <;> omega
          | true =>
            have HI1 := Lib.hid (fun W : World => dcheck_any pc pa pn po true W hok)
            have HI2 := Lib.hid (fun W : World => dis_any pc pa pn po true W hok)
            rw [if_pos rfl] at HI1
            clear hok
            have HF1 := Lib.hid (blk_new wr (.cells #[.bool pc, .int .i64 pa, .int .i64 pn, .string po] 26 (0, 0)))
            have HB2 := Lib.hid (HB.out.alloc HB.out.size (.cells #[.bool pc, .int .i64 pa, .int .i64 pn, .string po] 26 (0, 0)))
            clear HB
            go_wp2_with fail
            clear a0 a1 a2 a3
            have hc3 : (wr.alloc (.cells #[.bool pc, .int .i64 pa, .int .i64 pn, .string po] 26 (0, 0))).cell? ⟨wr.heap.size, 0, none⟩ = some (.bool pc) := by rw [cell_of_row _ _ _ _ _ _ HF1.out]; rfl
            have hc4 : (wr.alloc (.cells #[.bool pc, .int .i64 pa, .int .i64 pn, .string po] 26 (0, 0))).cell? ⟨wr.heap.size, 1, none⟩ = some (.int .i64 pa) := by rw [cell_of_row _ _ _ _ _ _ HF1.out]; rfl
            have hc5 : (wr.alloc (.cells #[.bool pc, .int .i64 pa, .int .i64 pn, .string po] 26 (0, 0))).cell? ⟨wr.heap.size, 2, none⟩ = some (.int .i64 pn) := by rw [cell_of_row _ _ _ _ _ _ HF1.out]; rfl
            have hc6 : (wr.alloc (.cells #[.bool pc, .int .i64 pa, .int .i64 pn, .string po] 26 (0, 0))).cell? ⟨wr.heap.size, 3, none⟩ = some (.string po) := by rw [cell_of_row _ _ _ _ _ _ HF1.out]; rfl
            have hr7 := fun d os => cell_regrown hc3 d os
            have hr8 := fun d os => cell_regrown hc4 d os
            have hr9 := fun d os => cell_regrown hc5 d os
            have hr10 := fun d os => cell_regrown hc6 d os
            refine wp_region_quiet_below (by kernel_rfl) (by kernel_rfl) ?_
            repeat (any_goals (first | go_big_quiet_step (first | (go_at_call 17; exact Calls.regrown_of (HI1.out _)) | (go_at_call 18; exact Calls.regrown_of (HI2.out _))) | quiet_step (first | (go_at_call 17; exact Calls.regrown_of (HI1.out _)) | (go_at_call 18; exact Calls.regrown_of (HI2.out _)))))
            refine wpQuiet_nil ?_
            intro w1 hw1
            have hb1 := below_anyY hw1
            clear hw1 hr7 hr8 hr9 hr10
            clear hc3 hc4 hc5 hc6
            have HF11 := Lib.hid (blk_below HF1.out hb1)
            have HB12 := Lib.hid (HB2.out.trans (hb1.mono HB2.out.size))
            clear hb1 HB2 HF1
            go_wp2_with fail
            go_roundw
            case rel => exact ⟨k + 1, by go_num, by omega, HB12.out⟩
            case measure => simp [intOf] <;> omega
        · obtain rfl : k = n := by omega
          have hd1 : decide ((k : Int) < (k : Int)) = false := decide_eq_false (by omega)
          obtain ⟨S, hS⟩ : ∃ S : ByteArray, S = if l.all okP = true then ⟨(putLs l).toArray⟩ else ⟨#[]⟩ := ⟨_, rfl⟩
          have hq : (S.toList == S.toList) = true := by simp
          cases hall : l.all okP with
          | false =>
            have HV1 := Lib.hid (show dputV l = .tuple #[.string S, .int .i64 2] by unfold dputV; rw [if_neg (by rw [hall]; simp), hS, if_neg (by rw [hall]; simp)])
            have HV2 := Lib.hid (show putV l = .tuple #[.string S, .bool false] by unfold putV; rw [if_neg (by rw [hall]; simp), hS, if_neg (by rw [hall]; simp)])
            rw [HV1.out] at CP1
            rw [HV2.out] at CP2
            clear hS hall HV1 HV2
            go_wp2_with fail
            refine (CP1.out wr (rd_later H.out HB.out)).mono ?_
            rintro e w1 ⟨rfl, hb1⟩
            have HB1 := Lib.hid (HB.out.trans (hb1.mono HB.out.size))
            clear hb1 HB 
            go_wp2_with fail
            refine (CP2.out w1 (rd_later H.out HB1.out)).mono ?_
            rintro e w2 ⟨rfl, hb2⟩
            have HB2 := Lib.hid (HB1.out.trans (hb2.mono HB1.out.size))
            clear hb2 HB1 
            go_wp2_with fail
            refine (CJ1.out w2 (rd_later H.out HB2.out)).mono ?_
            rintro e w3 ⟨rfl, hb3⟩
            have HB3 := Lib.hid (HB2.out.trans (hb3.mono HB2.out.size))
            clear hb3 HB2 
            go_wp2_with fail
            refine (CJ2.out w3 (rd_later H.out HB3.out)).mono ?_
            rintro e w4 ⟨rfl, hb4⟩
            have HB4 := Lib.hid (HB3.out.trans (hb4.mono HB3.out.size))
            clear hb4 HB3 
            go_wp2_with fail
            refine (awake11 w4).mono ?_
            rintro e w5 ⟨rfl, hb5⟩
            have HB5 := Lib.hid (HB4.out.trans (hb5.mono HB4.out.size))
            clear hb5 HB4 
            go_wp2_with fail
            go_ret
            exact ⟨rfl, HB5.out⟩
          | true =>
            have HV1 := Lib.hid (show dputV l = .tuple #[.string S, .int .i64 0] by unfold dputV; rw [if_pos hall, hS, if_pos hall])
            have HV2 := Lib.hid (show putV l = .tuple #[.string S, .bool true] by unfold putV; rw [if_pos hall, hS, if_pos hall])
            rw [HV1.out] at CP1
            rw [HV2.out] at CP2
            clear hS hall HV1 HV2
            go_wp2_with fail
            refine (CP1.out wr (rd_later H.out HB.out)).mono ?_
            rintro e w1 ⟨rfl, hb1⟩
            have HB1 := Lib.hid (HB.out.trans (hb1.mono HB.out.size))
            clear hb1 HB 
            go_wp2_with fail
            refine (CP2.out w1 (rd_later H.out HB1.out)).mono ?_
            rintro e w2 ⟨rfl, hb2⟩
            have HB2 := Lib.hid (HB1.out.trans (hb2.mono HB1.out.size))
            clear hb2 HB1 
            go_wp2_with fail
            refine (CJ1.out w2 (rd_later H.out HB2.out)).mono ?_
            rintro e w3 ⟨rfl, hb3⟩
            have HB3 := Lib.hid (HB2.out.trans (hb3.mono HB2.out.size))
            clear hb3 HB2 
            go_wp2_with fail
            refine (CJ2.out w3 (rd_later H.out HB3.out)).mono ?_
            rintro e w4 ⟨rfl, hb4⟩
            have HB4 := Lib.hid (HB3.out.trans (hb4.mono HB3.out.size))
            clear hb4 HB3 
            go_wp2_with fail
            refine (awake11 w4).mono ?_
            rintro e w5 ⟨rfl, hb5⟩
            have HB5 := Lib.hid (HB4.out.trans (hb5.mono HB4.out.size))
            clear hb5 HB4 
            go_wp2_with fail
            go_ret
            exact ⟨rfl, HB5.out⟩
  · have hd1 : decide ((1000 : Int) < (B.size : Int)) = true := decide_eq_true (by omega)
    clear hb
    go_enter Try.func3, Try.ntmps3
    go_wp2_with fail
    refine (awake11 w).mono ?_
    rintro e w6 ⟨rfl, hb6⟩
    have HB6 := Lib.hid hb6
    clear hb6
    go_wp2_with fail
    go_ret
    exact ⟨rfl, HB6.out⟩
end Go.Proofs.Ythndcgaelcilnaa.LDeltaPuts
