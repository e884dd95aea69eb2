/- facts.Rise, Ends, and the document's Rises, Parted, over this translation. Condition: slices that are no longer than they may be. -/
import Derived.Test.YtpjpegmjcgkonaaIa
import Derived.IntWalk
namespace Go.Proofs.Ytpjpegmjcgkonaa
open Go.RowKit Vi

def risesF : List Fc → Bool
  | a :: b :: r => lessF a b && risesF (b :: r)
  | _ => true
def riseE (l : List Fc) : Int := if risesF l = true then 0 else 4
theorem riseE_yes {l : List Fc} (h : risesF l = true) : riseE l = 0 := by unfold riseE; rw [if_pos h]
theorem riseE_no {l : List Fc} (h : risesF l = false) : riseE l = 4 := by unfold riseE; rw [if_neg (by rw [h]; simp)]
set_option maxRecDepth 100000 in
set_option maxHeartbeats 2000000 in
theorem frise_any (A : Option Addr) (n c : Nat) (l : List Fc) (w : World) (h : RdX fcC 4 w A n l) (hn : (n : Int) ≤ 9223372036854775806) :
    Calls Try.prog 38 #[.slice A n c] w fun e w' => e = .returned (.int .i64 (riseE l)) ∧ Below w.heap.size w w' := by
  have H := Lib.hid h
  have LL := Lib.hid h.1
  have HB1 := Lib.hid (Below.refl w.heap.size w)
  clear h
  go_enter Try.func38, Try.ntmps38
  go_wp2_with fail
  go_loopw [3] (fun i wr => ∃ j k : Nat, i = .int .i64 (k : Int) ∧ k = j + 1 ∧ j ≤ n ∧ risesF (l.drop j) = risesF l ∧ Below w.heap.size w wr) (fun i _ => n + 1 - (intOf i).toNat)
  case atStart => exact ⟨0, 1, rfl, rfl, Nat.zero_le _, rfl, HB1.out⟩
  case round =>
    obtain ⟨j, k, rfl, hkj, hk, hs, hb⟩ := hrel
    have HS := Lib.hid hs
    have HB := Lib.hid hb
    clear hs hb
    by_cases hlt : k < n
    · have hd1 : decide ((k : Int) < (n : Int)) = true := decide_eq_true (by omega)
      have hl0 : j < l.length := by rw [LL.out]; omega
      have hl1 : k < l.length := by rw [LL.out]; omega
      obtain ⟨b, off, _, hA, hbb, hc⟩ := (H.out.below HB.out).at (show j < n by omega)
      obtain ⟨b', off', _, hA', _, hd⟩ := (H.out.below HB.out).at (show k < n by omega)
      rw [hA] at hA'
      injection hA' with q1
      injection q1 with q2 q3
      subst q2 q3
      have HST := Lib.hid (show risesF (l.drop j) = (lessF l[j] l[k] && risesF (l.drop k)) by
        rw [List.drop_eq_getElem_cons hl0, ← hkj, List.drop_eq_getElem_cons hl1]; rfl)
      obtain ⟨x, hx⟩ : ∃ x, l[j] = x := ⟨_, rfl⟩
      obtain ⟨y, hy⟩ : ∃ y, l[k] = y := ⟨_, rfl⟩
      rw [hx] at hc HST
      rw [hy] at hd HST
      obtain ⟨x1, x2, x3, x4⟩ := x
      obtain ⟨y1, y2, y3, y4⟩ := y
      have a0 : wr.cell? ⟨b, off + j * 4, none⟩ = _ := hc 0 _ rfl
      have a1 := hc 1 _ rfl
      have a2 := hc 2 _ rfl
      have a3 := hc 3 _ rfl
      have b0 : wr.cell? ⟨b, off + k * 4, none⟩ = _ := hd 0 _ rfl
      have b1 := hd 1 _ rfl
      have b2 := hd 2 _ rfl
      have b3 := hd 3 _ rfl
      have hi0 : (0 : Int) ≤ (k : Int) := by omega
      have hi1 : (0 : Int) ≤ (j : Int) := by omega
      have hi2 : (j : Int) < (n : Int) := by omega
      have hi3 : (k : Int) < (n : Int) := by omega
      have hjn : j < n := by omega
      have hw : IntKind.i64.wrap ((k : Int) - 1) = (j : Int) := by rw [IntWalk.i64_in _ (by omega)]; omega
      have HF := Lib.hid (fun W : World => fcmp_any x1 x2 x3 x4 y1 y2 y3 y4 W)
      have HLT := Lib.hid (cmpF_lt (x1, x2, x3, x4) (y1, y2, y3, y4))
      generalize cmpF (x1, x2, x3, x4) (y1, y2, y3, y4) = cv at HF HLT
      subst hA
      have HKJ := Lib.hid hkj
      clear hc hd hx hy hkj
      cases hp : lessF (x1, x2, x3, x4) (y1, y2, y3, y4) with
      | true =>
        have hcv := HLT.out.mpr hp
        have d1 : decide (cv < 0) = true := decide_eq_true hcv
        have d2 : decide (0 ≤ cv) = false := decide_eq_false (by omega)
        clear hcv HLT
        have HR := Lib.hid (show risesF l = risesF (l.drop k) by rw [← HS.out, HST.out, hp]; rfl)
        clear hp HST
        go_wp2_with fail
        have r0 := fun d os => cell_regrown a0 d os
        have r1 := fun d os => cell_regrown a1 d os
        have r2 := fun d os => cell_regrown a2 d os
        have r3 := fun d os => cell_regrown a3 d os
        have s0 := fun d os => cell_regrown b0 d os
        have s1 := fun d os => cell_regrown b1 d os
        have s2 := fun d os => cell_regrown b2 d os
        have s3 := fun d os => cell_regrown b3 d os
        refine wp_region_quiet_below (by kernel_rfl) (by kernel_rfl) ?_
        repeat (any_goals (first | go_big_quiet_step ((first | (go_at_call 21; with_reducible exact Calls.regrown_of (HF.out _)))) | quiet_step ((first | (go_at_call 21; with_reducible exact Calls.regrown_of (HF.out _))))))
        refine wpQuiet_nil ?_
        intro w1 hw1
        have hb1 := below_anyY hw1
        clear hw1 r0 r1 r2 r3 s0 s1 s2 s3
        clear a0 a1 a2 a3 b0 b1 b2 b3 hw
        have HB2 := Lib.hid (HB.out.trans (hb1.mono HB.out.size))
        clear hb1 HB
        go_wp2_with fail
        go_roundw
        case rel => exact ⟨k, k + 1, by go_num, rfl, by omega, HR.out.symm, HB2.out⟩
        case measure => simp [intOf] <;> omega
      | false =>
        have hcv : ¬ cv < 0 := fun q => by rw [HLT.out.mp q] at hp; cases hp
        have d1 : decide (cv < 0) = false := decide_eq_false hcv
        have d2 : decide (0 ≤ cv) = true := decide_eq_true (by omega)
        clear hcv HLT
        have HR := Lib.hid (show risesF l = false by rw [← HS.out, HST.out, hp]; rfl)
        clear hp HST
        go_wp2_with fail
        have r0 := fun d os => cell_regrown a0 d os
        have r1 := fun d os => cell_regrown a1 d os
        have r2 := fun d os => cell_regrown a2 d os
        have r3 := fun d os => cell_regrown a3 d os
        have s0 := fun d os => cell_regrown b0 d os
        have s1 := fun d os => cell_regrown b1 d os
        have s2 := fun d os => cell_regrown b2 d os
        have s3 := fun d os => cell_regrown b3 d os
        refine wp_region_quiet_below (by kernel_rfl) (by kernel_rfl) ?_
        repeat (any_goals (first | go_big_quiet_step ((first | (go_at_call 21; with_reducible exact Calls.regrown_of (HF.out _)))) | quiet_step ((first | (go_at_call 21; with_reducible exact Calls.regrown_of (HF.out _))))))
        refine wpQuiet_nil ?_
        intro w1 hw1
        have hb1 := below_anyY hw1
        clear hw1 r0 r1 r2 r3 s0 s1 s2 s3
        clear a0 a1 a2 a3 b0 b1 b2 b3 hw
        have HB2 := Lib.hid (HB.out.trans (hb1.mono HB.out.size))
        clear hb1 HB
        go_wp2_with fail
        go_ret
        exact ⟨by first | (rw [riseE_no HR.out]; done) | (rw [riseE_no HR.out]; rfl), HB2.out⟩
    · have hd1 : decide ((k : Int) < (n : Int)) = false := decide_eq_false (by omega)
      have HR := Lib.hid (show risesF l = true by
        rw [← HS.out]
        have hz : (l.drop j).length ≤ 1 := by rw [List.length_drop, LL.out]; omega
        cases hq : l.drop j with
        | nil => rfl
        | cons a r =>
          cases r with
          | nil => rfl
          | cons _ _ => rw [hq] at hz; simp at hz)
      go_wp2_with fail
      go_ret
      exact ⟨by first | (rw [riseE_yes HR.out]; done) | (rw [riseE_yes HR.out]; rfl), HB.out⟩
set_option maxRecDepth 100000 in
set_option maxHeartbeats 2000000 in
theorem rrises_any (A : Option Addr) (n c : Nat) (l : List Fc) (w : World) (h : RdX fcC 4 w A n l) (hn : (n : Int) ≤ 9223372036854775806) :
    Calls Try.prog 6 #[.slice A n c] w fun e w' => e = .returned (.bool (risesF l)) ∧ Below w.heap.size w w' := by
  have H := Lib.hid h
  have LL := Lib.hid h.1
  have HB1 := Lib.hid (Below.refl w.heap.size w)
  clear h
  go_enter Try.func6, Try.ntmps6
  go_wp2_with fail
  go_loopw [3] (fun i wr => ∃ j k : Nat, i = .int .i64 (k : Int) ∧ k = j + 1 ∧ j ≤ n ∧ risesF (l.drop j) = risesF l ∧ Below w.heap.size w wr) (fun i _ => n + 1 - (intOf i).toNat)
  case atStart => exact ⟨0, 1, rfl, rfl, Nat.zero_le _, rfl, HB1.out⟩
  case round =>
    obtain ⟨j, k, rfl, hkj, hk, hs, hb⟩ := hrel
    have HS := Lib.hid hs
    have HB := Lib.hid hb
    clear hs hb
    by_cases hlt : k < n
    · have hd1 : decide ((k : Int) < (n : Int)) = true := decide_eq_true (by omega)
      have hl0 : j < l.length := by rw [LL.out]; omega
      have hl1 : k < l.length := by rw [LL.out]; omega
      obtain ⟨b, off, _, hA, hbb, hc⟩ := (H.out.below HB.out).at (show j < n by omega)
      obtain ⟨b', off', _, hA', _, hd⟩ := (H.out.below HB.out).at (show k < n by omega)
      rw [hA] at hA'
      injection hA' with q1
      injection q1 with q2 q3
      subst q2 q3
      have HST := Lib.hid (show risesF (l.drop j) = (lessF l[j] l[k] && risesF (l.drop k)) by
        rw [List.drop_eq_getElem_cons hl0, ← hkj, List.drop_eq_getElem_cons hl1]; rfl)
      obtain ⟨x, hx⟩ : ∃ x, l[j] = x := ⟨_, rfl⟩
      obtain ⟨y, hy⟩ : ∃ y, l[k] = y := ⟨_, rfl⟩
      rw [hx] at hc HST
      rw [hy] at hd HST
      obtain ⟨x1, x2, x3, x4⟩ := x
      obtain ⟨y1, y2, y3, y4⟩ := y
      have a0 : wr.cell? ⟨b, off + j * 4, none⟩ = _ := hc 0 _ rfl
      have a1 := hc 1 _ rfl
      have a2 := hc 2 _ rfl
      have a3 := hc 3 _ rfl
      have b0 : wr.cell? ⟨b, off + k * 4, none⟩ = _ := hd 0 _ rfl
      have b1 := hd 1 _ rfl
      have b2 := hd 2 _ rfl
      have b3 := hd 3 _ rfl
      have hi0 : (0 : Int) ≤ (k : Int) := by omega
      have hi1 : (0 : Int) ≤ (j : Int) := by omega
      have hi2 : (j : Int) < (n : Int) := by omega
      have hi3 : (k : Int) < (n : Int) := by omega
      have hjn : j < n := by omega
      have hw : IntKind.i64.wrap ((k : Int) - 1) = (j : Int) := by rw [IntWalk.i64_in _ (by omega)]; omega
      have HF := Lib.hid (fun W : World => rless_any x1 x2 x3 x4 y1 y2 y3 y4 W)
      subst hA
      have HKJ := Lib.hid hkj
      clear hc hd hx hy hkj
      cases hp : lessF (x1, x2, x3, x4) (y1, y2, y3, y4) with
      | true =>
        rw [hp] at HF
        have HR := Lib.hid (show risesF l = risesF (l.drop k) by rw [← HS.out, HST.out, hp]; rfl)
        clear hp HST
        go_wp2_with fail
        have r0 := fun d os => cell_regrown a0 d os
        have r1 := fun d os => cell_regrown a1 d os
        have r2 := fun d os => cell_regrown a2 d os
        have r3 := fun d os => cell_regrown a3 d os
        have s0 := fun d os => cell_regrown b0 d os
        have s1 := fun d os => cell_regrown b1 d os
        have s2 := fun d os => cell_regrown b2 d os
        have s3 := fun d os => cell_regrown b3 d os
        refine wp_region_quiet_below (by kernel_rfl) (by kernel_rfl) ?_
        repeat (any_goals (first | go_big_quiet_step ((first | (go_at_call 11; with_reducible exact Calls.regrown_of (HF.out _)))) | quiet_step ((first | (go_at_call 11; with_reducible exact Calls.regrown_of (HF.out _))))))
        refine wpQuiet_nil ?_
        intro w1 hw1
        have hb1 := below_anyY hw1
        clear hw1 r0 r1 r2 r3 s0 s1 s2 s3
        clear a0 a1 a2 a3 b0 b1 b2 b3 hw
        have HB2 := Lib.hid (HB.out.trans (hb1.mono HB.out.size))
        clear hb1 HB
        go_wp2_with fail
        go_roundw
        case rel => exact ⟨k, k + 1, by go_num, rfl, by omega, HR.out.symm, HB2.out⟩
        case measure => simp [intOf] <;> omega
      | false =>
        rw [hp] at HF
        have HR := Lib.hid (show risesF l = false by rw [← HS.out, HST.out, hp]; rfl)
        clear hp HST
        go_wp2_with fail
        have r0 := fun d os => cell_regrown a0 d os
        have r1 := fun d os => cell_regrown a1 d os
        have r2 := fun d os => cell_regrown a2 d os
        have r3 := fun d os => cell_regrown a3 d os
        have s0 := fun d os => cell_regrown b0 d os
        have s1 := fun d os => cell_regrown b1 d os
        have s2 := fun d os => cell_regrown b2 d os
        have s3 := fun d os => cell_regrown b3 d os
        refine wp_region_quiet_below (by kernel_rfl) (by kernel_rfl) ?_
        repeat (any_goals (first | go_big_quiet_step ((first | (go_at_call 11; with_reducible exact Calls.regrown_of (HF.out _)))) | quiet_step ((first | (go_at_call 11; with_reducible exact Calls.regrown_of (HF.out _))))))
        refine wpQuiet_nil ?_
        intro w1 hw1
        have hb1 := below_anyY hw1
        clear hw1 r0 r1 r2 r3 s0 s1 s2 s3
        clear a0 a1 a2 a3 b0 b1 b2 b3 hw
        have HB2 := Lib.hid (HB.out.trans (hb1.mono HB.out.size))
        clear hb1 HB
        go_wp2_with fail
        go_ret
        exact ⟨by first | (rw [HR.out]; done) | (rw [HR.out]; rfl), HB2.out⟩
    · have hd1 : decide ((k : Int) < (n : Int)) = false := decide_eq_false (by omega)
      have HR := Lib.hid (show risesF l = true by
        rw [← HS.out]
        have hz : (l.drop j).length ≤ 1 := by rw [List.length_drop, LL.out]; omega
        cases hq : l.drop j with
        | nil => rfl
        | cons a r =>
          cases r with
          | nil => rfl
          | cons _ _ => rw [hq] at hz; simp at hz)
      go_wp2_with fail
      go_ret
      exact ⟨by first | (rw [HR.out]; done) | (rw [HR.out]; rfl), HB.out⟩
set_option maxRecDepth 100000 in
theorem fends_any (s t : ByteArray) (w : World) (hs : s.size ≤ 1000000) (ht : t.size ≤ 1000000) : Calls Try.prog 36 #[.string s, .string t] w fun e w' => e = .returned (.string (s ++ ⟨#[0]⟩ ++ t)) ∧ w = w' := by
  have h1 : ¬ 9223372036854775807 < s.size + 1 := by omega
  have h2 : ¬ 9223372036854775807 < s.size + 1 + t.size := by omega
  go_enter Try.func36, Try.ntmps36
  go_wp2_with fail
  go_ret
  exact ⟨rfl, rfl⟩
end Go.Proofs.Ytpjpegmjcgkonaa
