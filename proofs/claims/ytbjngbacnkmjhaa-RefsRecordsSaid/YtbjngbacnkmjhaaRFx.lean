/- Refs, first part: XRFa, XRFb, XRFc, XRFd in one (a claim holds 60 files). -/
import Derived.Test.YtbjngbacnkmjhaaIa
import Derived.Test.YtbjngbacnkmjhaaNb
import Derived.Test.YtbjngbacnkmjhaaPx
import Derived.IntWalk
import Derived.Deep.DeepCutAuto
import Derived.Test.YtbjngbacnkmjhaaPm
import Derived.Lib.AppendZerosOnto
import Derived.Lib.SliceRun
import Derived.Laws.OwnMore
namespace Go.Proofs.Ytbjngbacnkmjhaa
open Go.RowKit Vi

abbrev Rf := Int × ByteArray × ByteArray
def rfC (f : Rf) : List Value := [.int .i64 f.1, .string f.2.1, .string f.2.2]
theorem rfC_len (f : Rf) : (rfC f).length = 3 := rfl
theorem rfC_one (f : Rf) : ∀ u ∈ rfC f, u.oneCell' = true := by
  intro u hu
  simp only [rfC, List.mem_cons, List.not_mem_nil, or_false] at hu
  rcases hu with h | h | h <;> (subst h; rfl)
def cmpR (a b : Rf) : Int := orL [cmpI a.1 b.1, cmpS a.2.1 b.2.1]
def lessR (a b : Rf) : Bool := if a.1 ≠ b.1 then decide (a.1 < b.1) else Op.bytesLess a.2.1.toList b.2.1.toList
def sameK (a b : Rf) : Bool := decide (a.1 = b.1) && (a.2.1.toList == b.2.1.toList)
theorem cmpR_abs (a b : Rf) : -1 ≤ cmpR a b ∧ cmpR a b ≤ 1 := by
  unfold cmpR orL orL orL
  split
  · unfold cmpI; split <;> (try split) <;> omega
  · split
    · unfold cmpS; split <;> (try split) <;> omega
    · omega
theorem cmpR_cases (a b : Rf) : (lessR a b = true ∧ lessR b a = false ∧ cmpR a b = -1 ∧ sameK a b = false) ∨ (lessR a b = false ∧ lessR b a = true ∧ cmpR a b = 1 ∧ sameK a b = false) ∨ (lessR a b = false ∧ lessR b a = false ∧ cmpR a b = 0 ∧ sameK a b = true) := by
  obtain ⟨a1, a2, a3⟩ := a
  obtain ⟨b1, b2, b3⟩ := b
  unfold cmpR lessR sameK orL orL orL cmpI cmpS
  simp only
  by_cases h1 : a1 < b1
  · left
    have h2 : ¬ b1 < a1 := by omega
    have h3 : a1 ≠ b1 := by omega
    have h4 : b1 ≠ a1 := by omega
    rw [if_pos h3, if_pos h4, if_pos h1, decide_eq_true h1, decide_eq_false h2, decide_eq_false h3]
    exact ⟨rfl, rfl, rfl, rfl⟩
  · by_cases h2 : b1 < a1
    · right; left
      have h3 : a1 ≠ b1 := by omega
      have h4 : b1 ≠ a1 := by omega
      rw [if_pos h3, if_pos h4, if_neg h1, if_pos h2, decide_eq_true h2, decide_eq_false h1, decide_eq_false h3]
      exact ⟨rfl, rfl, rfl, rfl⟩
    · have h3 : a1 = b1 := by omega
      subst h3
      rw [if_neg (fun q => q rfl), if_neg (fun q => q rfl), if_neg h1, if_neg h1, decide_eq_true rfl, Bool.true_and]
      cases k1 : Op.bytesLess a2.toList b2.toList with
      | true =>
        left
        have k2 : Op.bytesLess b2.toList a2.toList = false := by
          cases q : Op.bytesLess b2.toList a2.toList with
          | false => rfl
          | true => have := bl_trans _ _ _ k1 q; rw [bl_irrefl] at this; cases this
        refine ⟨rfl, k2, by simp, ?_⟩
        rw [beq_eq_false_iff_ne]; intro e; rw [e, bl_irrefl] at k1; cases k1
      | false =>
        cases k2 : Op.bytesLess b2.toList a2.toList with
        | true =>
          right; left
          refine ⟨rfl, rfl, by simp, ?_⟩
          rw [beq_eq_false_iff_ne]; intro e; rw [e, bl_irrefl] at k2; cases k2
        | false =>
          right; right
          exact ⟨rfl, rfl, by simp, by rw [bl_total _ _ k1 k2]; simp⟩
theorem lessR_irrefl (a : Rf) : lessR a a = false := by
  rcases cmpR_cases a a with ⟨h1, h2, _⟩ | ⟨h1, h2, _⟩ | ⟨h1, _⟩
  · rw [h1] at h2; cases h2
  · exact h1
  · exact h1
theorem lessR_trans {a b c : Rf} (h1 : lessR a b = true) (h2 : lessR b c = true) : lessR a c = true := by
  obtain ⟨a1, a2, a3⟩ := a
  obtain ⟨b1, b2, b3⟩ := b
  obtain ⟨c1, c2, c3⟩ := c
  unfold lessR at *
  simp only at *
  by_cases e1 : a1 = b1
  · subst e1
    rw [if_neg (fun q => q rfl)] at h1
    by_cases e2 : a1 = c1
    · subst e2
      rw [if_neg (fun q => q rfl)] at h2 ⊢
      exact bl_trans _ _ _ h1 h2
    · rw [if_pos e2] at h2 ⊢; exact h2
  · rw [if_pos e1, decide_eq_true_iff] at h1
    by_cases e2 : b1 = c1
    · subst e2
      rw [if_pos e1, decide_eq_true_iff]; exact h1
    · rw [if_pos e2, decide_eq_true_iff] at h2
      rw [if_pos (by omega), decide_eq_true_iff]; omega
theorem lessR_same {a b x : Rf} (h : sameK a x = true) (h2 : lessR a b = true) : lessR x b = true := by
  obtain ⟨a1, a2, a3⟩ := a
  obtain ⟨b1, b2, b3⟩ := b
  obtain ⟨x1, x2, x3⟩ := x
  unfold sameK at h
  rw [Bool.and_eq_true, decide_eq_true_iff, beq_iff_eq] at h
  simp only at h
  unfold lessR at *
  simp only at *
  rw [← h.1, ← h.2]; exact h2
theorem cmpR_less {a b : Rf} (h : lessR a b = true) : cmpR a b = -1 := by
  rcases cmpR_cases a b with ⟨_, _, h3, _⟩ | ⟨h1, _⟩ | ⟨h1, _⟩
  · exact h3
  · rw [h1] at h; cases h
  · rw [h1] at h; cases h
theorem cmpR_not {a b : Rf} (h : lessR a b = false) : 0 ≤ cmpR a b := by
  rcases cmpR_cases a b with ⟨h1, _⟩ | ⟨_, _, h3, _⟩ | ⟨_, _, h3, _⟩
  · rw [h1] at h; cases h
  · omega
  · omega
theorem cmpR_eq (a b : Rf) : (cmpR a b == 0) = sameK a b := by
  rcases cmpR_cases a b with ⟨_, _, h3, h4⟩ | ⟨_, _, h3, h4⟩ | ⟨_, _, h3, h4⟩ <;> rw [h3, h4] <;> rfl
set_option maxRecDepth 100000 in
set_option maxHeartbeats 2000000 in
theorem rfcmp_any (a1 : Int) (a2 a3 : ByteArray) (b1 : Int) (b2 b3 : ByteArray) (w : World) :
    Calls Try.prog 57 #[.agg #[.int .i64 a1, .string a2, .string a3], .agg #[.int .i64 b1, .string b2, .string b3]] w fun e w' => e = .returned (.int .i64 (cmpR (a1, a2, a3) (b1, b2, b3))) ∧ Below w.heap.size w w' := by
  have HV := Lib.hid (show cmpR (a1, a2, a3) (b1, b2, b3) = orL [cmpI a1 b1, cmpS a2 b2] from rfl)
  have HX := Lib.hid (fun W : World => cmpI_any a1 b1 W)
  have HY := Lib.hid (fun W : World => cmpS_any a2 b2 W)
  rw [HV.out]
  clear HV
  generalize cmpI a1 b1 = x at *
  generalize cmpS a2 b2 = y at *
  have HB1 := Lib.hid (Below.refl w.heap.size w)
  go_enter Try.func57, Try.ntmps57
  have HF2 := Lib.hid (blk_new w (.cells #[.int .i64 a1, .string a2, .string a3] 97 (0, 0)))
  have HB3 := Lib.hid (HB1.out.alloc HB1.out.size (.cells #[.int .i64 a1, .string a2, .string a3] 97 (0, 0)))
  clear HB1
  have HF4 := Lib.hid (blk_alloc HF2.out (.cells #[.int .i64 b1, .string b2, .string b3] 97 (0, 0)))
  clear HF2
  have HF5 : Hid (((w.alloc (.cells #[.int .i64 a1, .string a2, .string a3] 97 (0, 0))).alloc (.cells #[.int .i64 b1, .string b2, .string b3] 97 (0, 0))).heap[w.heap.size + 1]? = some (.cells #[.int .i64 b1, .string b2, .string b3] 97 (0, 0))) := Lib.hid (blk_newN (W := (w.alloc (.cells #[.int .i64 a1, .string a2, .string a3] 97 (0, 0)))) (o := (.cells #[.int .i64 b1, .string b2, .string b3] 97 (0, 0))) (by simp))
  have HB6 := Lib.hid (HB3.out.alloc (by have := HB3.out.size; simp at this ⊢ <;> omega) (.cells #[.int .i64 b1, .string b2, .string b3] 97 (0, 0)))
  clear HB3
  have hc7 : ((w.alloc (.cells #[.int .i64 a1, .string a2, .string a3] 97 (0, 0))).alloc (.cells #[.int .i64 b1, .string b2, .string b3] 97 (0, 0))).cell? ⟨w.heap.size, 0, none⟩ = some (.int .i64 a1) := by rw [cell_of_row _ _ _ _ _ _ HF4.out]; rfl
  have hc8 : ((w.alloc (.cells #[.int .i64 a1, .string a2, .string a3] 97 (0, 0))).alloc (.cells #[.int .i64 b1, .string b2, .string b3] 97 (0, 0))).cell? ⟨w.heap.size, 1, none⟩ = some (.string a2) := by rw [cell_of_row _ _ _ _ _ _ HF4.out]; rfl
  have hc9 : ((w.alloc (.cells #[.int .i64 a1, .string a2, .string a3] 97 (0, 0))).alloc (.cells #[.int .i64 b1, .string b2, .string b3] 97 (0, 0))).cell? ⟨w.heap.size + 1, 0, none⟩ = some (.int .i64 b1) := by rw [cell_of_row _ _ _ _ _ _ HF5.out]; rfl
  have hc10 : ((w.alloc (.cells #[.int .i64 a1, .string a2, .string a3] 97 (0, 0))).alloc (.cells #[.int .i64 b1, .string b2, .string b3] 97 (0, 0))).cell? ⟨w.heap.size + 1, 1, none⟩ = some (.string b2) := by rw [cell_of_row _ _ _ _ _ _ HF5.out]; rfl
  go_wp2_with fail
  have hr11 := fun d os => cell_regrown hc7 d os
  have hr12 := fun d os => cell_regrown hc8 d os
  have hr13 := fun d os => cell_regrown hc9 d os
  have hr14 := fun d os => cell_regrown hc10 d os
  refine wp_region_quiet_tail 10 (by kernel_rfl) (by kernel_rfl) ?_
  simp only [List.take_succ_cons, List.take_zero, List.drop_succ_cons, List.drop_zero]
  repeat (any_goals (first | go_big_quiet_step ((first | (go_at_call 144; with_reducible exact Calls.regrown_of (of_same (HX.out _))) | (go_at_call 145; with_reducible exact Calls.regrown_of (of_same (HY.out _))))) | quiet_step ((first | (go_at_call 144; with_reducible exact Calls.regrown_of (of_same (HX.out _))) | (go_at_call 145; with_reducible exact Calls.regrown_of (of_same (HY.out _)))))))
  refine wpQuiet_nil ?_
  intro w1 hw1
  have hb1 := below_anyY hw1
  clear hw1 hr11 hr12 hr13 hr14
  clear hc7 hc8 hc9 hc10
  have HF15 := Lib.hid (blk_below HF4.out hb1)
  have HF16 := Lib.hid (blk_below HF5.out hb1)
  have HB17 := Lib.hid (HB6.out.trans (hb1.mono HB6.out.size))
  clear hb1 HB6 HF4 HF5
  have HO := Lib.hid (blk_new w1 (.cells #[.int .i64 x, .int .i64 y] 3 (0, 0)))
  have HB9 := Lib.hid (HB17.out.alloc HB17.out.size (.cells #[.int .i64 x, .int .i64 y] 3 (0, 0)))
  go_wp2_with fail
  refine (orInt_any _ 0 2 2 [x, y] _ (rd_blk (f := ieC) (s := 1) (fun _ => rfl) [x, y] HO.out rfl) (by omega)).mono ?_
  rintro e w' ⟨rfl, rfl⟩
  go_wp2_with fail
  go_ret
  exact ⟨rfl, HB9.out⟩
set_option maxRecDepth 100000 in
set_option maxHeartbeats 2000000 in
theorem rfless_any (a1 : Int) (a2 a3 : ByteArray) (b1 : Int) (b2 b3 : ByteArray) (w : World) :
    Calls Try.prog 56 #[.agg #[.int .i64 a1, .string a2, .string a3], .agg #[.int .i64 b1, .string b2, .string b3]] w fun e w' => e = .returned (.bool (lessR (a1, a2, a3) (b1, b2, b3))) ∧ Below w.heap.size w w' := by
  by_cases h1 : a1 = b1
  · have e1 : (a1 != b1) = false := by simpa using h1
    have HV := Lib.hid (show lessR (a1, a2, a3) (b1, b2, b3) = Op.bytesLess a2.toList b2.toList by unfold lessR; rw [if_neg (fun q => q h1)])
    clear h1
    have HB1 := Lib.hid (Below.refl w.heap.size w)
    go_enter Try.func56, Try.ntmps56
    have HF2 := Lib.hid (blk_new w (.cells #[.int .i64 a1, .string a2, .string a3] 97 (0, 0)))
    have HB3 := Lib.hid (HB1.out.alloc HB1.out.size (.cells #[.int .i64 a1, .string a2, .string a3] 97 (0, 0)))
    clear HB1
    have HF4 := Lib.hid (blk_alloc HF2.out (.cells #[.int .i64 b1, .string b2, .string b3] 97 (0, 0)))
    clear HF2
    have HF5 : Hid (((w.alloc (.cells #[.int .i64 a1, .string a2, .string a3] 97 (0, 0))).alloc (.cells #[.int .i64 b1, .string b2, .string b3] 97 (0, 0))).heap[w.heap.size + 1]? = some (.cells #[.int .i64 b1, .string b2, .string b3] 97 (0, 0))) := Lib.hid (blk_newN (W := (w.alloc (.cells #[.int .i64 a1, .string a2, .string a3] 97 (0, 0)))) (o := (.cells #[.int .i64 b1, .string b2, .string b3] 97 (0, 0))) (by simp))
    have HB6 := Lib.hid (HB3.out.alloc (by have := HB3.out.size; simp at this ⊢ <;> omega) (.cells #[.int .i64 b1, .string b2, .string b3] 97 (0, 0)))
    clear HB3
    have hc7 : ((w.alloc (.cells #[.int .i64 a1, .string a2, .string a3] 97 (0, 0))).alloc (.cells #[.int .i64 b1, .string b2, .string b3] 97 (0, 0))).cell? ⟨w.heap.size, 0, none⟩ = some (.int .i64 a1) := by rw [cell_of_row _ _ _ _ _ _ HF4.out]; rfl
    have hc8 : ((w.alloc (.cells #[.int .i64 a1, .string a2, .string a3] 97 (0, 0))).alloc (.cells #[.int .i64 b1, .string b2, .string b3] 97 (0, 0))).cell? ⟨w.heap.size, 1, none⟩ = some (.string a2) := by rw [cell_of_row _ _ _ _ _ _ HF4.out]; rfl
    have hc9 : ((w.alloc (.cells #[.int .i64 a1, .string a2, .string a3] 97 (0, 0))).alloc (.cells #[.int .i64 b1, .string b2, .string b3] 97 (0, 0))).cell? ⟨w.heap.size + 1, 0, none⟩ = some (.int .i64 b1) := by rw [cell_of_row _ _ _ _ _ _ HF5.out]; rfl
    have hc10 : ((w.alloc (.cells #[.int .i64 a1, .string a2, .string a3] 97 (0, 0))).alloc (.cells #[.int .i64 b1, .string b2, .string b3] 97 (0, 0))).cell? ⟨w.heap.size + 1, 1, none⟩ = some (.string b2) := by rw [cell_of_row _ _ _ _ _ _ HF5.out]; rfl
    go_wp2_with fail
    go_ret
    exact ⟨by first | (rw [HV.out]; done) | (rw [HV.out]; rfl), HB6.out⟩
  · have e1 : (a1 != b1) = true := by simpa using h1
    have HV := Lib.hid (show lessR (a1, a2, a3) (b1, b2, b3) = decide (a1 < b1) by unfold lessR; rw [if_pos h1])
    clear h1
    have HB1 := Lib.hid (Below.refl w.heap.size w)
    go_enter Try.func56, Try.ntmps56
    have HF2 := Lib.hid (blk_new w (.cells #[.int .i64 a1, .string a2, .string a3] 97 (0, 0)))
    have HB3 := Lib.hid (HB1.out.alloc HB1.out.size (.cells #[.int .i64 a1, .string a2, .string a3] 97 (0, 0)))
    clear HB1
    have HF4 := Lib.hid (blk_alloc HF2.out (.cells #[.int .i64 b1, .string b2, .string b3] 97 (0, 0)))
    clear HF2
    have HF5 : Hid (((w.alloc (.cells #[.int .i64 a1, .string a2, .string a3] 97 (0, 0))).alloc (.cells #[.int .i64 b1, .string b2, .string b3] 97 (0, 0))).heap[w.heap.size + 1]? = some (.cells #[.int .i64 b1, .string b2, .string b3] 97 (0, 0))) := Lib.hid (blk_newN (W := (w.alloc (.cells #[.int .i64 a1, .string a2, .string a3] 97 (0, 0)))) (o := (.cells #[.int .i64 b1, .string b2, .string b3] 97 (0, 0))) (by simp))
    have HB6 := Lib.hid (HB3.out.alloc (by have := HB3.out.size; simp at this ⊢ <;> omega) (.cells #[.int .i64 b1, .string b2, .string b3] 97 (0, 0)))
    clear HB3
    have hc7 : ((w.alloc (.cells #[.int .i64 a1, .string a2, .string a3] 97 (0, 0))).alloc (.cells #[.int .i64 b1, .string b2, .string b3] 97 (0, 0))).cell? ⟨w.heap.size, 0, none⟩ = some (.int .i64 a1) := by rw [cell_of_row _ _ _ _ _ _ HF4.out]; rfl
    have hc8 : ((w.alloc (.cells #[.int .i64 a1, .string a2, .string a3] 97 (0, 0))).alloc (.cells #[.int .i64 b1, .string b2, .string b3] 97 (0, 0))).cell? ⟨w.heap.size, 1, none⟩ = some (.string a2) := by rw [cell_of_row _ _ _ _ _ _ HF4.out]; rfl
    have hc9 : ((w.alloc (.cells #[.int .i64 a1, .string a2, .string a3] 97 (0, 0))).alloc (.cells #[.int .i64 b1, .string b2, .string b3] 97 (0, 0))).cell? ⟨w.heap.size + 1, 0, none⟩ = some (.int .i64 b1) := by rw [cell_of_row _ _ _ _ _ _ HF5.out]; rfl
    have hc10 : ((w.alloc (.cells #[.int .i64 a1, .string a2, .string a3] 97 (0, 0))).alloc (.cells #[.int .i64 b1, .string b2, .string b3] 97 (0, 0))).cell? ⟨w.heap.size + 1, 1, none⟩ = some (.string b2) := by rw [cell_of_row _ _ _ _ _ _ HF5.out]; rfl
    go_wp2_with fail
    go_ret
    exact ⟨by first | (rw [HV.out]; done) | (rw [HV.out]; rfl), HB6.out⟩
end Go.Proofs.Ytbjngbacnkmjhaa

namespace Go.Proofs.Ytbjngbacnkmjhaa
open Go.RowKit Vi

def okN (k : Int) (s : ByteArray) : Bool := (decide (k = 1) || decide (k = 2)) && nm s
def okR (r : Rf) : Bool := okN r.1 r.2.1 && !r.2.2.toList.isEmpty
def ordR : Option Rf → Rf → Bool
  | none, _ => true
  | some a, r => lessR a r
def wrE : Option Rf → List Rf → Int
  | _, [] => 0
  | p, r :: l => if okR r = false then 2 else if ordR p r = false then 4 else wrE (some r) l
def wrR (l : List Rf) : Int := if 64 < l.length then 5 else wrE none l
def prevR (l : List Rf) : Nat → Option Rf
  | 0 => none
  | k + 1 => l[k]?
theorem wrE_at (l : List Rf) (k : Nat) (h : k < l.length) : wrE (prevR l k) (l.drop k) = if okR l[k] = false then 2 else if ordR (prevR l k) l[k] = false then 4 else wrE (prevR l (k + 1)) (l.drop (k + 1)) := by
  rw [List.drop_eq_getElem_cons h]
  have : prevR l (k + 1) = some l[k] := by show l[k]? = _; rw [List.getElem?_eq_getElem h]
  rw [this]; rfl
theorem wrE_end (l : List Rf) (k : Nat) (h : l.length ≤ k) : wrE (prevR l k) (l.drop k) = 0 := by
  rw [List.drop_eq_nil_of_le h]; cases prevR l k <;> rfl
set_option maxRecDepth 100000 in
set_option maxHeartbeats 1000000 in
theorem isn_any (k : Int) (s : ByteArray) (w : World) (hs : s.size ≤ maxLen) : Calls Try.prog 146 #[.int .i64 k, .string s] w fun e w' => e = .returned (.bool (okN k s)) ∧ w = w' := by
  have HN := Lib.hid (fun W : World => ncheck_any s W hs)
  by_cases h1 : k = 1
  · have HV := Lib.hid (show okN k s = nm s by unfold okN; rw [decide_eq_true h1]; rfl)
    have e1 : (k == 1) = true := by simpa using h1
    cases hn : nm s
    case' true => rw [nck_yes _ hn] at HN
    case' false => rw [nck_no _ hn] at HN
    all_goals
      rw [hn] at HV
      clear h1 hn
      go_enter Try.func146, Try.ntmps146
      go_wp2_with fail
      refine (HN.out _).mono ?_
      rintro e w' ⟨rfl, rfl⟩
      go_wp2_with fail
      go_ret
      exact ⟨by first | (rw [HV.out]; done) | (rw [HV.out]; rfl), rfl⟩
  · have e1 : (k == 1) = false := by simpa using h1
    by_cases h2 : k = 2
    · have HV := Lib.hid (show okN k s = nm s by unfold okN; rw [decide_eq_true h2]; simp)
      have e2 : (k == 2) = true := by simpa using h2
      cases hn : nm s
      case' true => rw [nck_yes _ hn] at HN
      case' false => rw [nck_no _ hn] at HN
      all_goals
        rw [hn] at HV
        clear h1 h2 hn
        go_enter Try.func146, Try.ntmps146
        go_wp2_with fail
        refine (HN.out _).mono ?_
        rintro e w' ⟨rfl, rfl⟩
        go_wp2_with fail
        go_ret
        exact ⟨by first | (rw [HV.out]; done) | (rw [HV.out]; rfl), rfl⟩
    · have HV := Lib.hid (show okN k s = false by unfold okN; rw [decide_eq_false h1, decide_eq_false h2]; rfl)
      have e2 : (k == 2) = false := by simpa using h2
      clear h1 h2
      go_enter Try.func146, Try.ntmps146
      go_wp2_with fail
      go_ret
      exact ⟨by first | (rw [HV.out]; done) | (rw [HV.out]; rfl), rfl⟩
set_option maxRecDepth 100000 in
set_option maxHeartbeats 4000000 in
theorem rfcheck_any (A : Option Addr) (n c : Nat) (l : List Rf) (w : World) (h : RdX rfC 3 w A n l) (hn : n ≤ maxLen) (hz : ∀ r ∈ l, r.2.1.size ≤ maxLen) :
    Calls Try.prog 58 #[.slice A n c] w fun e w' => e = .returned (.int .i64 (wrR l)) ∧ Below w.heap.size w w' := by
  have H := Lib.hid h
  have LL := Lib.hid h.1
  have HZ := Lib.hid hz
  have HB1 := Lib.hid (Below.refl w.heap.size w)
  unfold maxLen at hn
  clear h hz
  by_cases g1 : n ≤ 64
  rotate_left
  · have d1 : decide ((64 : Int) < (n : Int)) = true := decide_eq_true (by omega)
    go_enter Try.func58, Try.ntmps58
    go_wp2_with fail
    go_ret
    exact ⟨by rw [show wrR l = 5 by unfold wrR; rw [if_pos (by rw [LL.out]; omega)]]; rfl, HB1.out⟩
  have d1 : decide ((64 : Int) < (n : Int)) = false := decide_eq_false (by omega)
  have HV := Lib.hid (show wrE none l = wrR l by unfold wrR; rw [if_neg (by rw [LL.out]; omega)])
  go_enter Try.func58, Try.ntmps58
  go_wp2_with fail
  clear d1
  go_loopw [10] (fun i wr => ∃ k : Nat, i = .int .i64 (k : Int) ∧ k ≤ n ∧ wrE (prevR l k) (l.drop k) = wrE none l ∧ Below w.heap.size w wr) (fun i _ => n - (intOf i).toNat)
  case atStart => exact ⟨0, rfl, Nat.zero_le _, rfl, HB1.out⟩
  case round =>
    clear HB1
    obtain ⟨k, rfl, hk, hs, hb⟩ := hrel
    have HS := Lib.hid hs
    have HB := Lib.hid hb
    clear hs hb
    by_cases hlt : k < n
    · have hd1 : decide ((k : Int) < (n : Int)) = true := decide_eq_true (by omega)
      have hl : k < l.length := by rw [LL.out]; exact hlt
      obtain ⟨b, off, _, rfl, hbb, _⟩ := (H.out.below HB.out).at hlt
      have HA := Lib.hid (wrE_at l k hl)
      have HZK := Lib.hid (HZ.out _ (List.getElem_mem hl))
      obtain ⟨x, hx⟩ : ∃ x, l[k] = x := ⟨_, rfl⟩
      have HX := Lib.hid (show l[k]? = some x by rw [List.getElem?_eq_getElem hl, hx])
      rw [hx] at HA HZK
      clear hx
      obtain ⟨x1, x2, x3⟩ := x
      have hzk : x2.size ≤ maxLen := HZK.out
      have hi0 : (0 : Int) ≤ (k : Int) := by omega
      have hi1 : (k : Int) < (n : Int) := by omega
      have HIN := Lib.hid (fun W : World => isn_any x1 x2 W hzk)
      cases hok : okN x1 x2 with
      | false =>
        have HR := Lib.hid (show (2 : Int) = wrR l by rw [← HV.out, ← HS.out, HA.out, if_pos (by unfold okR; rw [show okN (x1, x2, x3).1 (x1, x2, x3).2.1 = false from hok]; rfl)])
        rw [hok] at HIN
        clear hok
        have hc101 : wr.cell? ⟨b, off + k * 3, none⟩ = some (.int .i64 x1) := (H.out.below HB.out).cellAt HX.out hlt 0 _ rfl
        have hc102 : wr.cell? ⟨b, off + k * 3 + 1, none⟩ = some (.string x2) := (H.out.below HB.out).cellAt HX.out hlt 1 _ rfl
        have hc103 : wr.cell? ⟨b, off + k * 3 + 2, none⟩ = some (.string x3) := (H.out.below HB.out).cellAt HX.out hlt 2 _ rfl
        have HF104 := Lib.hid (blk_new wr (.cells #[.int .i64 x1, .string x2, .string x3] 97 (0, 0)))
        have HB105 := Lib.hid (HB.out.alloc HB.out.size (.cells #[.int .i64 x1, .string x2, .string x3] 97 (0, 0)))
        clear HB
        have hc106 : (wr.alloc (.cells #[.int .i64 x1, .string x2, .string x3] 97 (0, 0))).cell? ⟨wr.heap.size, 0, none⟩ = some (.int .i64 x1) := by rw [cell_of_row _ _ _ _ _ _ HF104.out]; rfl
        have hc107 : (wr.alloc (.cells #[.int .i64 x1, .string x2, .string x3] 97 (0, 0))).cell? ⟨wr.heap.size, 1, none⟩ = some (.string x2) := by rw [cell_of_row _ _ _ _ _ _ HF104.out]; rfl
        have hc108 : (wr.alloc (.cells #[.int .i64 x1, .string x2, .string x3] 97 (0, 0))).cell? ⟨wr.heap.size, 2, none⟩ = some (.string x3) := by rw [cell_of_row _ _ _ _ _ _ HF104.out]; rfl
        go_wp2_with fail
        refine (HIN.out _).mono ?_
        rintro e w' ⟨rfl, rfl⟩
        go_wp2_with fail
        go_ret
        exact ⟨by first | (rw [← HR.out]; done) | (rw [← HR.out]; rfl), HB105.out⟩
      | true =>
        rw [hok] at HIN
        cases hem : x3.toList.isEmpty with
        | true =>
          have HR := Lib.hid (show (2 : Int) = wrR l by rw [← HV.out, ← HS.out, HA.out, if_pos (by unfold okR; rw [show (x1, x2, x3).2.2.toList.isEmpty = true from hem]; simp)])
          clear hok
          have hc101 : wr.cell? ⟨b, off + k * 3, none⟩ = some (.int .i64 x1) := (H.out.below HB.out).cellAt HX.out hlt 0 _ rfl
          have hc102 : wr.cell? ⟨b, off + k * 3 + 1, none⟩ = some (.string x2) := (H.out.below HB.out).cellAt HX.out hlt 1 _ rfl
          have hc103 : wr.cell? ⟨b, off + k * 3 + 2, none⟩ = some (.string x3) := (H.out.below HB.out).cellAt HX.out hlt 2 _ rfl
          have HF104 := Lib.hid (blk_new wr (.cells #[.int .i64 x1, .string x2, .string x3] 97 (0, 0)))
          have HB105 := Lib.hid (HB.out.alloc HB.out.size (.cells #[.int .i64 x1, .string x2, .string x3] 97 (0, 0)))
          clear HB
          have hc106 : (wr.alloc (.cells #[.int .i64 x1, .string x2, .string x3] 97 (0, 0))).cell? ⟨wr.heap.size, 0, none⟩ = some (.int .i64 x1) := by rw [cell_of_row _ _ _ _ _ _ HF104.out]; rfl
          have hc107 : (wr.alloc (.cells #[.int .i64 x1, .string x2, .string x3] 97 (0, 0))).cell? ⟨wr.heap.size, 1, none⟩ = some (.string x2) := by rw [cell_of_row _ _ _ _ _ _ HF104.out]; rfl
          have hc108 : (wr.alloc (.cells #[.int .i64 x1, .string x2, .string x3] 97 (0, 0))).cell? ⟨wr.heap.size, 2, none⟩ = some (.string x3) := by rw [cell_of_row _ _ _ _ _ _ HF104.out]; rfl
          go_wp2_with fail
          refine (HIN.out _).mono ?_
          rintro e w' ⟨rfl, rfl⟩
          go_wp2_with fail
          go_ret
          exact ⟨by first | (rw [← HR.out]; done) | (rw [← HR.out]; rfl), HB105.out⟩
        | false =>
          have HOK := Lib.hid (show ¬ okR (x1, x2, x3) = false by unfold okR; rw [show okN (x1, x2, x3).1 (x1, x2, x3).2.1 = true from hok, show (x1, x2, x3).2.2.toList.isEmpty = false from hem]; simp)
          clear hok
          rcases Nat.eq_zero_or_pos k with h0 | hpos
          · subst h0
            have HR := Lib.hid (show wrE (prevR l (0 + 1)) (l.drop (0 + 1)) = wrE none l by rw [← HS.out, HA.out, if_neg HOK.out, if_neg (by simp [prevR, ordR])])
            have hof : off + 0 * 3 = off := by omega
            have hc101 : wr.cell? ⟨b, off + 0 * 3, none⟩ = some (.int .i64 x1) := (H.out.below HB.out).cellAt HX.out hlt 0 _ rfl
            have hc101z : wr.cell? ⟨b, off, none⟩ = some (.int .i64 x1) := by have q := hc101; rw [hof] at q; exact q
            have hc102 : wr.cell? ⟨b, off + 0 * 3 + 1, none⟩ = some (.string x2) := (H.out.below HB.out).cellAt HX.out hlt 1 _ rfl
            have hc102z : wr.cell? ⟨b, off + 1, none⟩ = some (.string x2) := by have q := hc102; rw [hof] at q; exact q
            have hc103 : wr.cell? ⟨b, off + 0 * 3 + 2, none⟩ = some (.string x3) := (H.out.below HB.out).cellAt HX.out hlt 2 _ rfl
            have hc103z : wr.cell? ⟨b, off + 2, none⟩ = some (.string x3) := by have q := hc103; rw [hof] at q; exact q
            have HF104 := Lib.hid (blk_new wr (.cells #[.int .i64 x1, .string x2, .string x3] 97 (0, 0)))
            have HB105 := Lib.hid (HB.out.alloc HB.out.size (.cells #[.int .i64 x1, .string x2, .string x3] 97 (0, 0)))
            clear HB
            have hc106 : (wr.alloc (.cells #[.int .i64 x1, .string x2, .string x3] 97 (0, 0))).cell? ⟨wr.heap.size, 0, none⟩ = some (.int .i64 x1) := by rw [cell_of_row _ _ _ _ _ _ HF104.out]; rfl
            have hc107 : (wr.alloc (.cells #[.int .i64 x1, .string x2, .string x3] 97 (0, 0))).cell? ⟨wr.heap.size, 1, none⟩ = some (.string x2) := by rw [cell_of_row _ _ _ _ _ _ HF104.out]; rfl
            have hc108 : (wr.alloc (.cells #[.int .i64 x1, .string x2, .string x3] 97 (0, 0))).cell? ⟨wr.heap.size, 2, none⟩ = some (.string x3) := by rw [cell_of_row _ _ _ _ _ _ HF104.out]; rfl
            go_wp2_with fail
            refine (HIN.out _).mono ?_
            rintro e w' ⟨rfl, rfl⟩
            go_upto_region 8 with (fail)
            have hr109 := fun d os => cell_regrown hc101 d os
            have hr110 := fun d os => cell_regrown hc102 d os
            have hr111 := fun d os => cell_regrown hc103 d os
            have hr112 := fun d os => cell_regrown hc106 d os
            have hr113 := fun d os => cell_regrown hc107 d os
            have hr114 := fun d os => cell_regrown hc108 d os
            refine wp_region_quiet_below (by kernel_rfl) (by kernel_rfl) ?_
            repeat (any_goals (first | go_big_quiet_step (fail) | quiet_step (fail)))
            refine wpQuiet_nil ?_
            intro w11 hw11
            have hb11 := below_anyY hw11
            clear hw11 hr109 hr110 hr111 hr112 hr113 hr114
            clear hc101 hc102 hc103 hc106 hc107 hc108 hc101z hc102z hc103z
            have HF115 := Lib.hid (blk_below HF104.out hb11)
            have HB116 := Lib.hid (HB105.out.trans (hb11.mono HB105.out.size))
            clear hb11 HB105 HF104
            go_wp2_with fail
            go_roundw
            case rel => exact ⟨1, by go_num, by omega, HR.out, HB116.out⟩
            case measure => simp [intOf] <;> omega
          · obtain ⟨m, hkm⟩ : ∃ m, k = m + 1 := ⟨k - 1, by omega⟩
            have hmn : m < n := by omega
            have hlm : m < l.length := by rw [LL.out]; exact hmn
            obtain ⟨y, hy⟩ : ∃ y, l[m] = y := ⟨_, rfl⟩
            have HY := Lib.hid (show l[m]? = some y by rw [List.getElem?_eq_getElem hlm, hy])
            obtain ⟨y1, y2, y3⟩ := y
            have HPV := Lib.hid (show prevR l k = some (y1, y2, y3) by rw [hkm]; exact HY.out)
            have hm0 : (0 : Int) ≤ (m : Int) := by omega
            have hm1 : (m : Int) < (n : Int) := by omega
            have hwk : IntKind.i64.wrap ((k : Int) - 1) = (m : Int) := by rw [IntWalk.i64_in _ (by omega)]; omega
            have hk0 : decide ((0 : Int) < (k : Int)) = true := decide_eq_true (by omega)
            have HF := Lib.hid (fun W : World => rfcmp_any y1 y2 y3 x1 x2 x3 W)
            have HKM := Lib.hid hkm
            have hk0n : decide (0 < k) = true := decide_eq_true hpos
            clear hy hkm
            cases hp : lessR (y1, y2, y3) (x1, x2, x3) with
            | true =>
              have HR := Lib.hid (show wrE (prevR l (k + 1)) (l.drop (k + 1)) = wrE none l by rw [← HS.out, HA.out, if_neg HOK.out, if_neg (by rw [HPV.out]; show ¬ lessR _ _ = false; rw [hp]; simp)])
              have HC := Lib.hid (cmpR_less hp)
              rw [HC.out] at HF
              clear hp HC
              have hc101 : wr.cell? ⟨b, off + k * 3, none⟩ = some (.int .i64 x1) := (H.out.below HB.out).cellAt HX.out hlt 0 _ rfl
              have hc102 : wr.cell? ⟨b, off + k * 3 + 1, none⟩ = some (.string x2) := (H.out.below HB.out).cellAt HX.out hlt 1 _ rfl
              have hc103 : wr.cell? ⟨b, off + k * 3 + 2, none⟩ = some (.string x3) := (H.out.below HB.out).cellAt HX.out hlt 2 _ rfl
              have HF104 := Lib.hid (blk_new wr (.cells #[.int .i64 x1, .string x2, .string x3] 97 (0, 0)))
              have HB105 := Lib.hid (HB.out.alloc HB.out.size (.cells #[.int .i64 x1, .string x2, .string x3] 97 (0, 0)))
              clear HB
              have hc106 : (wr.alloc (.cells #[.int .i64 x1, .string x2, .string x3] 97 (0, 0))).cell? ⟨wr.heap.size, 0, none⟩ = some (.int .i64 x1) := by rw [cell_of_row _ _ _ _ _ _ HF104.out]; rfl
              have hc107 : (wr.alloc (.cells #[.int .i64 x1, .string x2, .string x3] 97 (0, 0))).cell? ⟨wr.heap.size, 1, none⟩ = some (.string x2) := by rw [cell_of_row _ _ _ _ _ _ HF104.out]; rfl
              have hc108 : (wr.alloc (.cells #[.int .i64 x1, .string x2, .string x3] 97 (0, 0))).cell? ⟨wr.heap.size, 2, none⟩ = some (.string x3) := by rw [cell_of_row _ _ _ _ _ _ HF104.out]; rfl
              have hc109 : (wr.alloc (.cells #[.int .i64 x1, .string x2, .string x3] 97 (0, 0))).cell? ⟨b, off + m * 3, none⟩ = some (.int .i64 y1) := (H.out.below HB105.out).cellAt HY.out hmn 0 _ rfl
              have hc110 : (wr.alloc (.cells #[.int .i64 x1, .string x2, .string x3] 97 (0, 0))).cell? ⟨b, off + m * 3 + 1, none⟩ = some (.string y2) := (H.out.below HB105.out).cellAt HY.out hmn 1 _ rfl
              have hc111 : (wr.alloc (.cells #[.int .i64 x1, .string x2, .string x3] 97 (0, 0))).cell? ⟨b, off + m * 3 + 2, none⟩ = some (.string y3) := (H.out.below HB105.out).cellAt HY.out hmn 2 _ rfl
              go_wp2_with fail
              refine (HIN.out _).mono ?_
              rintro e w' ⟨rfl, rfl⟩
              go_upto_region 8 with (fail)
              have hr112 := fun d os => cell_regrown hc101 d os
              have hr113 := fun d os => cell_regrown hc102 d os
              have hr114 := fun d os => cell_regrown hc103 d os
              have hr115 := fun d os => cell_regrown hc106 d os
              have hr116 := fun d os => cell_regrown hc107 d os
              have hr117 := fun d os => cell_regrown hc108 d os
              have hr118 := fun d os => cell_regrown hc109 d os
              have hr119 := fun d os => cell_regrown hc110 d os
              have hr120 := fun d os => cell_regrown hc111 d os
              refine wp_region_quiet_below (by kernel_rfl) (by kernel_rfl) ?_
              repeat (any_goals (first | go_big_quiet_step ((go_at_call 57; with_reducible exact Calls.regrown_of (HF.out _))) | quiet_step ((go_at_call 57; with_reducible exact Calls.regrown_of (HF.out _)))))
              refine wpQuiet_nil ?_
              intro w11 hw11
              have hb11 := below_anyY hw11
              clear hw11 hr112 hr113 hr114 hr115 hr116 hr117 hr118 hr119 hr120
              clear hc101 hc102 hc103 hc106 hc107 hc108 hc109 hc110 hc111
              have HF121 := Lib.hid (blk_below HF104.out hb11)
              have HB122 := Lib.hid (HB105.out.trans (hb11.mono HB105.out.size))
              clear hb11 HB105 HF104
              clear hwk
              go_wp2_with fail
              go_roundw
              case rel => exact ⟨k + 1, by go_num, by omega, HR.out, HB122.out⟩
              case measure => simp [intOf] <;> omega
            | false =>
              have HR := Lib.hid (show (4 : Int) = wrR l by rw [← HV.out, ← HS.out, HA.out, if_neg HOK.out, if_pos (by rw [HPV.out]; exact hp)])
              have hcv := cmpR_not hp
              generalize cmpR (y1, y2, y3) (x1, x2, x3) = cv at HF hcv
              have dcv : decide (0 ≤ cv) = true := decide_eq_true hcv
              clear hp hcv
              have hc101 : wr.cell? ⟨b, off + k * 3, none⟩ = some (.int .i64 x1) := (H.out.below HB.out).cellAt HX.out hlt 0 _ rfl
              have hc102 : wr.cell? ⟨b, off + k * 3 + 1, none⟩ = some (.string x2) := (H.out.below HB.out).cellAt HX.out hlt 1 _ rfl
              have hc103 : wr.cell? ⟨b, off + k * 3 + 2, none⟩ = some (.string x3) := (H.out.below HB.out).cellAt HX.out hlt 2 _ rfl
              have HF104 := Lib.hid (blk_new wr (.cells #[.int .i64 x1, .string x2, .string x3] 97 (0, 0)))
              have HB105 := Lib.hid (HB.out.alloc HB.out.size (.cells #[.int .i64 x1, .string x2, .string x3] 97 (0, 0)))
              clear HB
              have hc106 : (wr.alloc (.cells #[.int .i64 x1, .string x2, .string x3] 97 (0, 0))).cell? ⟨wr.heap.size, 0, none⟩ = some (.int .i64 x1) := by rw [cell_of_row _ _ _ _ _ _ HF104.out]; rfl
              have hc107 : (wr.alloc (.cells #[.int .i64 x1, .string x2, .string x3] 97 (0, 0))).cell? ⟨wr.heap.size, 1, none⟩ = some (.string x2) := by rw [cell_of_row _ _ _ _ _ _ HF104.out]; rfl
              have hc108 : (wr.alloc (.cells #[.int .i64 x1, .string x2, .string x3] 97 (0, 0))).cell? ⟨wr.heap.size, 2, none⟩ = some (.string x3) := by rw [cell_of_row _ _ _ _ _ _ HF104.out]; rfl
              have hc109 : (wr.alloc (.cells #[.int .i64 x1, .string x2, .string x3] 97 (0, 0))).cell? ⟨b, off + m * 3, none⟩ = some (.int .i64 y1) := (H.out.below HB105.out).cellAt HY.out hmn 0 _ rfl
              have hc110 : (wr.alloc (.cells #[.int .i64 x1, .string x2, .string x3] 97 (0, 0))).cell? ⟨b, off + m * 3 + 1, none⟩ = some (.string y2) := (H.out.below HB105.out).cellAt HY.out hmn 1 _ rfl
              have hc111 : (wr.alloc (.cells #[.int .i64 x1, .string x2, .string x3] 97 (0, 0))).cell? ⟨b, off + m * 3 + 2, none⟩ = some (.string y3) := (H.out.below HB105.out).cellAt HY.out hmn 2 _ rfl
              go_wp2_with fail
              refine (HIN.out _).mono ?_
              rintro e w' ⟨rfl, rfl⟩
              go_upto_region 8 with (fail)
              have hr112 := fun d os => cell_regrown hc101 d os
              have hr113 := fun d os => cell_regrown hc102 d os
              have hr114 := fun d os => cell_regrown hc103 d os
              have hr115 := fun d os => cell_regrown hc106 d os
              have hr116 := fun d os => cell_regrown hc107 d os
              have hr117 := fun d os => cell_regrown hc108 d os
              have hr118 := fun d os => cell_regrown hc109 d os
              have hr119 := fun d os => cell_regrown hc110 d os
              have hr120 := fun d os => cell_regrown hc111 d os
              refine wp_region_quiet_below (by kernel_rfl) (by kernel_rfl) ?_
              repeat (any_goals (first | go_big_quiet_step ((go_at_call 57; with_reducible exact Calls.regrown_of (HF.out _))) | quiet_step ((go_at_call 57; with_reducible exact Calls.regrown_of (HF.out _)))))
              refine wpQuiet_nil ?_
              intro w11 hw11
              have hb11 := below_anyY hw11
              clear hw11 hr112 hr113 hr114 hr115 hr116 hr117 hr118 hr119 hr120
              clear hc101 hc102 hc103 hc106 hc107 hc108 hc109 hc110 hc111
              have HF121 := Lib.hid (blk_below HF104.out hb11)
              have HB122 := Lib.hid (HB105.out.trans (hb11.mono HB105.out.size))
              clear hb11 HB105 HF104
              clear hwk
              go_wp2_with fail
              go_ret
              exact ⟨by first | (rw [← HR.out]; done) | (rw [← HR.out]; rfl), HB122.out⟩
    · have hd1 : decide ((k : Int) < (n : Int)) = false := decide_eq_false (by omega)
      have HR := Lib.hid (show (0 : Int) = wrR l by rw [← HV.out, ← HS.out, wrE_end l k (by rw [LL.out]; omega)])
      go_wp2_with fail
      go_ret
      exact ⟨by first | (rw [← HR.out]; done) | (rw [← HR.out]; rfl), HB.out⟩
set_option maxRecDepth 100000 in
set_option maxHeartbeats 4000000 in
theorem rfwrong_any (A : Option Addr) (n c : Nat) (l : List Rf) (w : World) (h : RdX rfC 3 w A n l) (hn : n ≤ maxLen) (hz : ∀ r ∈ l, r.2.1.size ≤ maxLen) :
    Calls Try.prog 59 #[.slice A n c] w fun e w' => e = .returned (.int .i64 (wrR l)) ∧ Below w.heap.size w w' := by
  have H := Lib.hid h
  have LL := Lib.hid h.1
  have HZ := Lib.hid hz
  have HB1 := Lib.hid (Below.refl w.heap.size w)
  unfold maxLen at hn
  clear h hz
  by_cases g1 : n ≤ 64
  rotate_left
  · have d1 : decide ((64 : Int) < (n : Int)) = true := decide_eq_true (by omega)
    go_enter Try.func59, Try.ntmps59
    go_wp2_with fail
    go_ret
    exact ⟨by rw [show wrR l = 5 by unfold wrR; rw [if_pos (by rw [LL.out]; omega)]]; rfl, HB1.out⟩
  have d1 : decide ((64 : Int) < (n : Int)) = false := decide_eq_false (by omega)
  have HV := Lib.hid (show wrE none l = wrR l by unfold wrR; rw [if_neg (by rw [LL.out]; omega)])
  go_enter Try.func59, Try.ntmps59
  go_wp2_with fail
  clear d1
  go_loopw [10] (fun i wr => ∃ k : Nat, i = .int .i64 (k : Int) ∧ k ≤ n ∧ wrE (prevR l k) (l.drop k) = wrE none l ∧ Below w.heap.size w wr) (fun i _ => n - (intOf i).toNat)
  case atStart => exact ⟨0, rfl, Nat.zero_le _, rfl, HB1.out⟩
  case round =>
    clear HB1
    obtain ⟨k, rfl, hk, hs, hb⟩ := hrel
    have HS := Lib.hid hs
    have HB := Lib.hid hb
    clear hs hb
    by_cases hlt : k < n
    · have hd1 : decide ((k : Int) < (n : Int)) = true := decide_eq_true (by omega)
      have hl : k < l.length := by rw [LL.out]; exact hlt
      obtain ⟨b, off, _, rfl, hbb, _⟩ := (H.out.below HB.out).at hlt
      have HA := Lib.hid (wrE_at l k hl)
      have HZK := Lib.hid (HZ.out _ (List.getElem_mem hl))
      obtain ⟨x, hx⟩ : ∃ x, l[k] = x := ⟨_, rfl⟩
      have HX := Lib.hid (show l[k]? = some x by rw [List.getElem?_eq_getElem hl, hx])
      rw [hx] at HA HZK
      clear hx
      obtain ⟨x1, x2, x3⟩ := x
      have hzk : x2.size ≤ maxLen := HZK.out
      have hi0 : (0 : Int) ≤ (k : Int) := by omega
      have hi1 : (k : Int) < (n : Int) := by omega
      have HIN := Lib.hid (fun W : World => refIs_any x2 W hzk)
      by_cases q1 : x1 < 1
      · have d1 : decide (x1 < 1) = true := decide_eq_true q1
        have HR := Lib.hid (show (2 : Int) = wrR l by rw [← HV.out, ← HS.out, HA.out, if_pos (by unfold okR okN; rw [decide_eq_false (show ¬ x1 = 1 by omega), decide_eq_false (show ¬ x1 = 2 by omega)]; rfl)])
        have hc101 : wr.cell? ⟨b, off + k * 3, none⟩ = some (.int .i64 x1) := (H.out.below HB.out).cellAt HX.out hlt 0 _ rfl
        have hc102 : wr.cell? ⟨b, off + k * 3 + 1, none⟩ = some (.string x2) := (H.out.below HB.out).cellAt HX.out hlt 1 _ rfl
        have hc103 : wr.cell? ⟨b, off + k * 3 + 2, none⟩ = some (.string x3) := (H.out.below HB.out).cellAt HX.out hlt 2 _ rfl
        have HF104 := Lib.hid (blk_new wr (.cells #[.int .i64 x1, .string x2, .string x3] 97 (0, 0)))
        have HB105 := Lib.hid (HB.out.alloc HB.out.size (.cells #[.int .i64 x1, .string x2, .string x3] 97 (0, 0)))
        clear HB
        have hc106 : (wr.alloc (.cells #[.int .i64 x1, .string x2, .string x3] 97 (0, 0))).cell? ⟨wr.heap.size, 0, none⟩ = some (.int .i64 x1) := by rw [cell_of_row _ _ _ _ _ _ HF104.out]; rfl
        have hc107 : (wr.alloc (.cells #[.int .i64 x1, .string x2, .string x3] 97 (0, 0))).cell? ⟨wr.heap.size, 1, none⟩ = some (.string x2) := by rw [cell_of_row _ _ _ _ _ _ HF104.out]; rfl
        have hc108 : (wr.alloc (.cells #[.int .i64 x1, .string x2, .string x3] 97 (0, 0))).cell? ⟨wr.heap.size, 2, none⟩ = some (.string x3) := by rw [cell_of_row _ _ _ _ _ _ HF104.out]; rfl
        go_wp2_with fail
        go_ret
        exact ⟨by first | (rw [← HR.out]; done) | (rw [← HR.out]; rfl), HB105.out⟩
      have d1 : decide (x1 < 1) = false := decide_eq_false q1
      by_cases q2 : 2 < x1
      · have d2 : decide (2 < x1) = true := decide_eq_true q2
        have HR := Lib.hid (show (2 : Int) = wrR l by rw [← HV.out, ← HS.out, HA.out, if_pos (by unfold okR okN; rw [decide_eq_false (show ¬ x1 = 1 by omega), decide_eq_false (show ¬ x1 = 2 by omega)]; rfl)])
        have hc101 : wr.cell? ⟨b, off + k * 3, none⟩ = some (.int .i64 x1) := (H.out.below HB.out).cellAt HX.out hlt 0 _ rfl
        have hc102 : wr.cell? ⟨b, off + k * 3 + 1, none⟩ = some (.string x2) := (H.out.below HB.out).cellAt HX.out hlt 1 _ rfl
        have hc103 : wr.cell? ⟨b, off + k * 3 + 2, none⟩ = some (.string x3) := (H.out.below HB.out).cellAt HX.out hlt 2 _ rfl
        have HF104 := Lib.hid (blk_new wr (.cells #[.int .i64 x1, .string x2, .string x3] 97 (0, 0)))
        have HB105 := Lib.hid (HB.out.alloc HB.out.size (.cells #[.int .i64 x1, .string x2, .string x3] 97 (0, 0)))
        clear HB
        have hc106 : (wr.alloc (.cells #[.int .i64 x1, .string x2, .string x3] 97 (0, 0))).cell? ⟨wr.heap.size, 0, none⟩ = some (.int .i64 x1) := by rw [cell_of_row _ _ _ _ _ _ HF104.out]; rfl
        have hc107 : (wr.alloc (.cells #[.int .i64 x1, .string x2, .string x3] 97 (0, 0))).cell? ⟨wr.heap.size, 1, none⟩ = some (.string x2) := by rw [cell_of_row _ _ _ _ _ _ HF104.out]; rfl
        have hc108 : (wr.alloc (.cells #[.int .i64 x1, .string x2, .string x3] 97 (0, 0))).cell? ⟨wr.heap.size, 2, none⟩ = some (.string x3) := by rw [cell_of_row _ _ _ _ _ _ HF104.out]; rfl
        go_wp2_with fail
        go_ret
        exact ⟨by first | (rw [← HR.out]; done) | (rw [← HR.out]; rfl), HB105.out⟩
      have d2 : decide (2 < x1) = false := decide_eq_false q2
      have HKK := Lib.hid (show (decide (x1 = 1) || decide (x1 = 2)) = true by
        rcases (show x1 = 1 ∨ x1 = 2 by omega) with e | e
        · rw [decide_eq_true e]; rfl
        · rw [decide_eq_true e]; simp)
      clear q1 q2
      cases hok : nm x2 with
      | false =>
        have HR := Lib.hid (show (2 : Int) = wrR l by rw [← HV.out, ← HS.out, HA.out, if_pos (by unfold okR okN; rw [show nm (x1, x2, x3).2.1 = false from hok]; simp)])
        rw [hok] at HIN
        clear hok
        have hc101 : wr.cell? ⟨b, off + k * 3, none⟩ = some (.int .i64 x1) := (H.out.below HB.out).cellAt HX.out hlt 0 _ rfl
        have hc102 : wr.cell? ⟨b, off + k * 3 + 1, none⟩ = some (.string x2) := (H.out.below HB.out).cellAt HX.out hlt 1 _ rfl
        have hc103 : wr.cell? ⟨b, off + k * 3 + 2, none⟩ = some (.string x3) := (H.out.below HB.out).cellAt HX.out hlt 2 _ rfl
        have HF104 := Lib.hid (blk_new wr (.cells #[.int .i64 x1, .string x2, .string x3] 97 (0, 0)))
        have HB105 := Lib.hid (HB.out.alloc HB.out.size (.cells #[.int .i64 x1, .string x2, .string x3] 97 (0, 0)))
        clear HB
        have hc106 : (wr.alloc (.cells #[.int .i64 x1, .string x2, .string x3] 97 (0, 0))).cell? ⟨wr.heap.size, 0, none⟩ = some (.int .i64 x1) := by rw [cell_of_row _ _ _ _ _ _ HF104.out]; rfl
        have hc107 : (wr.alloc (.cells #[.int .i64 x1, .string x2, .string x3] 97 (0, 0))).cell? ⟨wr.heap.size, 1, none⟩ = some (.string x2) := by rw [cell_of_row _ _ _ _ _ _ HF104.out]; rfl
        have hc108 : (wr.alloc (.cells #[.int .i64 x1, .string x2, .string x3] 97 (0, 0))).cell? ⟨wr.heap.size, 2, none⟩ = some (.string x3) := by rw [cell_of_row _ _ _ _ _ _ HF104.out]; rfl
        go_wp2_with fail
        refine (HIN.out _).mono ?_
        rintro e w' ⟨rfl, rfl⟩
        go_wp2_with fail
        go_ret
        exact ⟨by first | (rw [← HR.out]; done) | (rw [← HR.out]; rfl), HB105.out⟩
      | true =>
        rw [hok] at HIN
        cases hem : x3.toList.isEmpty with
        | true =>
          have HR := Lib.hid (show (2 : Int) = wrR l by rw [← HV.out, ← HS.out, HA.out, if_pos (by unfold okR; rw [show (x1, x2, x3).2.2.toList.isEmpty = true from hem]; simp)])
          clear hok
          have hc101 : wr.cell? ⟨b, off + k * 3, none⟩ = some (.int .i64 x1) := (H.out.below HB.out).cellAt HX.out hlt 0 _ rfl
          have hc102 : wr.cell? ⟨b, off + k * 3 + 1, none⟩ = some (.string x2) := (H.out.below HB.out).cellAt HX.out hlt 1 _ rfl
          have hc103 : wr.cell? ⟨b, off + k * 3 + 2, none⟩ = some (.string x3) := (H.out.below HB.out).cellAt HX.out hlt 2 _ rfl
          have HF104 := Lib.hid (blk_new wr (.cells #[.int .i64 x1, .string x2, .string x3] 97 (0, 0)))
          have HB105 := Lib.hid (HB.out.alloc HB.out.size (.cells #[.int .i64 x1, .string x2, .string x3] 97 (0, 0)))
          clear HB
          have hc106 : (wr.alloc (.cells #[.int .i64 x1, .string x2, .string x3] 97 (0, 0))).cell? ⟨wr.heap.size, 0, none⟩ = some (.int .i64 x1) := by rw [cell_of_row _ _ _ _ _ _ HF104.out]; rfl
          have hc107 : (wr.alloc (.cells #[.int .i64 x1, .string x2, .string x3] 97 (0, 0))).cell? ⟨wr.heap.size, 1, none⟩ = some (.string x2) := by rw [cell_of_row _ _ _ _ _ _ HF104.out]; rfl
          have hc108 : (wr.alloc (.cells #[.int .i64 x1, .string x2, .string x3] 97 (0, 0))).cell? ⟨wr.heap.size, 2, none⟩ = some (.string x3) := by rw [cell_of_row _ _ _ _ _ _ HF104.out]; rfl
          go_wp2_with fail
          refine (HIN.out _).mono ?_
          rintro e w' ⟨rfl, rfl⟩
          go_wp2_with fail
          go_ret
          exact ⟨by first | (rw [← HR.out]; done) | (rw [← HR.out]; rfl), HB105.out⟩
        | false =>
          have HOK := Lib.hid (show ¬ okR (x1, x2, x3) = false by unfold okR okN; rw [show (decide ((x1, x2, x3).1 = 1) || decide ((x1, x2, x3).1 = 2)) = true from HKK.out, show nm (x1, x2, x3).2.1 = true from hok, show (x1, x2, x3).2.2.toList.isEmpty = false from hem]; simp)
          clear hok
          rcases Nat.eq_zero_or_pos k with h0 | hpos
          · subst h0
            have HR := Lib.hid (show wrE (prevR l (0 + 1)) (l.drop (0 + 1)) = wrE none l by rw [← HS.out, HA.out, if_neg HOK.out, if_neg (by simp [prevR, ordR])])
            have hof : off + 0 * 3 = off := by omega
            have hc101 : wr.cell? ⟨b, off + 0 * 3, none⟩ = some (.int .i64 x1) := (H.out.below HB.out).cellAt HX.out hlt 0 _ rfl
            have hc101z : wr.cell? ⟨b, off, none⟩ = some (.int .i64 x1) := by have q := hc101; rw [hof] at q; exact q
            have hc102 : wr.cell? ⟨b, off + 0 * 3 + 1, none⟩ = some (.string x2) := (H.out.below HB.out).cellAt HX.out hlt 1 _ rfl
            have hc102z : wr.cell? ⟨b, off + 1, none⟩ = some (.string x2) := by have q := hc102; rw [hof] at q; exact q
            have hc103 : wr.cell? ⟨b, off + 0 * 3 + 2, none⟩ = some (.string x3) := (H.out.below HB.out).cellAt HX.out hlt 2 _ rfl
            have hc103z : wr.cell? ⟨b, off + 2, none⟩ = some (.string x3) := by have q := hc103; rw [hof] at q; exact q
            have HF104 := Lib.hid (blk_new wr (.cells #[.int .i64 x1, .string x2, .string x3] 97 (0, 0)))
            have HB105 := Lib.hid (HB.out.alloc HB.out.size (.cells #[.int .i64 x1, .string x2, .string x3] 97 (0, 0)))
            clear HB
            have hc106 : (wr.alloc (.cells #[.int .i64 x1, .string x2, .string x3] 97 (0, 0))).cell? ⟨wr.heap.size, 0, none⟩ = some (.int .i64 x1) := by rw [cell_of_row _ _ _ _ _ _ HF104.out]; rfl
            have hc107 : (wr.alloc (.cells #[.int .i64 x1, .string x2, .string x3] 97 (0, 0))).cell? ⟨wr.heap.size, 1, none⟩ = some (.string x2) := by rw [cell_of_row _ _ _ _ _ _ HF104.out]; rfl
            have hc108 : (wr.alloc (.cells #[.int .i64 x1, .string x2, .string x3] 97 (0, 0))).cell? ⟨wr.heap.size, 2, none⟩ = some (.string x3) := by rw [cell_of_row _ _ _ _ _ _ HF104.out]; rfl
            go_wp2_with fail
            refine (HIN.out _).mono ?_
            rintro e w' ⟨rfl, rfl⟩
            go_upto_region 8 with (fail)
            have hr109 := fun d os => cell_regrown hc101 d os
            have hr110 := fun d os => cell_regrown hc102 d os
            have hr111 := fun d os => cell_regrown hc103 d os
            have hr112 := fun d os => cell_regrown hc106 d os
            have hr113 := fun d os => cell_regrown hc107 d os
            have hr114 := fun d os => cell_regrown hc108 d os
            refine wp_region_quiet_below (by kernel_rfl) (by kernel_rfl) ?_
            repeat (any_goals (first | go_big_quiet_step (fail) | quiet_step (fail)))
            refine wpQuiet_nil ?_
            intro w11 hw11
            have hb11 := below_anyY hw11
            clear hw11 hr109 hr110 hr111 hr112 hr113 hr114
            clear hc101 hc102 hc103 hc106 hc107 hc108 hc101z hc102z hc103z
            have HF115 := Lib.hid (blk_below HF104.out hb11)
            have HB116 := Lib.hid (HB105.out.trans (hb11.mono HB105.out.size))
            clear hb11 HB105 HF104
            go_wp2_with fail
            go_roundw
            case rel => exact ⟨1, by go_num, by omega, HR.out, HB116.out⟩
            case measure => simp [intOf] <;> omega
          · obtain ⟨m, hkm⟩ : ∃ m, k = m + 1 := ⟨k - 1, by omega⟩
            have hmn : m < n := by omega
            have hlm : m < l.length := by rw [LL.out]; exact hmn
            obtain ⟨y, hy⟩ : ∃ y, l[m] = y := ⟨_, rfl⟩
            have HY := Lib.hid (show l[m]? = some y by rw [List.getElem?_eq_getElem hlm, hy])
            obtain ⟨y1, y2, y3⟩ := y
            have HPV := Lib.hid (show prevR l k = some (y1, y2, y3) by rw [hkm]; exact HY.out)
            have hm0 : (0 : Int) ≤ (m : Int) := by omega
            have hm1 : (m : Int) < (n : Int) := by omega
            have hwk : IntKind.i64.wrap ((k : Int) - 1) = (m : Int) := by rw [IntWalk.i64_in _ (by omega)]; omega
            have hk0 : decide ((0 : Int) < (k : Int)) = true := decide_eq_true (by omega)
            have HF := Lib.hid (fun W : World => rfless_any y1 y2 y3 x1 x2 x3 W)
            have HKM := Lib.hid hkm
            have hk0n : decide (0 < k) = true := decide_eq_true hpos
            clear hy hkm
            cases hp : lessR (y1, y2, y3) (x1, x2, x3) with
            | true =>
              have HR := Lib.hid (show wrE (prevR l (k + 1)) (l.drop (k + 1)) = wrE none l by rw [← HS.out, HA.out, if_neg HOK.out, if_neg (by rw [HPV.out]; show ¬ lessR _ _ = false; rw [hp]; simp)])
              rw [hp] at HF
              clear hp
              have hc101 : wr.cell? ⟨b, off + k * 3, none⟩ = some (.int .i64 x1) := (H.out.below HB.out).cellAt HX.out hlt 0 _ rfl
              have hc102 : wr.cell? ⟨b, off + k * 3 + 1, none⟩ = some (.string x2) := (H.out.below HB.out).cellAt HX.out hlt 1 _ rfl
              have hc103 : wr.cell? ⟨b, off + k * 3 + 2, none⟩ = some (.string x3) := (H.out.below HB.out).cellAt HX.out hlt 2 _ rfl
              have HF104 := Lib.hid (blk_new wr (.cells #[.int .i64 x1, .string x2, .string x3] 97 (0, 0)))
              have HB105 := Lib.hid (HB.out.alloc HB.out.size (.cells #[.int .i64 x1, .string x2, .string x3] 97 (0, 0)))
              clear HB
              have hc106 : (wr.alloc (.cells #[.int .i64 x1, .string x2, .string x3] 97 (0, 0))).cell? ⟨wr.heap.size, 0, none⟩ = some (.int .i64 x1) := by rw [cell_of_row _ _ _ _ _ _ HF104.out]; rfl
              have hc107 : (wr.alloc (.cells #[.int .i64 x1, .string x2, .string x3] 97 (0, 0))).cell? ⟨wr.heap.size, 1, none⟩ = some (.string x2) := by rw [cell_of_row _ _ _ _ _ _ HF104.out]; rfl
              have hc108 : (wr.alloc (.cells #[.int .i64 x1, .string x2, .string x3] 97 (0, 0))).cell? ⟨wr.heap.size, 2, none⟩ = some (.string x3) := by rw [cell_of_row _ _ _ _ _ _ HF104.out]; rfl
              have hc109 : (wr.alloc (.cells #[.int .i64 x1, .string x2, .string x3] 97 (0, 0))).cell? ⟨b, off + m * 3, none⟩ = some (.int .i64 y1) := (H.out.below HB105.out).cellAt HY.out hmn 0 _ rfl
              have hc110 : (wr.alloc (.cells #[.int .i64 x1, .string x2, .string x3] 97 (0, 0))).cell? ⟨b, off + m * 3 + 1, none⟩ = some (.string y2) := (H.out.below HB105.out).cellAt HY.out hmn 1 _ rfl
              have hc111 : (wr.alloc (.cells #[.int .i64 x1, .string x2, .string x3] 97 (0, 0))).cell? ⟨b, off + m * 3 + 2, none⟩ = some (.string y3) := (H.out.below HB105.out).cellAt HY.out hmn 2 _ rfl
              go_wp2_with fail
              refine (HIN.out _).mono ?_
              rintro e w' ⟨rfl, rfl⟩
              go_upto_region 8 with (fail)
              have hr112 := fun d os => cell_regrown hc101 d os
              have hr113 := fun d os => cell_regrown hc102 d os
              have hr114 := fun d os => cell_regrown hc103 d os
              have hr115 := fun d os => cell_regrown hc106 d os
              have hr116 := fun d os => cell_regrown hc107 d os
              have hr117 := fun d os => cell_regrown hc108 d os
              have hr118 := fun d os => cell_regrown hc109 d os
              have hr119 := fun d os => cell_regrown hc110 d os
              have hr120 := fun d os => cell_regrown hc111 d os
              refine wp_region_quiet_below (by kernel_rfl) (by kernel_rfl) ?_
              repeat (any_goals (first | go_big_quiet_step ((go_at_call 56; with_reducible exact Calls.regrown_of (HF.out _))) | quiet_step ((go_at_call 56; with_reducible exact Calls.regrown_of (HF.out _)))))
              refine wpQuiet_nil ?_
              intro w11 hw11
              have hb11 := below_anyY hw11
              clear hw11 hr112 hr113 hr114 hr115 hr116 hr117 hr118 hr119 hr120
              clear hc101 hc102 hc103 hc106 hc107 hc108 hc109 hc110 hc111
              have HF121 := Lib.hid (blk_below HF104.out hb11)
              have HB122 := Lib.hid (HB105.out.trans (hb11.mono HB105.out.size))
              clear hb11 HB105 HF104
              clear hwk
              go_wp2_with fail
              go_roundw
              case rel => exact ⟨k + 1, by go_num, by omega, HR.out, HB122.out⟩
              case measure => simp [intOf] <;> omega
            | false =>
              have HR := Lib.hid (show (4 : Int) = wrR l by rw [← HV.out, ← HS.out, HA.out, if_neg HOK.out, if_pos (by rw [HPV.out]; exact hp)])
              rw [hp] at HF
              clear hp
              have hc101 : wr.cell? ⟨b, off + k * 3, none⟩ = some (.int .i64 x1) := (H.out.below HB.out).cellAt HX.out hlt 0 _ rfl
              have hc102 : wr.cell? ⟨b, off + k * 3 + 1, none⟩ = some (.string x2) := (H.out.below HB.out).cellAt HX.out hlt 1 _ rfl
              have hc103 : wr.cell? ⟨b, off + k * 3 + 2, none⟩ = some (.string x3) := (H.out.below HB.out).cellAt HX.out hlt 2 _ rfl
              have HF104 := Lib.hid (blk_new wr (.cells #[.int .i64 x1, .string x2, .string x3] 97 (0, 0)))
              have HB105 := Lib.hid (HB.out.alloc HB.out.size (.cells #[.int .i64 x1, .string x2, .string x3] 97 (0, 0)))
              clear HB
              have hc106 : (wr.alloc (.cells #[.int .i64 x1, .string x2, .string x3] 97 (0, 0))).cell? ⟨wr.heap.size, 0, none⟩ = some (.int .i64 x1) := by rw [cell_of_row _ _ _ _ _ _ HF104.out]; rfl
              have hc107 : (wr.alloc (.cells #[.int .i64 x1, .string x2, .string x3] 97 (0, 0))).cell? ⟨wr.heap.size, 1, none⟩ = some (.string x2) := by rw [cell_of_row _ _ _ _ _ _ HF104.out]; rfl
              have hc108 : (wr.alloc (.cells #[.int .i64 x1, .string x2, .string x3] 97 (0, 0))).cell? ⟨wr.heap.size, 2, none⟩ = some (.string x3) := by rw [cell_of_row _ _ _ _ _ _ HF104.out]; rfl
              have hc109 : (wr.alloc (.cells #[.int .i64 x1, .string x2, .string x3] 97 (0, 0))).cell? ⟨b, off + m * 3, none⟩ = some (.int .i64 y1) := (H.out.below HB105.out).cellAt HY.out hmn 0 _ rfl
              have hc110 : (wr.alloc (.cells #[.int .i64 x1, .string x2, .string x3] 97 (0, 0))).cell? ⟨b, off + m * 3 + 1, none⟩ = some (.string y2) := (H.out.below HB105.out).cellAt HY.out hmn 1 _ rfl
              have hc111 : (wr.alloc (.cells #[.int .i64 x1, .string x2, .string x3] 97 (0, 0))).cell? ⟨b, off + m * 3 + 2, none⟩ = some (.string y3) := (H.out.below HB105.out).cellAt HY.out hmn 2 _ rfl
              go_wp2_with fail
              refine (HIN.out _).mono ?_
              rintro e w' ⟨rfl, rfl⟩
              go_upto_region 8 with (fail)
              have hr112 := fun d os => cell_regrown hc101 d os
              have hr113 := fun d os => cell_regrown hc102 d os
              have hr114 := fun d os => cell_regrown hc103 d os
              have hr115 := fun d os => cell_regrown hc106 d os
              have hr116 := fun d os => cell_regrown hc107 d os
              have hr117 := fun d os => cell_regrown hc108 d os
              have hr118 := fun d os => cell_regrown hc109 d os
              have hr119 := fun d os => cell_regrown hc110 d os
              have hr120 := fun d os => cell_regrown hc111 d os
              refine wp_region_quiet_below (by kernel_rfl) (by kernel_rfl) ?_
              repeat (any_goals (first | go_big_quiet_step ((go_at_call 56; with_reducible exact Calls.regrown_of (HF.out _))) | quiet_step ((go_at_call 56; with_reducible exact Calls.regrown_of (HF.out _)))))
              refine wpQuiet_nil ?_
              intro w11 hw11
              have hb11 := below_anyY hw11
              clear hw11 hr112 hr113 hr114 hr115 hr116 hr117 hr118 hr119 hr120
              clear hc101 hc102 hc103 hc106 hc107 hc108 hc109 hc110 hc111
              have HF121 := Lib.hid (blk_below HF104.out hb11)
              have HB122 := Lib.hid (HB105.out.trans (hb11.mono HB105.out.size))
              clear hb11 HB105 HF104
              clear hwk
              go_wp2_with fail
              go_ret
              exact ⟨by first | (rw [← HR.out]; done) | (rw [← HR.out]; rfl), HB122.out⟩
    · have hd1 : decide ((k : Int) < (n : Int)) = false := decide_eq_false (by omega)
      have HR := Lib.hid (show (0 : Int) = wrR l by rw [← HV.out, ← HS.out, wrE_end l k (by rw [LL.out]; omega)])
      go_wp2_with fail
      go_ret
      exact ⟨by first | (rw [← HR.out]; done) | (rw [← HR.out]; rfl), HB.out⟩
end Go.Proofs.Ytbjngbacnkmjhaa

namespace Go.Proofs.Ytbjngbacnkmjhaa
open Go.RowKit Vi

theorem info_rfB : (Try.prog.info? 97).map (fun i => (i.zero, i.size, i.bytes)) = some (some (.agg #[.int .i64 0, .string ⟨#[]⟩, .string ⟨#[]⟩]), 3, 40) := by kernel_rfl
def RetR0 (w : World) (L : List Rf) (e : Ending) (w' : World) : Prop := ∃ v, e = .returned v ∧ OwX rfC 3 97 w' w.heap.size v L ∧ Below w.heap.size w w'
set_option maxRecDepth 100000 in
set_option maxHeartbeats 1600000 in
theorem rfgrow_any (n : Nat) (w : World) (hn : n ≤ 300000) :
    Calls Try.prog 211 #[.slice none 0 0, .int .i64 (n : Int)] w (RetR0 w []) := by
  rcases Nat.eq_zero_or_pos n with rfl | hp
  · go_enter Try.func211, Try.ntmps211
    go_wp2
    go_ret
    exact ⟨_, rfl, OwX.nil w, Below.refl _ _⟩
  · obtain ⟨i0, hi, hz0, hz1, hz2⟩ := info_parts info_rfB
    have hrz := fun ty => Lib.run_append_nil_zeros (P := Try.prog) w 93 3 ty 97 i0 (.agg #[.int .i64 0, .string ⟨#[]⟩, .string ⟨#[]⟩]) .i64 .i64 Try.underlying93 Try.underlying3 hi hz0 n hp (by omega) (by omega) (by rw [hz2]; omega)
    have hGn : n ≤ grownCap w n 0 97 := grownCap_ge w _ _ _
    have hGm : grownCap w n 0 97 ≤ maxLen := grownCap_le_maxLen w n 0 97 (by unfold maxLen; omega)
    obtain ⟨G, hG⟩ : ∃ G, G = grownCap w n 0 97 := ⟨_, rfl⟩
    rw [← hG] at hGn hGm
    simp only [← hG] at hrz
    clear hG
    have hGm2 := hGm
    unfold maxLen at hGm2
    have h4 : (n : Int) > 0 := by omega
    have h1 : ¬ ((n : Int) < 0) := by omega
    have HRZ := Lib.hid hrz
    clear hrz hi hz0 hz1 hz2
    go_enter Try.func211, Try.ntmps211
    go_wp2_with (at_builtin; refine Lib.wpList_append_run _ rfl _ _ _ _ rfl _ _ rfl rfl _ _ (HRZ.out _) ?_)
    all_goals go_ret
    all_goals exact ⟨_, rfl, OwX.zero (heap_alloc_new w.drew _) (Nat.le_refl _) hGm (by simp [size_zeroCells]; omega), ((Below.refl _ w).drew).alloc (Nat.le_refl _) _⟩
theorem newR_one (w : World) (o : Obj) : (w.alloc o).drew.heap[w.heap.size]? = some o := (MapKept.heap_alloc w o).1
theorem belR_one (w : World) (o : Obj) : Below w.heap.size w (w.alloc o).drew := ((Below.refl _ w).alloc (Nat.le_refl _) o).drew
theorem sizR_one (w : World) (o : Obj) : w.heap.size < (w.alloc o).drew.heap.size := by show _ < (w.heap.push o).size; simp
/-- a slice of refs that came in -/
structure SlR where
  a : Option Addr
  n : Nat
  c : Nat
  l : List Rf
def slRC (x : SlR) : List Value := [.slice x.a x.n x.c]
def totR (xs : List SlR) : Nat := (xs.map (·.n)).sum
theorem totR_take (xs : List SlR) (k : Nat) (h : k < xs.length) : totR (xs.take (k + 1)) = totR (xs.take k) + xs[k].n := by
  rw [List.take_succ_eq_append_getElem h]; unfold totR; simp only [List.map_append, List.sum_append, List.map_cons, List.map_nil, List.sum_cons, List.sum_nil]; omega
theorem totR_le (xs : List SlR) (k : Nat) : totR (xs.take k) ≤ totR xs := by
  have : totR xs = totR (xs.take k) + totR (xs.drop k) := by
    unfold totR
    rw [← List.sum_append, ← List.map_append, List.take_append_drop]
  omega
theorem catR_take (xs : List SlR) (k : Nat) (h : k < xs.length) : (xs.take (k + 1)).flatMap (·.l) = (xs.take k).flatMap (·.l) ++ xs[k].l := by
  rw [List.take_succ_eq_append_getElem h, List.flatMap_append]; simp only [List.flatMap_cons, List.flatMap_nil, List.append_nil]
theorem catR_len (w : World) (xs : List SlR) (h : ∀ x ∈ xs, RdX rfC 3 w x.a x.n x.l) : (xs.flatMap (·.l)).length = totR xs := by
  induction xs with
  | nil => rfl
  | cons x r ih =>
    rw [List.flatMap_cons, List.length_append, ih (fun y hy => h y (List.mem_cons_of_mem _ hy)), (h x (by simp)).1]
    unfold totR; simp
set_option maxRecDepth 100000 in
set_option maxHeartbeats 2000000 in
theorem rfconcat_any (b off m cp : Nat) (xs : List SlR) (w : World) (h : RdX slRC 1 w (some ⟨b, off, none⟩) m xs) (hx : ∀ x ∈ xs, RdX rfC 3 w x.a x.n x.l) (hm : m ≤ 100) (ht : totR xs ≤ 100000) :
    Calls Try.prog 149 #[.slice (some ⟨b, off, none⟩) m cp] w (RetR0 w (xs.flatMap (·.l))) := by
  have H := Lib.hid h
  have HX := Lib.hid hx
  have L := Lib.hid h.1
  have HTT := Lib.hid (fun k => totR_le xs k)
  clear h hx
  go_enter Try.func149, Try.ntmps149
  go_wp2
  go_loop [3, 5, 11] (fun v _ i => ∃ (k t : Nat), i = .int .i64 (k : Int) ∧ v = .int .i64 (t : Int) ∧ k ≤ m ∧ t = totR (xs.take k)) (fun _ _ i => m - (intOf i).toNat)
  case atStart => exact ⟨0, 0, rfl, rfl, Nat.zero_le _, rfl⟩
  case round =>
    obtain ⟨k, t, rfl, rfl, hk, htk⟩ := hrel
    have HTK := Lib.hid htk
    have ht1 : t ≤ 100000 := by have := HTT.out k; rw [htk]; omega
    clear htk
    by_cases hlt : k < m
    · have hd1 : decide ((k : Int) < (m : Int)) = true := decide_eq_true (by omega)
      have hl : k < xs.length := by rw [L.out]; exact hlt
      have HA := Lib.hid (totR_take xs k hl)
      have hle := HTT.out (k + 1)
      rw [HA.out, ← HTK.out] at hle
      obtain ⟨x, hx⟩ : ∃ x, xs[k] = x := ⟨_, rfl⟩
      have HXK := Lib.hid (show xs[k]? = some x by rw [List.getElem?_eq_getElem hl, hx])
      rw [hx] at HA hle
      obtain ⟨xa, xn, xc, xl⟩ := x
      have a0 : w.cell? ⟨b, off + k, none⟩ = some (.slice xa xn xc) := by have h := H.out.cellAt HXK.out hlt 0 _ rfl; rw [Nat.add_zero, Nat.mul_one] at h; exact h
      have hxn : t + xn ≤ 100000 := Nat.le_trans hle ht
      have HA : Hid (totR (xs.take (k + 1)) = totR (xs.take k) + xn) := HA
      have HR := Lib.hid (show t + xn = totR (xs.take (k + 1)) by rw [HA.out, HTK.out])
      have hi0 : (0 : Int) ≤ (k : Int) := by omega
      have hneg : decide ((t : Int) + (xn : Int) < 0) = false := decide_eq_false (by omega)
      clear hx hle
      go_wp2_with fail
      go_round
      case rel => exact ⟨k + 1, t + xn, by go_num, by go_num, by omega, HR.out⟩
      case measure => simp [intOf] <;> omega
    · have hd1 : decide ((k : Int) < (m : Int)) = false := decide_eq_false (by omega)
      go_wp2_with fail
      refine (rfgrow_any t w (by omega)).mono ?_
      rintro e w1 ⟨v1, rfl, ho1, hb1⟩
      have HO1 := Lib.hid ho1
      have HB1 := Lib.hid hb1
      have hv1 := ho1.one
      clear ho1 hb1 hd1
      go_wp2_with fail
      go_loopw [6, 8, 27] (fun vv _ i wr => ∃ (j : Nat) (v : Value), v = vv ∧ i = .int .i64 (j : Int) ∧ j ≤ m ∧ OwX rfC 3 97 wr w.heap.size v ((xs.take j).flatMap (·.l)) ∧ Below w.heap.size w wr) (fun _ _ i _ => m - (intOf i).toNat)
      case atStart => exact ⟨0, _, rfl, rfl, Nat.zero_le _, HO1.out, HB1.out⟩
      case round =>
        obtain ⟨j, v, rfl, rfl, hj, ho, hb⟩ := hrel
        have HO := Lib.hid ho
        have HB := Lib.hid hb
        have hv := ho.one
        clear ho hb
        by_cases hlt2 : j < m
        · have hd1 : decide ((j : Int) < (m : Int)) = true := decide_eq_true (by omega)
          have hl : j < xs.length := by rw [L.out]; exact hlt2
          have HCT := Lib.hid (catR_take xs j hl)
          have HRJ := Lib.hid (HX.out _ (List.getElem_mem hl))
          have HTJ := Lib.hid (totR_take xs j hl)
          have hle := HTT.out (j + 1)
          rw [HTJ.out] at hle
          have HLJ := Lib.hid (catR_len w (xs.take j) (fun y hy => HX.out y (List.mem_of_mem_take hy)))
          obtain ⟨x, hx⟩ : ∃ x, xs[j] = x := ⟨_, rfl⟩
          have HXK := Lib.hid (show xs[j]? = some x by rw [List.getElem?_eq_getElem hl, hx])
          rw [hx] at HCT HRJ hle
          obtain ⟨xa, xn, xc, xl⟩ := x
          have a0 : wr.cell? ⟨b, off + j, none⟩ = some (.slice xa xn xc) := by have h := (H.out.below HB.out).cellAt HXK.out hlt2 0 _ rfl; rw [Nat.add_zero, Nat.mul_one] at h; exact h
          have HRJ : Hid (RdX rfC 3 w xa xn xl) := HRJ
          have HCT : Hid ((xs.take (j + 1)).flatMap (·.l) = (xs.take j).flatMap (·.l) ++ xl) := HCT
          have hle : totR (xs.take j) + xn ≤ totR xs := hle
          have hi0 : (0 : Int) ≤ (j : Int) := by omega
          clear hx
          go_wp2_with (at_builtin; refine wpList_appXs rfl _ _ 93 97 _ 40 rfl Try.underlying93 info_rfB rfl (by omega) (by omega) rfC_len rfC_one w.heap.size w HB.out HB.out.size v _ rfl HO.out xa xn xc xl rfl (HRJ.out.below HB.out) (by rw [HLJ.out]; omega) ?_)
          intro v2 w2 HO2 HB2 HZ2 HG2
          have hv2 := HO2.out.one
          go_wp2_with fail
          go_roundw
          case rel => exact ⟨j + 1, v2, rfl, by go_num, by omega, by rw [HCT.out]; exact HO2.out, HB2.out⟩
          case measure => simp [intOf] <;> omega
        · have hd1 : decide ((j : Int) < (m : Int)) = false := decide_eq_false (by omega)
          have HE := Lib.hid (show xs.take j = xs from List.take_of_length_le (by rw [L.out]; omega))
          rw [HE.out] at HO
          go_wp2_with fail
          go_ret
          exact ⟨v, rfl, HO.out, HB.out⟩
theorem elem_rr : Try.prog.elem 93 = 97 := by kernel_rfl
theorem size_of_rf (W : World) : (sizeOf 97).run Try.prog W = .ok 3 W := by
  obtain ⟨i0, hi, _, hz1, _⟩ := info_parts info_rfB
  simp [sizeOf, typeInfo, hi, hz1]
theorem und_rr : Try.prog.underlying 93 = some (.slice (Try.prog.elem 93)) := by rw [elem_rr]; exact Try.underlying93
theorem rfslice_to (a : Option Addr) (n c k : Nat) (hk : k ≤ c) (W : World) : (Instr.slice 93 (.slice a n c) none (some (.int .i64 (k : Int))) none).run Try.prog W = .ok (.slice a k c) W := by
  rw [run_slice_h W _ a n c und_rr .i64 k (by omega) (by omega), elem_rr, size_of_rf]
  simp [Result.andThen, sliced, Addr.add]
theorem rfslice_from (a : Option Addr) (n c k : Nat) (z : Int) (hz : z = k) (hk : k ≤ n) (W : World) : (Instr.slice 93 (.slice a n c) (some (.int .i64 z)) none none).run Try.prog W = .ok (.slice (cutX 3 a c k) (n - k) (c - k)) W := by
  subst hz
  rw [run_slice_l W _ a n c und_rr .i64 k (by omega) (by omega), elem_rr, size_of_rf]
  simp [Result.andThen, sliced, cutX]
set_option maxRecDepth 100000 in
set_option maxHeartbeats 800000 in
theorem rfclone_any (A : Option Addr) (n c : Nat) (ps : List Rf) (w : World) (h : RdX rfC 3 w A n ps) (hn : n ≤ 100000) :
    Calls Try.prog 150 #[.slice A n c] w (RetR0 w ps) := by
  have q24 : ∀ (w : World) (a : Option Addr) (n c n' c' : Nat), (binOp .eql 93 (.slice a n c) (.slice none n' c')).run Try.prog w = .ok (.bool a.isNone) w := fun w a n c n' c' => Lib.run_eql_slice_nil w _ _ a n c n' c' Try.underlying93
  have H := Lib.hid h
  rcases A with _ | ad
  · have h0 : ps = [] := by
      rcases Nat.eq_zero_or_pos n with h0 | h0
      · exact List.length_eq_zero_iff.1 (by rw [h.1]; exact h0)
      · obtain ⟨b, off, e, _⟩ := h.2 h0
        cases e
    subst h0
    clear h
    go_enter Try.func150, Try.ntmps150
    go_wp2
    go_ret
    exact ⟨_, rfl, OwX.nil w, Below.refl _ _⟩
  · clear h
    go_enter Try.func150, Try.ntmps150
    go_wp2_with (at_builtin; refine wpList_appXs rfl _ _ 93 97 _ 40 rfl Try.underlying93 info_rfB rfl (by omega) (by omega) rfC_len rfC_one w.heap.size w ((Below.refl _ w).alloc (Nat.le_refl _) _) (by simp) _ [] rfl (OwX.zero (blk_new w _) (Nat.le_refl _) (Nat.zero_le _) rfl) (some ad) n c ps rfl (H.out.below ((Below.refl _ w).alloc (Nat.le_refl _) _)) (by simp; omega) ?_)
    intro v1 w1 HO HB HZ HG
    have hv1 := HO.out.one
    go_wp2_with fail
    go_ret
    exact ⟨v1, rfl, HO.out, HB.out⟩
end Go.Proofs.Ytbjngbacnkmjhaa

namespace Go.Proofs.Ytbjngbacnkmjhaa
open Go.RowKit Vi

def RiseR (l : List Rf) : Prop := l.Pairwise fun a b => lessR a b = true
def lesR (l : List Rf) (x : Rf) : Nat := (l.filter fun a => lessR a x).length
def metR (l : List Rf) (x : Rf) (K : Nat) : Bool := match l[K]? with
  | some r => sameK r x
  | none => false
def isR (l : List Rf) (x : Rf) : ByteArray := match l.find? fun r => sameK r x with
  | some r => r.2.2
  | none => ⟨#[]⟩
theorem lesR_le (l : List Rf) (x : Rf) : lesR l x ≤ l.length := List.length_filter_le _ _
theorem cutR : ∀ (l : List Rf) (x : Rf), RiseR l → ∀ t (h : t < l.length), (t < lesR l x → lessR l[t] x = true) ∧ (lesR l x ≤ t → lessR l[t] x = false)
  | [], _, _, t, h => by simp at h
  | a :: r, x, hr, t, h => by
    obtain ⟨h1, h2⟩ := List.pairwise_cons.1 hr
    cases ha : lessR a x with
    | true =>
      have e : lesR (a :: r) x = lesR r x + 1 := by unfold lesR; rw [List.filter_cons_of_pos (p := fun a => lessR a x) ha]; rfl
      cases t with
      | zero => exact ⟨fun _ => ha, fun q => by omega⟩
      | succ t =>
        have k := cutR r x h2 t (by simpa using h)
        exact ⟨fun q => k.1 (by omega), fun q => k.2 (by omega)⟩
    | false =>
      have e0 : ∀ b ∈ r, lessR b x = false := fun b hb => by
        cases q : lessR b x with
        | false => rfl
        | true => rw [lessR_trans (h1 b hb) q] at ha; cases ha
      have e : lesR (a :: r) x = 0 := by
        unfold lesR
        rw [List.filter_cons_of_neg (p := fun a => lessR a x) (by rw [ha]; simp), List.filter_eq_nil_iff.2 (fun b hb => by rw [e0 b hb]; simp)]; rfl
      refine ⟨fun q => by omega, fun _ => ?_⟩
      cases t with
      | zero => exact ha
      | succ t => exact e0 _ (List.getElem_mem _)
theorem sameK_less {r x : Rf} (h : lessR r x = true) : sameK r x = false := by
  rcases cmpR_cases r x with ⟨_, _, _, h4⟩ | ⟨h1, _⟩ | ⟨h1, _⟩
  · exact h4
  · rw [h1] at h; cases h
  · rw [h1] at h; cases h
theorem find_noneR {l : List Rf} {x : Rf} (h : ∀ t (ht : t < l.length), sameK l[t] x = false) : l.find? (fun r => sameK r x) = none := by
  rw [List.find?_eq_none]
  intro r hr
  obtain ⟨t, ht, rfl⟩ := List.getElem_of_mem hr
  rw [h t ht]; simp
theorem isR_yes {l : List Rf} {x : Rf} (hr : RiseR l) (h : metR l x (lesR l x) = true) : ∃ hk : lesR l x < l.length, sameK l[lesR l x] x = true ∧ isR l x = l[lesR l x].2.2 := by
  have hk : lesR l x < l.length := by
    rcases Nat.lt_or_ge (lesR l x) l.length with q | q
    · exact q
    · unfold metR at h; rw [List.getElem?_eq_none q] at h; cases h
  have hs : sameK l[lesR l x] x = true := by unfold metR at h; rw [List.getElem?_eq_getElem hk] at h; exact h
  refine ⟨hk, hs, ?_⟩
  have e : l.find? (fun r => sameK r x) = some l[lesR l x] := by
    have e1 : l.find? (fun r => sameK r x) = (l.take (lesR l x) ++ l.drop (lesR l x)).find? (fun r => sameK r x) := by rw [List.take_append_drop]
    rw [e1, List.find?_append, find_noneR (fun t ht => ?_), Option.none_or, List.drop_eq_getElem_cons hk, List.find?_cons_of_pos (p := fun r => sameK r x) hs]
    rw [List.length_take] at ht
    rw [List.getElem_take]
    exact sameK_less ((cutR l x hr t (by omega)).1 (by omega))
  unfold isR; rw [e]
theorem isR_no {l : List Rf} {x : Rf} (hr : RiseR l) (h : metR l x (lesR l x) = false) : isR l x = ⟨#[]⟩ := by
  have e : l.find? (fun r => sameK r x) = none := find_noneR (fun t (ht : t < l.length) => show sameK l[t] x = false by
    rcases Nat.lt_trichotomy t (lesR l x) with q | q | q
    · exact sameK_less ((cutR l x hr t ht).1 q)
    · subst q
      unfold metR at h; rw [List.getElem?_eq_getElem ht] at h; exact h
    · cases hs : sameK l[t] x with
      | false => rfl
      | true =>
        exfalso
        have hk : lesR l x < l.length := by omega
        have h1 := (cutR l x hr _ hk).2 (Nat.le_refl _)
        have h2 : lessR l[lesR l x] l[t] = true := (List.pairwise_iff_getElem.1 hr) _ _ hk ht q
        rcases cmpR_cases l[t] x with ⟨_, _, _, h4⟩ | ⟨_, _, _, h4⟩ | ⟨h3, h5, _, _⟩
        · rw [h4] at hs; cases hs
        · rw [h4] at hs; cases hs
        · obtain ⟨tq, hq⟩ : ∃ q, l[t] = q := ⟨_, rfl⟩
          obtain ⟨t1, t2, t3⟩ := tq
          obtain ⟨x1, x2, x3⟩ := x
          rw [hq] at hs h2
          unfold sameK at hs
          rw [Bool.and_eq_true, decide_eq_true_iff, beq_iff_eq] at hs
          have : ∀ u : Rf, lessR u (x1, x2, x3) = lessR u (t1, t2, t3) := fun u => by
            unfold lessR; simp only; rw [show x1 = t1 from hs.1.symm, show x2.toList = t2.toList from hs.2.symm]
          rw [this, h2] at h1
          cases h1)
  unfold isR; rw [e]
set_option maxHeartbeats 4000000 in
set_option maxRecDepth 100000 in
theorem rfbsf_any (A : Option Addr) (n c : Nat) (l : List Rf) (x1 : Int) (x2 x3 : ByteArray) (w : World) (h : RdX rfC 3 w A n l) (hn : n ≤ 1000000) (hr : RiseR l) :
    Calls Try.prog 210 #[.slice A n c, .agg #[.int .i64 x1, .string x2, .string x3], .func (.func 57) #[] #[]] w fun e w' => e = .returned (.tuple #[.int .i64 (lesR l (x1, x2, x3) : Int), .bool (metR l (x1, x2, x3) (lesR l (x1, x2, x3)))]) ∧ Below w.heap.size w w' := by
  have H := Lib.hid h
  have HL := Lib.hid h.1
  have H1 := Lib.hid (cutR l (x1, x2, x3) hr)
  have hk0 : lesR l (x1, x2, x3) ≤ n := by rw [← h.1]; exact lesR_le l (x1, x2, x3)
  generalize lesR l (x1, x2, x3) = K at *
  clear h hr
  have HB1 := Lib.hid (Below.refl w.heap.size w)
  go_enter Try.func210, Try.ntmps210
  have HF2 := Lib.hid (blk_new w (.cells #[.int .i64 x1, .string x2, .string x3] 97 (0, 0)))
  have HB3 := Lib.hid (HB1.out.alloc HB1.out.size (.cells #[.int .i64 x1, .string x2, .string x3] 97 (0, 0)))
  clear HB1
  go_wp2
  go_loopw [9, 10, 11] (fun i j _ wr => ∃ (lo hi : Nat), i = .int .i64 (lo : Int) ∧ j = .int .i64 (hi : Int) ∧ lo ≤ K ∧ K ≤ hi ∧ hi ≤ n ∧ wr.heap[w.heap.size]? = some (.cells #[.int .i64 x1, .string x2, .string x3] 97 (0, 0)) ∧ Below w.heap.size w wr) (fun i j _ _ => (intOf j - intOf i).toNat)
  case atStart => exact ⟨0, n, rfl, rfl, by omega, hk0, Nat.le_refl _, HF2.out, HB3.out⟩
  case round =>
    obtain ⟨lo, hi, rfl, rfl, hlo, hhi, hln, hbx, hb⟩ := hrel
    have HB := Lib.hid hb
    have HC := Lib.hid hbx
    have hCl := lt_of_block hbx
    clear hb hbx
    by_cases hlt : (lo : Int) < hi
    · obtain ⟨m, hm⟩ : ∃ m, m = (lo + hi) / 2 := ⟨_, rfl⟩
      have hml : lo ≤ m := by omega
      have hmh : m < hi := by omega
      have hmn : m < n := by omega
      have hme : ((lo : Int) + hi) / 2 = (m : Int) := by omega
      obtain ⟨b, off, hl, rfl, hbb, _⟩ := (H.out.below HB.out).at hmn
      have HCUT := Lib.hid (H1.out m hl)
      obtain ⟨y, hy⟩ : ∃ y, l[m] = y := ⟨_, rfl⟩
      have HX := Lib.hid (show l[m]? = some y by rw [List.getElem?_eq_getElem hl, hy])
      rw [hy] at HCUT
      obtain ⟨y1, y2, y3⟩ := y
      have hi0 : (0 : Int) ≤ (m : Int) := by omega
      have hi1 : (m : Int) < (n : Int) := by omega
      have HF := Lib.hid (fun W : World => rfcmp_any y1 y2 y3 x1 x2 x3 W)
      clear hm hy
      by_cases hmk : m < K
      · have HV := Lib.hid (cmpR_less (HCUT.out.1 hmk))
        rw [HV.out] at HF
        have hc101 : wr.cell? ⟨b, off + m * 3, none⟩ = some (.int .i64 y1) := (H.out.below HB.out).cellAt HX.out hmn 0 _ rfl
        have hc102 : wr.cell? ⟨b, off + m * 3 + 1, none⟩ = some (.string y2) := (H.out.below HB.out).cellAt HX.out hmn 1 _ rfl
        have hc103 : wr.cell? ⟨b, off + m * 3 + 2, none⟩ = some (.string y3) := (H.out.below HB.out).cellAt HX.out hmn 2 _ rfl
        have hc104 : wr.cell? ⟨w.heap.size, 0, none⟩ = some (.int .i64 x1) := by rw [cell_of_row _ _ _ _ _ _ HC.out]; rfl
        have hc105 : wr.cell? ⟨w.heap.size, 1, none⟩ = some (.string x2) := by rw [cell_of_row _ _ _ _ _ _ HC.out]; rfl
        have hc106 : wr.cell? ⟨w.heap.size, 2, none⟩ = some (.string x3) := by rw [cell_of_row _ _ _ _ _ _ HC.out]; rfl
        go_wp2_with fail
        have hr107 := fun d os => cell_regrown hc101 d os
        have hr108 := fun d os => cell_regrown hc102 d os
        have hr109 := fun d os => cell_regrown hc103 d os
        have hr110 := fun d os => cell_regrown hc104 d os
        have hr111 := fun d os => cell_regrown hc105 d os
        have hr112 := fun d os => cell_regrown hc106 d os
        refine wp_region_quiet_below (by kernel_rfl) (by kernel_rfl) ?_
        repeat (any_goals (first | go_big_quiet_step ((go_at_call 57; with_reducible exact Calls.regrown_of (HF.out _))) | quiet_step ((go_at_call 57; with_reducible exact Calls.regrown_of (HF.out _)))))
        refine wpQuiet_nil ?_
        intro w11 hw11
        have hb11 := below_anyY hw11
        clear hw11 hr107 hr108 hr109 hr110 hr111 hr112
        clear hc101 hc102 hc103 hc104 hc105 hc106
        have HF113 := Lib.hid (blk_below HC.out hb11)
        have HB114 := Lib.hid (HB.out.trans (hb11.mono HB.out.size))
        clear hb11 HB HC
        go_wp2_with fail
        go_roundw
        case rel => exact ⟨m + 1, hi, by go_num, rfl, by omega, hhi, hln, HF113.out, HB114.out⟩
        case measure => simp [intOf] <;> omega
      · have hv := cmpR_not (HCUT.out.2 (by omega))
        generalize cmpR (y1, y2, y3) (x1, x2, x3) = z at hv HF
        have hz : decide (z < 0) = false := decide_eq_false (by omega)
        have hc101 : wr.cell? ⟨b, off + m * 3, none⟩ = some (.int .i64 y1) := (H.out.below HB.out).cellAt HX.out hmn 0 _ rfl
        have hc102 : wr.cell? ⟨b, off + m * 3 + 1, none⟩ = some (.string y2) := (H.out.below HB.out).cellAt HX.out hmn 1 _ rfl
        have hc103 : wr.cell? ⟨b, off + m * 3 + 2, none⟩ = some (.string y3) := (H.out.below HB.out).cellAt HX.out hmn 2 _ rfl
        have hc104 : wr.cell? ⟨w.heap.size, 0, none⟩ = some (.int .i64 x1) := by rw [cell_of_row _ _ _ _ _ _ HC.out]; rfl
        have hc105 : wr.cell? ⟨w.heap.size, 1, none⟩ = some (.string x2) := by rw [cell_of_row _ _ _ _ _ _ HC.out]; rfl
        have hc106 : wr.cell? ⟨w.heap.size, 2, none⟩ = some (.string x3) := by rw [cell_of_row _ _ _ _ _ _ HC.out]; rfl
        go_wp2_with fail
        have hr107 := fun d os => cell_regrown hc101 d os
        have hr108 := fun d os => cell_regrown hc102 d os
        have hr109 := fun d os => cell_regrown hc103 d os
        have hr110 := fun d os => cell_regrown hc104 d os
        have hr111 := fun d os => cell_regrown hc105 d os
        have hr112 := fun d os => cell_regrown hc106 d os
        refine wp_region_quiet_below (by kernel_rfl) (by kernel_rfl) ?_
        repeat (any_goals (first | go_big_quiet_step ((go_at_call 57; with_reducible exact Calls.regrown_of (HF.out _))) | quiet_step ((go_at_call 57; with_reducible exact Calls.regrown_of (HF.out _)))))
        refine wpQuiet_nil ?_
        intro w11 hw11
        have hb11 := below_anyY hw11
        clear hw11 hr107 hr108 hr109 hr110 hr111 hr112
        clear hc101 hc102 hc103 hc104 hc105 hc106
        have HF113 := Lib.hid (blk_below HC.out hb11)
        have HB114 := Lib.hid (HB.out.trans (hb11.mono HB.out.size))
        clear hb11 HB HC
        go_wp2_with fail
        go_roundw
        case rel => exact ⟨lo, m, rfl, rfl, hlo, by omega, by omega, HF113.out, HB114.out⟩
        case measure => simp [intOf] <;> omega
    · obtain rfl : lo = K := by omega
      obtain rfl : hi = lo := by omega
      clear H1
      by_cases hin : hi < n
      · have hd1 : decide ((hi : Int) < (n : Int)) = true := decide_eq_true (by omega)
        have hd1n : decide (hi < n) = true := decide_eq_true hin
        obtain ⟨b, off, hl, rfl, hbb, _⟩ := (H.out.below HB.out).at hin
        obtain ⟨y, hy⟩ : ∃ y, l[hi] = y := ⟨_, rfl⟩
        have HX := Lib.hid (show l[hi]? = some y by rw [List.getElem?_eq_getElem hl, hy])
        obtain ⟨y1, y2, y3⟩ := y
        have hi0 : (0 : Int) ≤ (hi : Int) := by omega
        have HF := Lib.hid (fun W : World => rfcmp_any y1 y2 y3 x1 x2 x3 W)
        have HM := Lib.hid (show metR l (x1, x2, x3) hi = (cmpR (y1, y2, y3) (x1, x2, x3) == 0) by unfold metR; rw [HX.out, cmpR_eq])
        generalize cmpR (y1, y2, y3) (x1, x2, x3) = z at HF HM
        clear hlt hy
        cases hzm : (z == 0)
        · have HR := Lib.hid (HM.out.trans hzm)
          have hc101 : wr.cell? ⟨b, off + hi * 3, none⟩ = some (.int .i64 y1) := (H.out.below HB.out).cellAt HX.out hin 0 _ rfl
          have hc102 : wr.cell? ⟨b, off + hi * 3 + 1, none⟩ = some (.string y2) := (H.out.below HB.out).cellAt HX.out hin 1 _ rfl
          have hc103 : wr.cell? ⟨b, off + hi * 3 + 2, none⟩ = some (.string y3) := (H.out.below HB.out).cellAt HX.out hin 2 _ rfl
          have hc104 : wr.cell? ⟨w.heap.size, 0, none⟩ = some (.int .i64 x1) := by rw [cell_of_row _ _ _ _ _ _ HC.out]; rfl
          have hc105 : wr.cell? ⟨w.heap.size, 1, none⟩ = some (.string x2) := by rw [cell_of_row _ _ _ _ _ _ HC.out]; rfl
          have hc106 : wr.cell? ⟨w.heap.size, 2, none⟩ = some (.string x3) := by rw [cell_of_row _ _ _ _ _ _ HC.out]; rfl
          go_wp2_with fail
          have hr107 := fun d os => cell_regrown hc101 d os
          have hr108 := fun d os => cell_regrown hc102 d os
          have hr109 := fun d os => cell_regrown hc103 d os
          have hr110 := fun d os => cell_regrown hc104 d os
          have hr111 := fun d os => cell_regrown hc105 d os
          have hr112 := fun d os => cell_regrown hc106 d os
          refine wp_region_quiet_below (by kernel_rfl) (by kernel_rfl) ?_
          repeat (any_goals (first | go_big_quiet_step ((go_at_call 57; with_reducible exact Calls.regrown_of (HF.out _))) | quiet_step ((go_at_call 57; with_reducible exact Calls.regrown_of (HF.out _)))))
          refine wpQuiet_nil ?_
          intro w11 hw11
          have hb11 := below_anyY hw11
          clear hw11 hr107 hr108 hr109 hr110 hr111 hr112
          clear hc101 hc102 hc103 hc104 hc105 hc106
          have HF113 := Lib.hid (blk_below HC.out hb11)
          have HB114 := Lib.hid (HB.out.trans (hb11.mono HB.out.size))
          clear hb11 HB HC
          go_wp2_with fail
          go_ret2
          exact ⟨by first | (rw [HR.out]; done) | (rw [HR.out]; rfl), HB114.out⟩
        · have HR := Lib.hid (HM.out.trans hzm)
          have hc101 : wr.cell? ⟨b, off + hi * 3, none⟩ = some (.int .i64 y1) := (H.out.below HB.out).cellAt HX.out hin 0 _ rfl
          have hc102 : wr.cell? ⟨b, off + hi * 3 + 1, none⟩ = some (.string y2) := (H.out.below HB.out).cellAt HX.out hin 1 _ rfl
          have hc103 : wr.cell? ⟨b, off + hi * 3 + 2, none⟩ = some (.string y3) := (H.out.below HB.out).cellAt HX.out hin 2 _ rfl
          have hc104 : wr.cell? ⟨w.heap.size, 0, none⟩ = some (.int .i64 x1) := by rw [cell_of_row _ _ _ _ _ _ HC.out]; rfl
          have hc105 : wr.cell? ⟨w.heap.size, 1, none⟩ = some (.string x2) := by rw [cell_of_row _ _ _ _ _ _ HC.out]; rfl
          have hc106 : wr.cell? ⟨w.heap.size, 2, none⟩ = some (.string x3) := by rw [cell_of_row _ _ _ _ _ _ HC.out]; rfl
          go_wp2_with fail
          have hr107 := fun d os => cell_regrown hc101 d os
          have hr108 := fun d os => cell_regrown hc102 d os
          have hr109 := fun d os => cell_regrown hc103 d os
          have hr110 := fun d os => cell_regrown hc104 d os
          have hr111 := fun d os => cell_regrown hc105 d os
          have hr112 := fun d os => cell_regrown hc106 d os
          refine wp_region_quiet_below (by kernel_rfl) (by kernel_rfl) ?_
          repeat (any_goals (first | go_big_quiet_step ((go_at_call 57; with_reducible exact Calls.regrown_of (HF.out _))) | quiet_step ((go_at_call 57; with_reducible exact Calls.regrown_of (HF.out _)))))
          refine wpQuiet_nil ?_
          intro w11 hw11
          have hb11 := below_anyY hw11
          clear hw11 hr107 hr108 hr109 hr110 hr111 hr112
          clear hc101 hc102 hc103 hc104 hc105 hc106
          have HF113 := Lib.hid (blk_below HC.out hb11)
          have HB114 := Lib.hid (HB.out.trans (hb11.mono HB.out.size))
          clear hb11 HB HC
          go_wp2_with fail
          go_ret2
          exact ⟨by first | (rw [HR.out]; done) | (rw [HR.out]; rfl), HB114.out⟩
      · have hd : decide ((hi : Int) < (n : Int)) = false := decide_eq_false (by omega)
        have hdn : decide (hi < n) = false := decide_eq_false hin
        have HR := Lib.hid (show metR l (x1, x2, x3) hi = false by unfold metR; rw [List.getElem?_eq_none (by rw [HL.out]; omega)])
        go_wp2_with fail
        refine wp_region_quiet_below (by kernel_rfl) (by kernel_rfl) ?_
        repeat (any_goals (first | go_big_quiet_step (fail) | quiet_step (fail)))
        refine wpQuiet_nil ?_
        intro w11 hw11
        have hb11 := below_anyY hw11
        clear hw11 
        have HB101 := Lib.hid (HB.out.trans (hb11.mono HB.out.size))
        clear hb11 HB 
        go_wp2_with fail
        go_ret2
        exact ⟨by first | (rw [HR.out]; done) | (rw [HR.out]; rfl), HB101.out⟩
set_option maxHeartbeats 1000000 in
set_option maxRecDepth 100000 in
theorem rffind_any (A : Option Addr) (n c : Nat) (l : List Rf) (k : Int) (s now : ByteArray) (w : World) (h : RdX rfC 3 w A n l) (hn : n ≤ 1000000) (hr : RiseR l) :
    Calls Try.prog 148 #[.slice A n c, .int .i64 k, .string s] w fun e w' => e = .returned (.tuple #[.int .i64 (lesR l (k, s, now) : Int), .string (isR l (k, s, now))]) ∧ Below w.heap.size w w' := by
  have H := Lib.hid h
  have L := Lib.hid h.1
  have HF := Lib.hid (fun (W : World) (q : RdX rfC 3 W A n l) => rfbsf_any A n c l k s ⟨#[]⟩ W q hn hr)
  have e1 : lesR l (k, s, ⟨#[]⟩) = lesR l (k, s, now) := rfl
  have e2 : metR l (k, s, ⟨#[]⟩) (lesR l (k, s, now)) = metR l (k, s, now) (lesR l (k, s, now)) := rfl
  rw [e1, e2] at HF
  have HY := Lib.hid (isR_yes (x := (k, s, now)) hr)
  have HN := Lib.hid (isR_no (x := (k, s, now)) hr)
  clear h hr e1 e2
  generalize lesR l (k, s, now) = K at *
  generalize metR l (k, s, now) K = m at *
  cases m with
  | false =>
    have HV := Lib.hid (HN.out rfl)
    clear HY HN
    have HB1 := Lib.hid (Below.refl w.heap.size w)
    go_enter Try.func148, Try.ntmps148
    go_wp2_with fail
    refine (HF.out w (H.out.below HB1.out)).mono ?_
    rintro e w1 ⟨rfl, hb1⟩
    have HB2 := Lib.hid (HB1.out.trans (hb1.mono HB1.out.size))
    clear hb1 HB1 
    go_wp2_with fail
    go_ret2
    exact ⟨by first | (rw [HV.out]; done) | (rw [HV.out]; rfl), HB2.out⟩
  | true =>
    obtain ⟨hk, _, hv⟩ := HY.out rfl
    obtain ⟨y, hy⟩ : ∃ y, l[K] = y := ⟨_, rfl⟩
    have HX := Lib.hid (show l[K]? = some y by rw [List.getElem?_eq_getElem hk, hy])
    rw [hy] at hv
    obtain ⟨y1, y2, y3⟩ := y
    have HV := Lib.hid (show isR l (k, s, now) = y3 from hv)
    have hkn : K < n := by rw [← L.out]; exact hk
    have hi0 : (0 : Int) ≤ (K : Int) := by omega
    have hi1 : (K : Int) < (n : Int) := by omega
    obtain ⟨b, off, _, rfl, _, _⟩ := H.out.at hkn
    clear HY HN hv hy
    have HB1 := Lib.hid (Below.refl w.heap.size w)
    go_enter Try.func148, Try.ntmps148
    go_wp2_with fail
    refine (HF.out w (H.out.below HB1.out)).mono ?_
    rintro e w1 ⟨rfl, hb1⟩
    have HB2 := Lib.hid (HB1.out.trans (hb1.mono HB1.out.size))
    clear hb1 HB1 
    go_wp2_with fail
    have hc3 : w1.cell? ⟨b, off + K * 3 + 2, none⟩ = some (.string y3) := (H.out.below HB2.out).cellAt HX.out hkn 2 _ rfl
    have hr4 := fun d os => cell_regrown hc3 d os
    refine wp_region_quiet_below (by kernel_rfl) (by kernel_rfl) ?_
    repeat (any_goals (first | go_big_quiet_step (fail) | quiet_step (fail)))
    refine wpQuiet_nil ?_
    intro w2 hw2
    have hb2 := below_anyY hw2
    clear hw2 hr4
    clear hc3
    have HB5 := Lib.hid (HB2.out.trans (hb2.mono HB2.out.size))
    clear hb2 HB2 
    go_wp2_with fail
    go_ret2
    exact ⟨by first | (rw [HV.out]; done) | (rw [HV.out]; rfl), HB5.out⟩
set_option maxHeartbeats 1000000 in
set_option maxRecDepth 100000 in
theorem rfget_any (A : Option Addr) (n c : Nat) (l : List Rf) (k : Int) (s now : ByteArray) (w : World) (h : RdX rfC 3 w A n l) (hn : n ≤ 1000000) (hr : RiseR l) :
    Calls Try.prog 63 #[.slice A n c, .int .i64 k, .string s] w fun e w' => e = .returned (.string (isR l (k, s, now))) ∧ Below w.heap.size w w' := by
  have H := Lib.hid h
  have HF := Lib.hid (fun (W : World) (q : RdX rfC 3 W A n l) => rffind_any A n c l k s now W q hn hr)
  clear h hr
  generalize lesR l (k, s, now) = K at *
  generalize isR l (k, s, now) = m at *
  have HB1 := Lib.hid (Below.refl w.heap.size w)
  go_enter Try.func63, Try.ntmps63
  go_wp2_with fail
  refine (HF.out w (H.out.below HB1.out)).mono ?_
  rintro e w1 ⟨rfl, hb1⟩
  have HB2 := Lib.hid (HB1.out.trans (hb1.mono HB1.out.size))
  clear hb1 HB1 
  go_wp2_with fail
  go_ret
  exact ⟨rfl, HB2.out⟩
theorem retSr {a b : ByteArray} (h : a = b) : Ending.returned (.string a) = .returned (.string b) := by rw [h]
theorem find_dropR (l : List Rf) (x : Rf) (k : Nat) (h : k < l.length) (hs : sameK l[k] x = false) : (l.drop k).find? (fun r => sameK r x) = (l.drop (k + 1)).find? (fun r => sameK r x) := by
  rw [List.drop_eq_getElem_cons h, List.find?_cons_of_neg (p := fun r => sameK r x) (by rw [hs]; simp)]
set_option maxRecDepth 100000 in
set_option maxHeartbeats 2000000 in
theorem rfdget_any (A : Option Addr) (n c : Nat) (l : List Rf) (kd : Int) (s now : ByteArray) (w : World) (h : RdX rfC 3 w A n l) (hn : n ≤ maxLen) :
    Calls Try.prog 64 #[.slice A n c, .int .i64 kd, .string s] w fun e w' => e = .returned (.string (isR l (kd, s, now))) ∧ Below w.heap.size w w' := by
  have H := Lib.hid h
  have LL := Lib.hid h.1
  have HB1 := Lib.hid (Below.refl w.heap.size w)
  unfold maxLen at hn
  clear h
  go_enter Try.func64, Try.ntmps64
  go_wp2_with fail
  go_loopw [11] (fun i wr => ∃ k : Nat, i = .int .i64 (k : Int) ∧ k ≤ n ∧ (l.drop k).find? (fun r => sameK r (kd, s, now)) = l.find? (fun r => sameK r (kd, s, now)) ∧ Below w.heap.size w wr) (fun i _ => n - (intOf i).toNat)
  case atStart => exact ⟨0, rfl, Nat.zero_le _, rfl, HB1.out⟩
  case round =>
    clear HB1
    obtain ⟨k, rfl, hk, hs, hb⟩ := hrel
    have HS := Lib.hid hs
    have HB := Lib.hid hb
    clear hs hb
    by_cases hlt : k < n
    · have hd1 : decide ((k : Int) < (n : Int)) = true := decide_eq_true (by omega)
      have hl : k < l.length := by rw [LL.out]; exact hlt
      obtain ⟨b, off, _, rfl, hbb, _⟩ := (H.out.below HB.out).at hlt
      have HA := Lib.hid (find_dropR l (kd, s, now) k hl)
      obtain ⟨x, hx⟩ : ∃ x, l[k] = x := ⟨_, rfl⟩
      have HX := Lib.hid (show l[k]? = some x by rw [List.getElem?_eq_getElem hl, hx])
      have HD := Lib.hid (show l.drop k = x :: l.drop (k + 1) by rw [List.drop_eq_getElem_cons hl, hx])
      rw [hx] at HA
      clear hx
      obtain ⟨x1, x2, x3⟩ := x
      have hi0 : (0 : Int) ≤ (k : Int) := by omega
      have hi1 : (k : Int) < (n : Int) := by omega
      by_cases e1 : x1 = kd
      · have q1 : (x1 == kd) = true := by simpa using e1
        cases q2 : (x2.toList == s.toList) with
        | true =>
          have HR := Lib.hid (show x3 = isR l (kd, s, now) by
            unfold isR
            rw [← HS.out, HD.out, List.find?_cons_of_pos (p := fun r => sameK r (kd, s, now)) (show sameK (x1, x2, x3) (kd, s, now) = true by unfold sameK; rw [decide_eq_true e1, q2]; rfl)])
          clear e1
          have hc101 : wr.cell? ⟨b, off + k * 3, none⟩ = some (.int .i64 x1) := (H.out.below HB.out).cellAt HX.out hlt 0 _ rfl
          have hc102 : wr.cell? ⟨b, off + k * 3 + 1, none⟩ = some (.string x2) := (H.out.below HB.out).cellAt HX.out hlt 1 _ rfl
          have hc103 : wr.cell? ⟨b, off + k * 3 + 2, none⟩ = some (.string x3) := (H.out.below HB.out).cellAt HX.out hlt 2 _ rfl
          have HF104 := Lib.hid (blk_new wr (.cells #[.int .i64 x1, .string x2, .string x3] 97 (0, 0)))
          have HB105 := Lib.hid (HB.out.alloc HB.out.size (.cells #[.int .i64 x1, .string x2, .string x3] 97 (0, 0)))
          clear HB
          have hc106 : (wr.alloc (.cells #[.int .i64 x1, .string x2, .string x3] 97 (0, 0))).cell? ⟨wr.heap.size, 0, none⟩ = some (.int .i64 x1) := by rw [cell_of_row _ _ _ _ _ _ HF104.out]; rfl
          have hc107 : (wr.alloc (.cells #[.int .i64 x1, .string x2, .string x3] 97 (0, 0))).cell? ⟨wr.heap.size, 1, none⟩ = some (.string x2) := by rw [cell_of_row _ _ _ _ _ _ HF104.out]; rfl
          have hc108 : (wr.alloc (.cells #[.int .i64 x1, .string x2, .string x3] 97 (0, 0))).cell? ⟨wr.heap.size, 2, none⟩ = some (.string x3) := by rw [cell_of_row _ _ _ _ _ _ HF104.out]; rfl
          go_wp2_with fail
          go_ret
          exact ⟨retSr HR.out, HB105.out⟩
        | false =>
          have HR := Lib.hid (show (l.drop (k + 1)).find? (fun r => sameK r (kd, s, now)) = l.find? (fun r => sameK r (kd, s, now)) by
            rw [← HS.out, HA.out (by unfold sameK; rw [show ((x1, x2, x3).2.1.toList == (kd, s, now).2.1.toList) = false from q2, Bool.and_false])])
          clear e1
          have hc101 : wr.cell? ⟨b, off + k * 3, none⟩ = some (.int .i64 x1) := (H.out.below HB.out).cellAt HX.out hlt 0 _ rfl
          have hc102 : wr.cell? ⟨b, off + k * 3 + 1, none⟩ = some (.string x2) := (H.out.below HB.out).cellAt HX.out hlt 1 _ rfl
          have hc103 : wr.cell? ⟨b, off + k * 3 + 2, none⟩ = some (.string x3) := (H.out.below HB.out).cellAt HX.out hlt 2 _ rfl
          have HF104 := Lib.hid (blk_new wr (.cells #[.int .i64 x1, .string x2, .string x3] 97 (0, 0)))
          have HB105 := Lib.hid (HB.out.alloc HB.out.size (.cells #[.int .i64 x1, .string x2, .string x3] 97 (0, 0)))
          clear HB
          have hc106 : (wr.alloc (.cells #[.int .i64 x1, .string x2, .string x3] 97 (0, 0))).cell? ⟨wr.heap.size, 0, none⟩ = some (.int .i64 x1) := by rw [cell_of_row _ _ _ _ _ _ HF104.out]; rfl
          have hc107 : (wr.alloc (.cells #[.int .i64 x1, .string x2, .string x3] 97 (0, 0))).cell? ⟨wr.heap.size, 1, none⟩ = some (.string x2) := by rw [cell_of_row _ _ _ _ _ _ HF104.out]; rfl
          have hc108 : (wr.alloc (.cells #[.int .i64 x1, .string x2, .string x3] 97 (0, 0))).cell? ⟨wr.heap.size, 2, none⟩ = some (.string x3) := by rw [cell_of_row _ _ _ _ _ _ HF104.out]; rfl
          go_wp2_with fail
          go_roundw
          case rel => exact ⟨k + 1, by go_num, by omega, HR.out, HB105.out⟩
          case measure => simp [intOf] <;> omega
      · have q1 : (x1 == kd) = false := by simpa using e1
        have HR := Lib.hid (show (l.drop (k + 1)).find? (fun r => sameK r (kd, s, now)) = l.find? (fun r => sameK r (kd, s, now)) by
          rw [← HS.out, HA.out (by unfold sameK; rw [decide_eq_false (show ¬ (x1, x2, x3).1 = (kd, s, now).1 from e1), Bool.false_and])])
        clear e1
        have hc101 : wr.cell? ⟨b, off + k * 3, none⟩ = some (.int .i64 x1) := (H.out.below HB.out).cellAt HX.out hlt 0 _ rfl
        have hc102 : wr.cell? ⟨b, off + k * 3 + 1, none⟩ = some (.string x2) := (H.out.below HB.out).cellAt HX.out hlt 1 _ rfl
        have hc103 : wr.cell? ⟨b, off + k * 3 + 2, none⟩ = some (.string x3) := (H.out.below HB.out).cellAt HX.out hlt 2 _ rfl
        have HF104 := Lib.hid (blk_new wr (.cells #[.int .i64 x1, .string x2, .string x3] 97 (0, 0)))
        have HB105 := Lib.hid (HB.out.alloc HB.out.size (.cells #[.int .i64 x1, .string x2, .string x3] 97 (0, 0)))
        clear HB
        have hc106 : (wr.alloc (.cells #[.int .i64 x1, .string x2, .string x3] 97 (0, 0))).cell? ⟨wr.heap.size, 0, none⟩ = some (.int .i64 x1) := by rw [cell_of_row _ _ _ _ _ _ HF104.out]; rfl
        have hc107 : (wr.alloc (.cells #[.int .i64 x1, .string x2, .string x3] 97 (0, 0))).cell? ⟨wr.heap.size, 1, none⟩ = some (.string x2) := by rw [cell_of_row _ _ _ _ _ _ HF104.out]; rfl
        have hc108 : (wr.alloc (.cells #[.int .i64 x1, .string x2, .string x3] 97 (0, 0))).cell? ⟨wr.heap.size, 2, none⟩ = some (.string x3) := by rw [cell_of_row _ _ _ _ _ _ HF104.out]; rfl
        go_wp2_with fail
        go_roundw
        case rel => exact ⟨k + 1, by go_num, by omega, HR.out, HB105.out⟩
        case measure => simp [intOf] <;> omega
    · have hd1 : decide ((k : Int) < (n : Int)) = false := decide_eq_false (by omega)
      have HR := Lib.hid (show (⟨#[]⟩ : ByteArray) = isR l (kd, s, now) by unfold isR; rw [← HS.out, List.drop_eq_nil_of_le (by rw [LL.out]; omega)]; rfl)
      go_wp2_with fail
      go_ret
      exact ⟨retSr HR.out, HB.out⟩
end Go.Proofs.Ytbjngbacnkmjhaa
