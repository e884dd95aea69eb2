/- Same of layer 26 and graph.Same. Conditions: at most 1000000 nodes, edges, labels, properties in each. -/
import Derived.Test.YtbjngbacnkmjhaaOpc
import Derived.IntWalk
namespace Go.Proofs.Ytbjngbacnkmjhaa
open Go.RowKit Vi

def sameT (ss tt : List ByteArray) : Bool := decide (ss = tt)
def sameP (ps qs : List Pr) : Bool := decide (ps = qs)
theorem sameT_no {ss tt : List ByteArray} (h : ss ≠ tt) : false = sameT ss tt := (decide_eq_false h).symm
theorem sameT_yes {ss tt : List ByteArray} (h : ss = tt) : true = sameT ss tt := (decide_eq_true h).symm
theorem sameP_no {ss tt : List Pr} (h : ss ≠ tt) : false = sameP ss tt := (decide_eq_false h).symm
theorem sameP_yes {ss tt : List Pr} (h : ss = tt) : true = sameP ss tt := (decide_eq_true h).symm
theorem ba_eqR {x s : ByteArray} (h : (x.toList == s.toList) = true) : x = s := by
  have h1 : x.toList = s.toList := by simpa using h
  rw [Lib.toList_data, Lib.toList_data] at h1
  exact ByteArray.ext (Array.ext' h1)
set_option maxRecDepth 100000 in
theorem stexts_any (A A2 : Option Addr) (n m c c2 : Nat) (ss tt : List ByteArray) (w : World) (h : SlN w A n ss) (h2 : SlN w A2 m tt) (hn : (n : Int) ≤ 9223372036854775807) :
    Calls Try.prog 186 #[.slice A n c, .slice A2 m c2] w fun e w' => e = .returned (.bool (sameT ss tt)) ∧ Below w.heap.size w w' := by
  have H := Lib.hid h
  have H2 := Lib.hid h2
  have L := Lib.hid h.1
  have L2 := Lib.hid h2.1
  clear h h2
  by_cases hnm : n = m
  rotate_left
  · have d1 : ((n : Int) != (m : Int)) = true := by simp; omega
    have HR := Lib.hid (sameT_no (ss := ss) (tt := tt) (fun q => hnm (by rw [← L.out, ← L2.out, q])))
    clear hnm
    go_enter Try.func186, Try.ntmps186
    go_wp2_with fail
    go_ret
    exact ⟨retBo HR.out, Below.refl _ _⟩
  subst hnm
  go_enter Try.func186, Try.ntmps186
  go_wp2_with fail
  go_loopw [5] (fun i wr => ∃ k : Nat, i = .int .i64 (k : Int) ∧ k ≤ n ∧ Hid (ss.take k = tt.take k) ∧ Below w.heap.size w wr) (fun i _ => n - (intOf i).toNat)
  case atStart => exact ⟨0, rfl, Nat.zero_le _, Lib.hid rfl, Below.refl _ _⟩
  case round =>
    obtain ⟨k, rfl, hk, HI, hb⟩ := hrel
    have HB := Lib.hid hb
    clear hb
    by_cases hlt : k < n
    · have hd1 : decide ((k : Int) < (n : Int)) = true := decide_eq_true (by omega)
      have hl : k < ss.length := by rw [L.out]; exact hlt
      have hl2 : k < tt.length := by rw [L2.out]; exact hlt
      obtain ⟨b, off, rfl, hc⟩ := (H.out.later HB.out).2 (by omega)
      obtain ⟨b2, off2, rfl, hc2⟩ := (H2.out.later HB.out).2 (by omega)
      have a0 := hc k hl
      have a2 := hc2 k hl2
      have HT1 := Lib.hid (List.take_succ_eq_append_getElem hl)
      have HT2 := Lib.hid (List.take_succ_eq_append_getElem hl2)
      have HG1 := Lib.hid (List.getElem?_eq_getElem hl)
      have HG2 := Lib.hid (List.getElem?_eq_getElem hl2)
      obtain ⟨s, hs⟩ : ∃ s, ss[k] = s := ⟨_, rfl⟩
      obtain ⟨t, ht⟩ : ∃ t, tt[k] = t := ⟨_, rfl⟩
      rw [hs] at a0 HT1 HG1
      rw [ht] at a2 HT2 HG2
      have hi0 : (0 : Int) ≤ (k : Int) := by omega
      clear hc hc2 hs ht
      cases hq : (s.toList == t.toList) with
      | false =>
        have hq2 : (s.toList != t.toList) = true := by rw [bne, hq]; rfl
        have HR := Lib.hid (sameT_no (ss := ss) (tt := tt) (fun q => by
          have h1 := HG1.out
          rw [q, HG2.out] at h1
          injection h1 with h1
          subst h1
          simp at hq))
        go_wp2_with fail
        go_quiet (fail)
        go_wp2_with fail
        go_ret
        exact ⟨retBo HR.out, ⟨HB.out.os, HB.out.tape, HB.out.output, HB.out.size, HB.out.block⟩⟩
      | true =>
        have hq2 : (s.toList != t.toList) = false := by rw [bne, hq]; rfl
        have HJ := Lib.hid (show ss.take (k + 1) = tt.take (k + 1) by rw [HT1.out, HT2.out, HI.out, ba_eqR hq])
        go_wp2_with fail
        go_quiet (fail)
        go_wp2_with fail
        go_roundw
        case rel => exact ⟨k + 1, by go_num, by omega, HJ, ⟨HB.out.os, HB.out.tape, HB.out.output, HB.out.size, HB.out.block⟩⟩
        case measure => simp [intOf] <;> omega
    · have hd1 : decide ((k : Int) < (n : Int)) = false := decide_eq_false (by omega)
      have HR := Lib.hid (sameT_yes (show ss = tt by
        have q := HI.out
        rwa [List.take_of_length_le (by rw [L.out]; omega), List.take_of_length_le (by rw [L2.out]; omega)] at q))
      go_wp2_with fail
      go_ret
      exact ⟨retBo HR.out, HB.out⟩
theorem list_extP {a b : ByteArray} (h : a.data.toList = b.data.toList) : a = b := by
  apply ByteArray.ext
  exact Array.ext' h
theorem ba_neP {a b : ByteArray} (h : a ≠ b) : (a.toList == b.toList) = false := by
  rw [beq_eq_false_iff_ne, Lib.toList_data, Lib.toList_data]
  exact fun e => h (list_extP e)
set_option maxRecDepth 100000 in
theorem run_neq_pr (k1 k2 : ByteArray) (a1 a2 d1 d2 : Int) (t1 t2 : ByteArray) (h : ¬ (k1 = k2 ∧ a1 = a2 ∧ d1 = d2 ∧ t1 = t2)) (W : World) :
    (binOp .neq 187 (.agg #[.string k1, .int .i64 a1, .int .i64 d1, .string t1]) (.agg #[.string k2, .int .i64 a2, .int .i64 d2, .string t2])).run Try.prog W = .ok (.bool true) W := by
  by_cases h1 : k1 = k2
  · subst h1
    by_cases h2 : a1 = a2
    · subst h2
      by_cases h3 : d1 = d2
      · subst h3
        have h4 := ba_neP (fun q : t1 = t2 => h ⟨rfl, rfl, rfl, q⟩)
        simp [go_sem, h4]
      · have h4 : (d1 == d2) = false := by rw [beq_eq_false_iff_ne]; exact h3
        simp [go_sem, h4]
    · have h4 : (a1 == a2) = false := by rw [beq_eq_false_iff_ne]; exact h2
      simp [go_sem, h4]
  · have h4 := ba_neP h1
    simp [go_sem, h4]
set_option maxRecDepth 100000 in
set_option maxHeartbeats 1000000 in
theorem sprops_any (A A2 : Option Addr) (n m c c2 : Nat) (ps qs : List Pr) (w : World) (h : RdX prC 4 w A n ps) (h2 : RdX prC 4 w A2 m qs) (hn : (n : Int) ≤ 9223372036854775807) :
    Calls Try.prog 187 #[.slice A n c, .slice A2 m c2] w fun e w' => e = .returned (.bool (sameP ps qs)) ∧ Below w.heap.size w w' := by
  have H := Lib.hid h
  have H2 := Lib.hid h2
  have L := Lib.hid h.1
  have L2 := Lib.hid h2.1
  clear h h2
  by_cases hnm : n = m
  rotate_left
  · have d1 : ((n : Int) != (m : Int)) = true := by simp; omega
    have HR := Lib.hid (sameP_no (ss := ps) (tt := qs) (fun q => hnm (by rw [← L.out, ← L2.out, q])))
    clear hnm
    go_enter Try.func187, Try.ntmps187
    go_wp2_with fail
    go_ret
    exact ⟨retBo HR.out, Below.refl _ _⟩
  subst hnm
  go_enter Try.func187, Try.ntmps187
  go_wp2_with fail
  go_loopw [5] (fun i wr => ∃ k : Nat, i = .int .i64 (k : Int) ∧ k ≤ n ∧ Hid (ps.take k = qs.take k) ∧ Below w.heap.size w wr) (fun i _ => n - (intOf i).toNat)
  case atStart => exact ⟨0, rfl, Nat.zero_le _, Lib.hid rfl, Below.refl _ _⟩
  case round =>
    obtain ⟨k, rfl, hk, HI, hb⟩ := hrel
    have HB := Lib.hid hb
    clear hb
    by_cases hlt : k < n
    · have hd1 : decide ((k : Int) < (n : Int)) = true := decide_eq_true (by omega)
      obtain ⟨b, off, hl, rfl, hbb, hc⟩ := (H.out.below HB.out).at hlt
      obtain ⟨b2, off2, hl2, rfl, hbb2, hc2⟩ := (H2.out.below HB.out).at hlt
      have HT1 := Lib.hid (List.take_succ_eq_append_getElem hl)
      have HT2 := Lib.hid (List.take_succ_eq_append_getElem hl2)
      have HG1 := Lib.hid (List.getElem?_eq_getElem hl)
      have HG2 := Lib.hid (List.getElem?_eq_getElem hl2)
      obtain ⟨x, hx⟩ : ∃ x, ps[k] = x := ⟨_, rfl⟩
      obtain ⟨y, hy⟩ : ∃ y, qs[k] = y := ⟨_, rfl⟩
      rw [hx] at hc HT1 HG1
      rw [hy] at hc2 HT2 HG2
      obtain ⟨s, a, d, t⟩ := x
      obtain ⟨s2, a', d', t2⟩ := y
      have a0 := hc 0 _ rfl
      have a1 := hc 1 _ rfl
      have a2 := hc 2 _ rfl
      have a3 := hc 3 _ rfl
      have b0 := hc2 0 _ rfl
      have b1 := hc2 1 _ rfl
      have b2' := hc2 2 _ rfl
      have b3 := hc2 3 _ rfl
      rw [Nat.add_zero] at a0 b0
      have hi0 : (0 : Int) ≤ (k : Int) := by omega
      clear hc hc2 hx hy
      by_cases hq : s = s2 ∧ a = a' ∧ d = d' ∧ t = t2
      · obtain ⟨rfl, rfl, rfl, rfl⟩ := hq
        have HJ := Lib.hid (show ps.take (k + 1) = qs.take (k + 1) by rw [HT1.out, HT2.out, HI.out])
        go_wp2_with fail
        go_quiet (fail)
        go_wp2_with fail
        go_roundw
        case rel => exact ⟨k + 1, by go_num, by omega, HJ, ⟨HB.out.os, HB.out.tape, HB.out.output, HB.out.size, HB.out.block⟩⟩
        case measure => simp [intOf] <;> omega
      · have HR := Lib.hid (sameP_no (ss := ps) (tt := qs) (fun q => by
          have h1 := HG1.out
          rw [q, HG2.out] at h1
          injection h1 with h1
          injection h1 with e1 h1
          injection h1 with e2 h1
          injection h1 with e3 e4
          exact hq ⟨e1.symm, e2.symm, e3.symm, e4.symm⟩))
        have hrq := run_neq_pr s s2 a a' d d' t t2 hq
        clear hq
        go_wp2_with fail
        go_quiet (fail)
        go_wp2_with fail
        go_ret
        exact ⟨retBo HR.out, ⟨HB.out.os, HB.out.tape, HB.out.output, HB.out.size, HB.out.block⟩⟩
    · have hd1 : decide ((k : Int) < (n : Int)) = false := decide_eq_false (by omega)
      have HR := Lib.hid (sameP_yes (show ps = qs by
        have q := HI.out
        rwa [List.take_of_length_le (by rw [L.out]; omega), List.take_of_length_le (by rw [L2.out]; omega)] at q))
      go_wp2_with fail
      go_ret
      exact ⟨retBo HR.out, HB.out⟩
end Go.Proofs.Ytbjngbacnkmjhaa
namespace Go.Proofs.Ytbjngbacnkmjhaa
open Go.RowKit Vi

def eqB (a b : ByteArray) : Bool := a.toList == b.toList
def sameN (i j : ByteArray) (ss tt : List ByteArray) (ps qs : List Pr) : Bool := eqB i j && (sameT ss tt && sameP ps qs)
def sameE (i f g j h k : ByteArray) (ss tt : List ByteArray) (ps qs : List Pr) : Bool := eqB i j && (eqB f h && (eqB g k && (sameT ss tt && sameP ps qs)))
set_option maxRecDepth 100000 in
set_option maxHeartbeats 4000000 in
theorem snode_any (i j : ByteArray) (A A2 B B2 : Option Addr) (n n2 c c2 m m2 d d2 : Nat) (ss tt : List ByteArray) (ps qs : List Pr) (w : World) (hp1 : LP w A n ss B m ps) (hp2 : LP w A2 n2 tt B2 m2 qs) (hn : (n : Int) ≤ 9223372036854775807) (hm : (m : Int) ≤ 9223372036854775807) :
    Calls Try.prog 116 #[.agg #[.string i, .slice A n c, .slice B m d], .agg #[.string j, .slice A2 n2 c2, .slice B2 m2 d2]] w fun e w' => e = .returned (.bool (sameN i j ss tt ps qs)) ∧ Below w.heap.size w w' := by
  have H := Lib.hid hp1
  have H2 := Lib.hid hp2
  clear hp1 hp2
  cases qi : (i.toList == j.toList) with
  | false =>
    have HR := Lib.hid (show false = sameN i j ss tt ps qs by unfold sameN eqB; rw [qi]; simp)
    have HB1 := Lib.hid (Below.refl w.heap.size w)
    go_enter Try.func116, Try.ntmps116
    have HF2 := Lib.hid (blk_new w (.cells #[.string i, .slice A n c, .slice B m d] 81 (0, 0)))
    have HB3 := Lib.hid (HB1.out.alloc HB1.out.size (.cells #[.string i, .slice A n c, .slice B m d] 81 (0, 0)))
    clear HB1
    have HQ4 := Lib.hid (H.out.below ((Below.refl _ w).alloc (Nat.le_refl _) (.cells #[.string i, .slice A n c, .slice B m d] 81 (0, 0))))
    clear H
    have HQ5 := Lib.hid (H2.out.below ((Below.refl _ w).alloc (Nat.le_refl _) (.cells #[.string i, .slice A n c, .slice B m d] 81 (0, 0))))
    clear H2
    have HF6 := Lib.hid (blk_alloc HF2.out (.cells #[.string j, .slice A2 n2 c2, .slice B2 m2 d2] 81 (0, 0)))
    clear HF2
    have HF7 : Hid (((w.alloc (.cells #[.string i, .slice A n c, .slice B m d] 81 (0, 0))).alloc (.cells #[.string j, .slice A2 n2 c2, .slice B2 m2 d2] 81 (0, 0))).heap[w.heap.size + 1]? = some (.cells #[.string j, .slice A2 n2 c2, .slice B2 m2 d2] 81 (0, 0))) := Lib.hid (blk_newN (W := (w.alloc (.cells #[.string i, .slice A n c, .slice B m d] 81 (0, 0)))) (o := (.cells #[.string j, .slice A2 n2 c2, .slice B2 m2 d2] 81 (0, 0))) (by simp))
    have HB8 := Lib.hid (HB3.out.alloc (by have := HB3.out.size; simp at this ⊢ <;> omega) (.cells #[.string j, .slice A2 n2 c2, .slice B2 m2 d2] 81 (0, 0)))
    clear HB3
    have HQ9 := Lib.hid (HQ4.out.below ((Below.refl _ (w.alloc (.cells #[.string i, .slice A n c, .slice B m d] 81 (0, 0)))).alloc (Nat.le_refl _) (.cells #[.string j, .slice A2 n2 c2, .slice B2 m2 d2] 81 (0, 0))))
    clear HQ4
    have HQ10 := Lib.hid (HQ5.out.below ((Below.refl _ (w.alloc (.cells #[.string i, .slice A n c, .slice B m d] 81 (0, 0)))).alloc (Nat.le_refl _) (.cells #[.string j, .slice A2 n2 c2, .slice B2 m2 d2] 81 (0, 0))))
    clear HQ5
    have hc11 : ((w.alloc (.cells #[.string i, .slice A n c, .slice B m d] 81 (0, 0))).alloc (.cells #[.string j, .slice A2 n2 c2, .slice B2 m2 d2] 81 (0, 0))).cell? ⟨w.heap.size, 0, none⟩ = some (.string i) := by rw [cell_of_row _ _ _ _ _ _ HF6.out]; rfl
    have hc12 : ((w.alloc (.cells #[.string i, .slice A n c, .slice B m d] 81 (0, 0))).alloc (.cells #[.string j, .slice A2 n2 c2, .slice B2 m2 d2] 81 (0, 0))).cell? ⟨w.heap.size, 1, none⟩ = some (.slice A n c) := by rw [cell_of_row _ _ _ _ _ _ HF6.out]; rfl
    have hc13 : ((w.alloc (.cells #[.string i, .slice A n c, .slice B m d] 81 (0, 0))).alloc (.cells #[.string j, .slice A2 n2 c2, .slice B2 m2 d2] 81 (0, 0))).cell? ⟨w.heap.size, 2, none⟩ = some (.slice B m d) := by rw [cell_of_row _ _ _ _ _ _ HF6.out]; rfl
    have hc14 : ((w.alloc (.cells #[.string i, .slice A n c, .slice B m d] 81 (0, 0))).alloc (.cells #[.string j, .slice A2 n2 c2, .slice B2 m2 d2] 81 (0, 0))).cell? ⟨w.heap.size + 1, 0, none⟩ = some (.string j) := by rw [cell_of_row _ _ _ _ _ _ HF7.out]; rfl
    have hc15 : ((w.alloc (.cells #[.string i, .slice A n c, .slice B m d] 81 (0, 0))).alloc (.cells #[.string j, .slice A2 n2 c2, .slice B2 m2 d2] 81 (0, 0))).cell? ⟨w.heap.size + 1, 1, none⟩ = some (.slice A2 n2 c2) := by rw [cell_of_row _ _ _ _ _ _ HF7.out]; rfl
    have hc16 : ((w.alloc (.cells #[.string i, .slice A n c, .slice B m d] 81 (0, 0))).alloc (.cells #[.string j, .slice A2 n2 c2, .slice B2 m2 d2] 81 (0, 0))).cell? ⟨w.heap.size + 1, 2, none⟩ = some (.slice B2 m2 d2) := by rw [cell_of_row _ _ _ _ _ _ HF7.out]; rfl
    go_wp2_with fail
    clear hc11 hc12 hc13 hc14 hc15 hc16
    go_ret
    exact ⟨retBo HR.out, HB8.out⟩
  | true =>
    have HV := Lib.hid (show (sameT ss tt && sameP ps qs) = sameN i j ss tt ps qs by unfold sameN eqB; rw [qi]; simp)
    have HB1 := Lib.hid (Below.refl w.heap.size w)
    go_enter Try.func116, Try.ntmps116
    have HF2 := Lib.hid (blk_new w (.cells #[.string i, .slice A n c, .slice B m d] 81 (0, 0)))
    have HB3 := Lib.hid (HB1.out.alloc HB1.out.size (.cells #[.string i, .slice A n c, .slice B m d] 81 (0, 0)))
    clear HB1
    have HQ4 := Lib.hid (H.out.below ((Below.refl _ w).alloc (Nat.le_refl _) (.cells #[.string i, .slice A n c, .slice B m d] 81 (0, 0))))
    clear H
    have HQ5 := Lib.hid (H2.out.below ((Below.refl _ w).alloc (Nat.le_refl _) (.cells #[.string i, .slice A n c, .slice B m d] 81 (0, 0))))
    clear H2
    have HF6 := Lib.hid (blk_alloc HF2.out (.cells #[.string j, .slice A2 n2 c2, .slice B2 m2 d2] 81 (0, 0)))
    clear HF2
    have HF7 : Hid (((w.alloc (.cells #[.string i, .slice A n c, .slice B m d] 81 (0, 0))).alloc (.cells #[.string j, .slice A2 n2 c2, .slice B2 m2 d2] 81 (0, 0))).heap[w.heap.size + 1]? = some (.cells #[.string j, .slice A2 n2 c2, .slice B2 m2 d2] 81 (0, 0))) := Lib.hid (blk_newN (W := (w.alloc (.cells #[.string i, .slice A n c, .slice B m d] 81 (0, 0)))) (o := (.cells #[.string j, .slice A2 n2 c2, .slice B2 m2 d2] 81 (0, 0))) (by simp))
    have HB8 := Lib.hid (HB3.out.alloc (by have := HB3.out.size; simp at this ⊢ <;> omega) (.cells #[.string j, .slice A2 n2 c2, .slice B2 m2 d2] 81 (0, 0)))
    clear HB3
    have HQ9 := Lib.hid (HQ4.out.below ((Below.refl _ (w.alloc (.cells #[.string i, .slice A n c, .slice B m d] 81 (0, 0)))).alloc (Nat.le_refl _) (.cells #[.string j, .slice A2 n2 c2, .slice B2 m2 d2] 81 (0, 0))))
    clear HQ4
    have HQ10 := Lib.hid (HQ5.out.below ((Below.refl _ (w.alloc (.cells #[.string i, .slice A n c, .slice B m d] 81 (0, 0)))).alloc (Nat.le_refl _) (.cells #[.string j, .slice A2 n2 c2, .slice B2 m2 d2] 81 (0, 0))))
    clear HQ5
    have hc11 : ((w.alloc (.cells #[.string i, .slice A n c, .slice B m d] 81 (0, 0))).alloc (.cells #[.string j, .slice A2 n2 c2, .slice B2 m2 d2] 81 (0, 0))).cell? ⟨w.heap.size, 0, none⟩ = some (.string i) := by rw [cell_of_row _ _ _ _ _ _ HF6.out]; rfl
    have hc12 : ((w.alloc (.cells #[.string i, .slice A n c, .slice B m d] 81 (0, 0))).alloc (.cells #[.string j, .slice A2 n2 c2, .slice B2 m2 d2] 81 (0, 0))).cell? ⟨w.heap.size, 1, none⟩ = some (.slice A n c) := by rw [cell_of_row _ _ _ _ _ _ HF6.out]; rfl
    have hc13 : ((w.alloc (.cells #[.string i, .slice A n c, .slice B m d] 81 (0, 0))).alloc (.cells #[.string j, .slice A2 n2 c2, .slice B2 m2 d2] 81 (0, 0))).cell? ⟨w.heap.size, 2, none⟩ = some (.slice B m d) := by rw [cell_of_row _ _ _ _ _ _ HF6.out]; rfl
    have hc14 : ((w.alloc (.cells #[.string i, .slice A n c, .slice B m d] 81 (0, 0))).alloc (.cells #[.string j, .slice A2 n2 c2, .slice B2 m2 d2] 81 (0, 0))).cell? ⟨w.heap.size + 1, 0, none⟩ = some (.string j) := by rw [cell_of_row _ _ _ _ _ _ HF7.out]; rfl
    have hc15 : ((w.alloc (.cells #[.string i, .slice A n c, .slice B m d] 81 (0, 0))).alloc (.cells #[.string j, .slice A2 n2 c2, .slice B2 m2 d2] 81 (0, 0))).cell? ⟨w.heap.size + 1, 1, none⟩ = some (.slice A2 n2 c2) := by rw [cell_of_row _ _ _ _ _ _ HF7.out]; rfl
    have hc16 : ((w.alloc (.cells #[.string i, .slice A n c, .slice B m d] 81 (0, 0))).alloc (.cells #[.string j, .slice A2 n2 c2, .slice B2 m2 d2] 81 (0, 0))).cell? ⟨w.heap.size + 1, 2, none⟩ = some (.slice B2 m2 d2) := by rw [cell_of_row _ _ _ _ _ _ HF7.out]; rfl
    go_wp2_with fail
    clear hc11 hc12 hc13 hc14 hc15 hc16
    refine (stexts_any A A2 n n2 c c2 ss tt ((w.alloc (.cells #[.string i, .slice A n c, .slice B m d] 81 (0, 0))).alloc (.cells #[.string j, .slice A2 n2 c2, .slice B2 m2 d2] 81 (0, 0))) HQ9.out.l HQ10.out.l hn).mono ?_
    rintro e w1 ⟨rfl, hb1⟩
    have HF17 := Lib.hid (blk_below HF6.out hb1)
    have HF18 := Lib.hid (blk_below HF7.out hb1)
    have HB19 := Lib.hid (HB8.out.trans (hb1.mono HB8.out.size))
    have HQ20 := Lib.hid (HQ9.out.below hb1)
    clear HQ9
    have HQ21 := Lib.hid (HQ10.out.below hb1)
    clear HQ10
    clear hb1 HB8 HF6 HF7
    cases qt : sameT ss tt with
    | false =>
      have HR := Lib.hid (show false = sameN i j ss tt ps qs by rw [← HV.out, qt]; rfl)
      go_wp2_with fail
      go_ret
      exact ⟨retBo HR.out, HB19.out⟩
    | true =>
      have HR := Lib.hid (show sameP ps qs = sameN i j ss tt ps qs by rw [← HV.out, qt]; rfl)
      have hc22 : w1.cell? ⟨w.heap.size, 0, none⟩ = some (.string i) := by rw [cell_of_row _ _ _ _ _ _ HF17.out]; rfl
      have hc23 : w1.cell? ⟨w.heap.size, 1, none⟩ = some (.slice A n c) := by rw [cell_of_row _ _ _ _ _ _ HF17.out]; rfl
      have hc24 : w1.cell? ⟨w.heap.size, 2, none⟩ = some (.slice B m d) := by rw [cell_of_row _ _ _ _ _ _ HF17.out]; rfl
      have hc25 : w1.cell? ⟨w.heap.size + 1, 0, none⟩ = some (.string j) := by rw [cell_of_row _ _ _ _ _ _ HF18.out]; rfl
      have hc26 : w1.cell? ⟨w.heap.size + 1, 1, none⟩ = some (.slice A2 n2 c2) := by rw [cell_of_row _ _ _ _ _ _ HF18.out]; rfl
      have hc27 : w1.cell? ⟨w.heap.size + 1, 2, none⟩ = some (.slice B2 m2 d2) := by rw [cell_of_row _ _ _ _ _ _ HF18.out]; rfl
      go_wp2_with fail
      clear hc22 hc23 hc24 hc25 hc26 hc27
      refine (sprops_any B B2 m m2 d d2 ps qs w1 HQ20.out.p HQ21.out.p hm).mono ?_
      rintro e w2 ⟨rfl, hb2⟩
      have HF28 := Lib.hid (blk_below HF17.out hb2)
      have HF29 := Lib.hid (blk_below HF18.out hb2)
      have HB30 := Lib.hid (HB19.out.trans (hb2.mono HB19.out.size))
      have HQ31 := Lib.hid (HQ20.out.below hb2)
      clear HQ20
      have HQ32 := Lib.hid (HQ21.out.below hb2)
      clear HQ21
      clear hb2 HB19 HF17 HF18
      generalize sameP ps qs = r at *
      go_wp2_with fail
      go_ret
      exact ⟨retBo HR.out, HB30.out⟩
set_option maxRecDepth 100000 in
set_option maxHeartbeats 4000000 in
theorem sedge_any (i f g j h k : ByteArray) (A A2 B B2 : Option Addr) (n n2 c c2 m m2 d d2 : Nat) (ss tt : List ByteArray) (ps qs : List Pr) (w : World) (hp1 : LP w A n ss B m ps) (hp2 : LP w A2 n2 tt B2 m2 qs) (hn : (n : Int) ≤ 9223372036854775807) (hm : (m : Int) ≤ 9223372036854775807) :
    Calls Try.prog 117 #[.agg #[.string i, .string f, .string g, .slice A n c, .slice B m d], .agg #[.string j, .string h, .string k, .slice A2 n2 c2, .slice B2 m2 d2]] w fun e w' => e = .returned (.bool (sameE i f g j h k ss tt ps qs)) ∧ Below w.heap.size w w' := by
  have H := Lib.hid hp1
  have H2 := Lib.hid hp2
  clear hp1 hp2
  cases qi : (i.toList == j.toList) with
  | false =>
    have HR := Lib.hid (show false = sameE i f g j h k ss tt ps qs by unfold sameE eqB; rw [qi]; simp)
    have HB1 := Lib.hid (Below.refl w.heap.size w)
    go_enter Try.func117, Try.ntmps117
    have HF2 := Lib.hid (blk_new w (.cells #[.string i, .string f, .string g, .slice A n c, .slice B m d] 85 (0, 0)))
    have HB3 := Lib.hid (HB1.out.alloc HB1.out.size (.cells #[.string i, .string f, .string g, .slice A n c, .slice B m d] 85 (0, 0)))
    clear HB1
    have HQ4 := Lib.hid (H.out.below ((Below.refl _ w).alloc (Nat.le_refl _) (.cells #[.string i, .string f, .string g, .slice A n c, .slice B m d] 85 (0, 0))))
    clear H
    have HQ5 := Lib.hid (H2.out.below ((Below.refl _ w).alloc (Nat.le_refl _) (.cells #[.string i, .string f, .string g, .slice A n c, .slice B m d] 85 (0, 0))))
    clear H2
    have HF6 := Lib.hid (blk_alloc HF2.out (.cells #[.string j, .string h, .string k, .slice A2 n2 c2, .slice B2 m2 d2] 85 (0, 0)))
    clear HF2
    have HF7 : Hid (((w.alloc (.cells #[.string i, .string f, .string g, .slice A n c, .slice B m d] 85 (0, 0))).alloc (.cells #[.string j, .string h, .string k, .slice A2 n2 c2, .slice B2 m2 d2] 85 (0, 0))).heap[w.heap.size + 1]? = some (.cells #[.string j, .string h, .string k, .slice A2 n2 c2, .slice B2 m2 d2] 85 (0, 0))) := Lib.hid (blk_newN (W := (w.alloc (.cells #[.string i, .string f, .string g, .slice A n c, .slice B m d] 85 (0, 0)))) (o := (.cells #[.string j, .string h, .string k, .slice A2 n2 c2, .slice B2 m2 d2] 85 (0, 0))) (by simp))
    have HB8 := Lib.hid (HB3.out.alloc (by have := HB3.out.size; simp at this ⊢ <;> omega) (.cells #[.string j, .string h, .string k, .slice A2 n2 c2, .slice B2 m2 d2] 85 (0, 0)))
    clear HB3
    have HQ9 := Lib.hid (HQ4.out.below ((Below.refl _ (w.alloc (.cells #[.string i, .string f, .string g, .slice A n c, .slice B m d] 85 (0, 0)))).alloc (Nat.le_refl _) (.cells #[.string j, .string h, .string k, .slice A2 n2 c2, .slice B2 m2 d2] 85 (0, 0))))
    clear HQ4
    have HQ10 := Lib.hid (HQ5.out.below ((Below.refl _ (w.alloc (.cells #[.string i, .string f, .string g, .slice A n c, .slice B m d] 85 (0, 0)))).alloc (Nat.le_refl _) (.cells #[.string j, .string h, .string k, .slice A2 n2 c2, .slice B2 m2 d2] 85 (0, 0))))
    clear HQ5
    have hc11 : ((w.alloc (.cells #[.string i, .string f, .string g, .slice A n c, .slice B m d] 85 (0, 0))).alloc (.cells #[.string j, .string h, .string k, .slice A2 n2 c2, .slice B2 m2 d2] 85 (0, 0))).cell? ⟨w.heap.size, 0, none⟩ = some (.string i) := by rw [cell_of_row _ _ _ _ _ _ HF6.out]; rfl
    have hc12 : ((w.alloc (.cells #[.string i, .string f, .string g, .slice A n c, .slice B m d] 85 (0, 0))).alloc (.cells #[.string j, .string h, .string k, .slice A2 n2 c2, .slice B2 m2 d2] 85 (0, 0))).cell? ⟨w.heap.size, 1, none⟩ = some (.string f) := by rw [cell_of_row _ _ _ _ _ _ HF6.out]; rfl
    have hc13 : ((w.alloc (.cells #[.string i, .string f, .string g, .slice A n c, .slice B m d] 85 (0, 0))).alloc (.cells #[.string j, .string h, .string k, .slice A2 n2 c2, .slice B2 m2 d2] 85 (0, 0))).cell? ⟨w.heap.size, 2, none⟩ = some (.string g) := by rw [cell_of_row _ _ _ _ _ _ HF6.out]; rfl
    have hc14 : ((w.alloc (.cells #[.string i, .string f, .string g, .slice A n c, .slice B m d] 85 (0, 0))).alloc (.cells #[.string j, .string h, .string k, .slice A2 n2 c2, .slice B2 m2 d2] 85 (0, 0))).cell? ⟨w.heap.size, 3, none⟩ = some (.slice A n c) := by rw [cell_of_row _ _ _ _ _ _ HF6.out]; rfl
    have hc15 : ((w.alloc (.cells #[.string i, .string f, .string g, .slice A n c, .slice B m d] 85 (0, 0))).alloc (.cells #[.string j, .string h, .string k, .slice A2 n2 c2, .slice B2 m2 d2] 85 (0, 0))).cell? ⟨w.heap.size, 4, none⟩ = some (.slice B m d) := by rw [cell_of_row _ _ _ _ _ _ HF6.out]; rfl
    have hc16 : ((w.alloc (.cells #[.string i, .string f, .string g, .slice A n c, .slice B m d] 85 (0, 0))).alloc (.cells #[.string j, .string h, .string k, .slice A2 n2 c2, .slice B2 m2 d2] 85 (0, 0))).cell? ⟨w.heap.size + 1, 0, none⟩ = some (.string j) := by rw [cell_of_row _ _ _ _ _ _ HF7.out]; rfl
    have hc17 : ((w.alloc (.cells #[.string i, .string f, .string g, .slice A n c, .slice B m d] 85 (0, 0))).alloc (.cells #[.string j, .string h, .string k, .slice A2 n2 c2, .slice B2 m2 d2] 85 (0, 0))).cell? ⟨w.heap.size + 1, 1, none⟩ = some (.string h) := by rw [cell_of_row _ _ _ _ _ _ HF7.out]; rfl
    have hc18 : ((w.alloc (.cells #[.string i, .string f, .string g, .slice A n c, .slice B m d] 85 (0, 0))).alloc (.cells #[.string j, .string h, .string k, .slice A2 n2 c2, .slice B2 m2 d2] 85 (0, 0))).cell? ⟨w.heap.size + 1, 2, none⟩ = some (.string k) := by rw [cell_of_row _ _ _ _ _ _ HF7.out]; rfl
    have hc19 : ((w.alloc (.cells #[.string i, .string f, .string g, .slice A n c, .slice B m d] 85 (0, 0))).alloc (.cells #[.string j, .string h, .string k, .slice A2 n2 c2, .slice B2 m2 d2] 85 (0, 0))).cell? ⟨w.heap.size + 1, 3, none⟩ = some (.slice A2 n2 c2) := by rw [cell_of_row _ _ _ _ _ _ HF7.out]; rfl
    have hc20 : ((w.alloc (.cells #[.string i, .string f, .string g, .slice A n c, .slice B m d] 85 (0, 0))).alloc (.cells #[.string j, .string h, .string k, .slice A2 n2 c2, .slice B2 m2 d2] 85 (0, 0))).cell? ⟨w.heap.size + 1, 4, none⟩ = some (.slice B2 m2 d2) := by rw [cell_of_row _ _ _ _ _ _ HF7.out]; rfl
    go_wp2_with fail
    clear hc11 hc12 hc13 hc14 hc15 hc16 hc17 hc18 hc19 hc20
    go_ret
    exact ⟨retBo HR.out, HB8.out⟩
  | true =>
    cases qf : (f.toList == h.toList) with
    | false =>
      have HR := Lib.hid (show false = sameE i f g j h k ss tt ps qs by unfold sameE eqB; rw [qi]; rw [qf]; simp)
      have HB1 := Lib.hid (Below.refl w.heap.size w)
      go_enter Try.func117, Try.ntmps117
      have HF2 := Lib.hid (blk_new w (.cells #[.string i, .string f, .string g, .slice A n c, .slice B m d] 85 (0, 0)))
      have HB3 := Lib.hid (HB1.out.alloc HB1.out.size (.cells #[.string i, .string f, .string g, .slice A n c, .slice B m d] 85 (0, 0)))
      clear HB1
      have HQ4 := Lib.hid (H.out.below ((Below.refl _ w).alloc (Nat.le_refl _) (.cells #[.string i, .string f, .string g, .slice A n c, .slice B m d] 85 (0, 0))))
      clear H
      have HQ5 := Lib.hid (H2.out.below ((Below.refl _ w).alloc (Nat.le_refl _) (.cells #[.string i, .string f, .string g, .slice A n c, .slice B m d] 85 (0, 0))))
      clear H2
      have HF6 := Lib.hid (blk_alloc HF2.out (.cells #[.string j, .string h, .string k, .slice A2 n2 c2, .slice B2 m2 d2] 85 (0, 0)))
      clear HF2
      have HF7 : Hid (((w.alloc (.cells #[.string i, .string f, .string g, .slice A n c, .slice B m d] 85 (0, 0))).alloc (.cells #[.string j, .string h, .string k, .slice A2 n2 c2, .slice B2 m2 d2] 85 (0, 0))).heap[w.heap.size + 1]? = some (.cells #[.string j, .string h, .string k, .slice A2 n2 c2, .slice B2 m2 d2] 85 (0, 0))) := Lib.hid (blk_newN (W := (w.alloc (.cells #[.string i, .string f, .string g, .slice A n c, .slice B m d] 85 (0, 0)))) (o := (.cells #[.string j, .string h, .string k, .slice A2 n2 c2, .slice B2 m2 d2] 85 (0, 0))) (by simp))
      have HB8 := Lib.hid (HB3.out.alloc (by have := HB3.out.size; simp at this ⊢ <;> omega) (.cells #[.string j, .string h, .string k, .slice A2 n2 c2, .slice B2 m2 d2] 85 (0, 0)))
      clear HB3
      have HQ9 := Lib.hid (HQ4.out.below ((Below.refl _ (w.alloc (.cells #[.string i, .string f, .string g, .slice A n c, .slice B m d] 85 (0, 0)))).alloc (Nat.le_refl _) (.cells #[.string j, .string h, .string k, .slice A2 n2 c2, .slice B2 m2 d2] 85 (0, 0))))
      clear HQ4
      have HQ10 := Lib.hid (HQ5.out.below ((Below.refl _ (w.alloc (.cells #[.string i, .string f, .string g, .slice A n c, .slice B m d] 85 (0, 0)))).alloc (Nat.le_refl _) (.cells #[.string j, .string h, .string k, .slice A2 n2 c2, .slice B2 m2 d2] 85 (0, 0))))
      clear HQ5
      have hc11 : ((w.alloc (.cells #[.string i, .string f, .string g, .slice A n c, .slice B m d] 85 (0, 0))).alloc (.cells #[.string j, .string h, .string k, .slice A2 n2 c2, .slice B2 m2 d2] 85 (0, 0))).cell? ⟨w.heap.size, 0, none⟩ = some (.string i) := by rw [cell_of_row _ _ _ _ _ _ HF6.out]; rfl
      have hc12 : ((w.alloc (.cells #[.string i, .string f, .string g, .slice A n c, .slice B m d] 85 (0, 0))).alloc (.cells #[.string j, .string h, .string k, .slice A2 n2 c2, .slice B2 m2 d2] 85 (0, 0))).cell? ⟨w.heap.size, 1, none⟩ = some (.string f) := by rw [cell_of_row _ _ _ _ _ _ HF6.out]; rfl
      have hc13 : ((w.alloc (.cells #[.string i, .string f, .string g, .slice A n c, .slice B m d] 85 (0, 0))).alloc (.cells #[.string j, .string h, .string k, .slice A2 n2 c2, .slice B2 m2 d2] 85 (0, 0))).cell? ⟨w.heap.size, 2, none⟩ = some (.string g) := by rw [cell_of_row _ _ _ _ _ _ HF6.out]; rfl
      have hc14 : ((w.alloc (.cells #[.string i, .string f, .string g, .slice A n c, .slice B m d] 85 (0, 0))).alloc (.cells #[.string j, .string h, .string k, .slice A2 n2 c2, .slice B2 m2 d2] 85 (0, 0))).cell? ⟨w.heap.size, 3, none⟩ = some (.slice A n c) := by rw [cell_of_row _ _ _ _ _ _ HF6.out]; rfl
      have hc15 : ((w.alloc (.cells #[.string i, .string f, .string g, .slice A n c, .slice B m d] 85 (0, 0))).alloc (.cells #[.string j, .string h, .string k, .slice A2 n2 c2, .slice B2 m2 d2] 85 (0, 0))).cell? ⟨w.heap.size, 4, none⟩ = some (.slice B m d) := by rw [cell_of_row _ _ _ _ _ _ HF6.out]; rfl
      have hc16 : ((w.alloc (.cells #[.string i, .string f, .string g, .slice A n c, .slice B m d] 85 (0, 0))).alloc (.cells #[.string j, .string h, .string k, .slice A2 n2 c2, .slice B2 m2 d2] 85 (0, 0))).cell? ⟨w.heap.size + 1, 0, none⟩ = some (.string j) := by rw [cell_of_row _ _ _ _ _ _ HF7.out]; rfl
      have hc17 : ((w.alloc (.cells #[.string i, .string f, .string g, .slice A n c, .slice B m d] 85 (0, 0))).alloc (.cells #[.string j, .string h, .string k, .slice A2 n2 c2, .slice B2 m2 d2] 85 (0, 0))).cell? ⟨w.heap.size + 1, 1, none⟩ = some (.string h) := by rw [cell_of_row _ _ _ _ _ _ HF7.out]; rfl
      have hc18 : ((w.alloc (.cells #[.string i, .string f, .string g, .slice A n c, .slice B m d] 85 (0, 0))).alloc (.cells #[.string j, .string h, .string k, .slice A2 n2 c2, .slice B2 m2 d2] 85 (0, 0))).cell? ⟨w.heap.size + 1, 2, none⟩ = some (.string k) := by rw [cell_of_row _ _ _ _ _ _ HF7.out]; rfl
      have hc19 : ((w.alloc (.cells #[.string i, .string f, .string g, .slice A n c, .slice B m d] 85 (0, 0))).alloc (.cells #[.string j, .string h, .string k, .slice A2 n2 c2, .slice B2 m2 d2] 85 (0, 0))).cell? ⟨w.heap.size + 1, 3, none⟩ = some (.slice A2 n2 c2) := by rw [cell_of_row _ _ _ _ _ _ HF7.out]; rfl
      have hc20 : ((w.alloc (.cells #[.string i, .string f, .string g, .slice A n c, .slice B m d] 85 (0, 0))).alloc (.cells #[.string j, .string h, .string k, .slice A2 n2 c2, .slice B2 m2 d2] 85 (0, 0))).cell? ⟨w.heap.size + 1, 4, none⟩ = some (.slice B2 m2 d2) := by rw [cell_of_row _ _ _ _ _ _ HF7.out]; rfl
      go_wp2_with fail
      clear hc11 hc12 hc13 hc14 hc15 hc16 hc17 hc18 hc19 hc20
      go_ret
      exact ⟨retBo HR.out, HB8.out⟩
    | true =>
      cases qg : (g.toList == k.toList) with
      | false =>
        have HR := Lib.hid (show false = sameE i f g j h k ss tt ps qs by unfold sameE eqB; rw [qi]; rw [qf]; rw [qg]; simp)
        have HB1 := Lib.hid (Below.refl w.heap.size w)
        go_enter Try.func117, Try.ntmps117
        have HF2 := Lib.hid (blk_new w (.cells #[.string i, .string f, .string g, .slice A n c, .slice B m d] 85 (0, 0)))
        have HB3 := Lib.hid (HB1.out.alloc HB1.out.size (.cells #[.string i, .string f, .string g, .slice A n c, .slice B m d] 85 (0, 0)))
        clear HB1
        have HQ4 := Lib.hid (H.out.below ((Below.refl _ w).alloc (Nat.le_refl _) (.cells #[.string i, .string f, .string g, .slice A n c, .slice B m d] 85 (0, 0))))
        clear H
        have HQ5 := Lib.hid (H2.out.below ((Below.refl _ w).alloc (Nat.le_refl _) (.cells #[.string i, .string f, .string g, .slice A n c, .slice B m d] 85 (0, 0))))
        clear H2
        have HF6 := Lib.hid (blk_alloc HF2.out (.cells #[.string j, .string h, .string k, .slice A2 n2 c2, .slice B2 m2 d2] 85 (0, 0)))
        clear HF2
        have HF7 : Hid (((w.alloc (.cells #[.string i, .string f, .string g, .slice A n c, .slice B m d] 85 (0, 0))).alloc (.cells #[.string j, .string h, .string k, .slice A2 n2 c2, .slice B2 m2 d2] 85 (0, 0))).heap[w.heap.size + 1]? = some (.cells #[.string j, .string h, .string k, .slice A2 n2 c2, .slice B2 m2 d2] 85 (0, 0))) := Lib.hid (blk_newN (W := (w.alloc (.cells #[.string i, .string f, .string g, .slice A n c, .slice B m d] 85 (0, 0)))) (o := (.cells #[.string j, .string h, .string k, .slice A2 n2 c2, .slice B2 m2 d2] 85 (0, 0))) (by simp))
        have HB8 := Lib.hid (HB3.out.alloc (by have := HB3.out.size; simp at this ⊢ <;> omega) (.cells #[.string j, .string h, .string k, .slice A2 n2 c2, .slice B2 m2 d2] 85 (0, 0)))
        clear HB3
        have HQ9 := Lib.hid (HQ4.out.below ((Below.refl _ (w.alloc (.cells #[.string i, .string f, .string g, .slice A n c, .slice B m d] 85 (0, 0)))).alloc (Nat.le_refl _) (.cells #[.string j, .string h, .string k, .slice A2 n2 c2, .slice B2 m2 d2] 85 (0, 0))))
        clear HQ4
        have HQ10 := Lib.hid (HQ5.out.below ((Below.refl _ (w.alloc (.cells #[.string i, .string f, .string g, .slice A n c, .slice B m d] 85 (0, 0)))).alloc (Nat.le_refl _) (.cells #[.string j, .string h, .string k, .slice A2 n2 c2, .slice B2 m2 d2] 85 (0, 0))))
        clear HQ5
        have hc11 : ((w.alloc (.cells #[.string i, .string f, .string g, .slice A n c, .slice B m d] 85 (0, 0))).alloc (.cells #[.string j, .string h, .string k, .slice A2 n2 c2, .slice B2 m2 d2] 85 (0, 0))).cell? ⟨w.heap.size, 0, none⟩ = some (.string i) := by rw [cell_of_row _ _ _ _ _ _ HF6.out]; rfl
        have hc12 : ((w.alloc (.cells #[.string i, .string f, .string g, .slice A n c, .slice B m d] 85 (0, 0))).alloc (.cells #[.string j, .string h, .string k, .slice A2 n2 c2, .slice B2 m2 d2] 85 (0, 0))).cell? ⟨w.heap.size, 1, none⟩ = some (.string f) := by rw [cell_of_row _ _ _ _ _ _ HF6.out]; rfl
        have hc13 : ((w.alloc (.cells #[.string i, .string f, .string g, .slice A n c, .slice B m d] 85 (0, 0))).alloc (.cells #[.string j, .string h, .string k, .slice A2 n2 c2, .slice B2 m2 d2] 85 (0, 0))).cell? ⟨w.heap.size, 2, none⟩ = some (.string g) := by rw [cell_of_row _ _ _ _ _ _ HF6.out]; rfl
        have hc14 : ((w.alloc (.cells #[.string i, .string f, .string g, .slice A n c, .slice B m d] 85 (0, 0))).alloc (.cells #[.string j, .string h, .string k, .slice A2 n2 c2, .slice B2 m2 d2] 85 (0, 0))).cell? ⟨w.heap.size, 3, none⟩ = some (.slice A n c) := by rw [cell_of_row _ _ _ _ _ _ HF6.out]; rfl
        have hc15 : ((w.alloc (.cells #[.string i, .string f, .string g, .slice A n c, .slice B m d] 85 (0, 0))).alloc (.cells #[.string j, .string h, .string k, .slice A2 n2 c2, .slice B2 m2 d2] 85 (0, 0))).cell? ⟨w.heap.size, 4, none⟩ = some (.slice B m d) := by rw [cell_of_row _ _ _ _ _ _ HF6.out]; rfl
        have hc16 : ((w.alloc (.cells #[.string i, .string f, .string g, .slice A n c, .slice B m d] 85 (0, 0))).alloc (.cells #[.string j, .string h, .string k, .slice A2 n2 c2, .slice B2 m2 d2] 85 (0, 0))).cell? ⟨w.heap.size + 1, 0, none⟩ = some (.string j) := by rw [cell_of_row _ _ _ _ _ _ HF7.out]; rfl
        have hc17 : ((w.alloc (.cells #[.string i, .string f, .string g, .slice A n c, .slice B m d] 85 (0, 0))).alloc (.cells #[.string j, .string h, .string k, .slice A2 n2 c2, .slice B2 m2 d2] 85 (0, 0))).cell? ⟨w.heap.size + 1, 1, none⟩ = some (.string h) := by rw [cell_of_row _ _ _ _ _ _ HF7.out]; rfl
        have hc18 : ((w.alloc (.cells #[.string i, .string f, .string g, .slice A n c, .slice B m d] 85 (0, 0))).alloc (.cells #[.string j, .string h, .string k, .slice A2 n2 c2, .slice B2 m2 d2] 85 (0, 0))).cell? ⟨w.heap.size + 1, 2, none⟩ = some (.string k) := by rw [cell_of_row _ _ _ _ _ _ HF7.out]; rfl
        have hc19 : ((w.alloc (.cells #[.string i, .string f, .string g, .slice A n c, .slice B m d] 85 (0, 0))).alloc (.cells #[.string j, .string h, .string k, .slice A2 n2 c2, .slice B2 m2 d2] 85 (0, 0))).cell? ⟨w.heap.size + 1, 3, none⟩ = some (.slice A2 n2 c2) := by rw [cell_of_row _ _ _ _ _ _ HF7.out]; rfl
        have hc20 : ((w.alloc (.cells #[.string i, .string f, .string g, .slice A n c, .slice B m d] 85 (0, 0))).alloc (.cells #[.string j, .string h, .string k, .slice A2 n2 c2, .slice B2 m2 d2] 85 (0, 0))).cell? ⟨w.heap.size + 1, 4, none⟩ = some (.slice B2 m2 d2) := by rw [cell_of_row _ _ _ _ _ _ HF7.out]; rfl
        go_wp2_with fail
        clear hc11 hc12 hc13 hc14 hc15 hc16 hc17 hc18 hc19 hc20
        go_ret
        exact ⟨retBo HR.out, HB8.out⟩
      | true =>
        have HV := Lib.hid (show (sameT ss tt && sameP ps qs) = sameE i f g j h k ss tt ps qs by unfold sameE eqB; rw [qi]; rw [qf]; rw [qg]; simp)
        have HB1 := Lib.hid (Below.refl w.heap.size w)
        go_enter Try.func117, Try.ntmps117
        have HF2 := Lib.hid (blk_new w (.cells #[.string i, .string f, .string g, .slice A n c, .slice B m d] 85 (0, 0)))
        have HB3 := Lib.hid (HB1.out.alloc HB1.out.size (.cells #[.string i, .string f, .string g, .slice A n c, .slice B m d] 85 (0, 0)))
        clear HB1
        have HQ4 := Lib.hid (H.out.below ((Below.refl _ w).alloc (Nat.le_refl _) (.cells #[.string i, .string f, .string g, .slice A n c, .slice B m d] 85 (0, 0))))
        clear H
        have HQ5 := Lib.hid (H2.out.below ((Below.refl _ w).alloc (Nat.le_refl _) (.cells #[.string i, .string f, .string g, .slice A n c, .slice B m d] 85 (0, 0))))
        clear H2
        have HF6 := Lib.hid (blk_alloc HF2.out (.cells #[.string j, .string h, .string k, .slice A2 n2 c2, .slice B2 m2 d2] 85 (0, 0)))
        clear HF2
        have HF7 : Hid (((w.alloc (.cells #[.string i, .string f, .string g, .slice A n c, .slice B m d] 85 (0, 0))).alloc (.cells #[.string j, .string h, .string k, .slice A2 n2 c2, .slice B2 m2 d2] 85 (0, 0))).heap[w.heap.size + 1]? = some (.cells #[.string j, .string h, .string k, .slice A2 n2 c2, .slice B2 m2 d2] 85 (0, 0))) := Lib.hid (blk_newN (W := (w.alloc (.cells #[.string i, .string f, .string g, .slice A n c, .slice B m d] 85 (0, 0)))) (o := (.cells #[.string j, .string h, .string k, .slice A2 n2 c2, .slice B2 m2 d2] 85 (0, 0))) (by simp))
        have HB8 := Lib.hid (HB3.out.alloc (by have := HB3.out.size; simp at this ⊢ <;> omega) (.cells #[.string j, .string h, .string k, .slice A2 n2 c2, .slice B2 m2 d2] 85 (0, 0)))
        clear HB3
        have HQ9 := Lib.hid (HQ4.out.below ((Below.refl _ (w.alloc (.cells #[.string i, .string f, .string g, .slice A n c, .slice B m d] 85 (0, 0)))).alloc (Nat.le_refl _) (.cells #[.string j, .string h, .string k, .slice A2 n2 c2, .slice B2 m2 d2] 85 (0, 0))))
        clear HQ4
        have HQ10 := Lib.hid (HQ5.out.below ((Below.refl _ (w.alloc (.cells #[.string i, .string f, .string g, .slice A n c, .slice B m d] 85 (0, 0)))).alloc (Nat.le_refl _) (.cells #[.string j, .string h, .string k, .slice A2 n2 c2, .slice B2 m2 d2] 85 (0, 0))))
        clear HQ5
        have hc11 : ((w.alloc (.cells #[.string i, .string f, .string g, .slice A n c, .slice B m d] 85 (0, 0))).alloc (.cells #[.string j, .string h, .string k, .slice A2 n2 c2, .slice B2 m2 d2] 85 (0, 0))).cell? ⟨w.heap.size, 0, none⟩ = some (.string i) := by rw [cell_of_row _ _ _ _ _ _ HF6.out]; rfl
        have hc12 : ((w.alloc (.cells #[.string i, .string f, .string g, .slice A n c, .slice B m d] 85 (0, 0))).alloc (.cells #[.string j, .string h, .string k, .slice A2 n2 c2, .slice B2 m2 d2] 85 (0, 0))).cell? ⟨w.heap.size, 1, none⟩ = some (.string f) := by rw [cell_of_row _ _ _ _ _ _ HF6.out]; rfl
        have hc13 : ((w.alloc (.cells #[.string i, .string f, .string g, .slice A n c, .slice B m d] 85 (0, 0))).alloc (.cells #[.string j, .string h, .string k, .slice A2 n2 c2, .slice B2 m2 d2] 85 (0, 0))).cell? ⟨w.heap.size, 2, none⟩ = some (.string g) := by rw [cell_of_row _ _ _ _ _ _ HF6.out]; rfl
        have hc14 : ((w.alloc (.cells #[.string i, .string f, .string g, .slice A n c, .slice B m d] 85 (0, 0))).alloc (.cells #[.string j, .string h, .string k, .slice A2 n2 c2, .slice B2 m2 d2] 85 (0, 0))).cell? ⟨w.heap.size, 3, none⟩ = some (.slice A n c) := by rw [cell_of_row _ _ _ _ _ _ HF6.out]; rfl
        have hc15 : ((w.alloc (.cells #[.string i, .string f, .string g, .slice A n c, .slice B m d] 85 (0, 0))).alloc (.cells #[.string j, .string h, .string k, .slice A2 n2 c2, .slice B2 m2 d2] 85 (0, 0))).cell? ⟨w.heap.size, 4, none⟩ = some (.slice B m d) := by rw [cell_of_row _ _ _ _ _ _ HF6.out]; rfl
        have hc16 : ((w.alloc (.cells #[.string i, .string f, .string g, .slice A n c, .slice B m d] 85 (0, 0))).alloc (.cells #[.string j, .string h, .string k, .slice A2 n2 c2, .slice B2 m2 d2] 85 (0, 0))).cell? ⟨w.heap.size + 1, 0, none⟩ = some (.string j) := by rw [cell_of_row _ _ _ _ _ _ HF7.out]; rfl
        have hc17 : ((w.alloc (.cells #[.string i, .string f, .string g, .slice A n c, .slice B m d] 85 (0, 0))).alloc (.cells #[.string j, .string h, .string k, .slice A2 n2 c2, .slice B2 m2 d2] 85 (0, 0))).cell? ⟨w.heap.size + 1, 1, none⟩ = some (.string h) := by rw [cell_of_row _ _ _ _ _ _ HF7.out]; rfl
        have hc18 : ((w.alloc (.cells #[.string i, .string f, .string g, .slice A n c, .slice B m d] 85 (0, 0))).alloc (.cells #[.string j, .string h, .string k, .slice A2 n2 c2, .slice B2 m2 d2] 85 (0, 0))).cell? ⟨w.heap.size + 1, 2, none⟩ = some (.string k) := by rw [cell_of_row _ _ _ _ _ _ HF7.out]; rfl
        have hc19 : ((w.alloc (.cells #[.string i, .string f, .string g, .slice A n c, .slice B m d] 85 (0, 0))).alloc (.cells #[.string j, .string h, .string k, .slice A2 n2 c2, .slice B2 m2 d2] 85 (0, 0))).cell? ⟨w.heap.size + 1, 3, none⟩ = some (.slice A2 n2 c2) := by rw [cell_of_row _ _ _ _ _ _ HF7.out]; rfl
        have hc20 : ((w.alloc (.cells #[.string i, .string f, .string g, .slice A n c, .slice B m d] 85 (0, 0))).alloc (.cells #[.string j, .string h, .string k, .slice A2 n2 c2, .slice B2 m2 d2] 85 (0, 0))).cell? ⟨w.heap.size + 1, 4, none⟩ = some (.slice B2 m2 d2) := by rw [cell_of_row _ _ _ _ _ _ HF7.out]; rfl
        go_wp2_with fail
        clear hc11 hc12 hc13 hc14 hc15 hc16 hc17 hc18 hc19 hc20
        refine (stexts_any A A2 n n2 c c2 ss tt ((w.alloc (.cells #[.string i, .string f, .string g, .slice A n c, .slice B m d] 85 (0, 0))).alloc (.cells #[.string j, .string h, .string k, .slice A2 n2 c2, .slice B2 m2 d2] 85 (0, 0))) HQ9.out.l HQ10.out.l hn).mono ?_
        rintro e w1 ⟨rfl, hb1⟩
        have HF21 := Lib.hid (blk_below HF6.out hb1)
        have HF22 := Lib.hid (blk_below HF7.out hb1)
        have HB23 := Lib.hid (HB8.out.trans (hb1.mono HB8.out.size))
        have HQ24 := Lib.hid (HQ9.out.below hb1)
        clear HQ9
        have HQ25 := Lib.hid (HQ10.out.below hb1)
        clear HQ10
        clear hb1 HB8 HF6 HF7
        cases qt : sameT ss tt with
        | false =>
          have HR := Lib.hid (show false = sameE i f g j h k ss tt ps qs by rw [← HV.out, qt]; rfl)
          go_wp2_with fail
          go_ret
          exact ⟨retBo HR.out, HB23.out⟩
        | true =>
          have HR := Lib.hid (show sameP ps qs = sameE i f g j h k ss tt ps qs by rw [← HV.out, qt]; rfl)
          have hc26 : w1.cell? ⟨w.heap.size, 0, none⟩ = some (.string i) := by rw [cell_of_row _ _ _ _ _ _ HF21.out]; rfl
          have hc27 : w1.cell? ⟨w.heap.size, 1, none⟩ = some (.string f) := by rw [cell_of_row _ _ _ _ _ _ HF21.out]; rfl
          have hc28 : w1.cell? ⟨w.heap.size, 2, none⟩ = some (.string g) := by rw [cell_of_row _ _ _ _ _ _ HF21.out]; rfl
          have hc29 : w1.cell? ⟨w.heap.size, 3, none⟩ = some (.slice A n c) := by rw [cell_of_row _ _ _ _ _ _ HF21.out]; rfl
          have hc30 : w1.cell? ⟨w.heap.size, 4, none⟩ = some (.slice B m d) := by rw [cell_of_row _ _ _ _ _ _ HF21.out]; rfl
          have hc31 : w1.cell? ⟨w.heap.size + 1, 0, none⟩ = some (.string j) := by rw [cell_of_row _ _ _ _ _ _ HF22.out]; rfl
          have hc32 : w1.cell? ⟨w.heap.size + 1, 1, none⟩ = some (.string h) := by rw [cell_of_row _ _ _ _ _ _ HF22.out]; rfl
          have hc33 : w1.cell? ⟨w.heap.size + 1, 2, none⟩ = some (.string k) := by rw [cell_of_row _ _ _ _ _ _ HF22.out]; rfl
          have hc34 : w1.cell? ⟨w.heap.size + 1, 3, none⟩ = some (.slice A2 n2 c2) := by rw [cell_of_row _ _ _ _ _ _ HF22.out]; rfl
          have hc35 : w1.cell? ⟨w.heap.size + 1, 4, none⟩ = some (.slice B2 m2 d2) := by rw [cell_of_row _ _ _ _ _ _ HF22.out]; rfl
          go_wp2_with fail
          clear hc26 hc27 hc28 hc29 hc30 hc31 hc32 hc33 hc34 hc35
          refine (sprops_any B B2 m m2 d d2 ps qs w1 HQ24.out.p HQ25.out.p hm).mono ?_
          rintro e w2 ⟨rfl, hb2⟩
          have HF36 := Lib.hid (blk_below HF21.out hb2)
          have HF37 := Lib.hid (blk_below HF22.out hb2)
          have HB38 := Lib.hid (HB23.out.trans (hb2.mono HB23.out.size))
          have HQ39 := Lib.hid (HQ24.out.below hb2)
          clear HQ24
          have HQ40 := Lib.hid (HQ25.out.below hb2)
          clear HQ25
          clear hb2 HB23 HF21 HF22
          generalize sameP ps qs = r at *
          go_wp2_with fail
          go_ret
          exact ⟨retBo HR.out, HB38.out⟩
end Go.Proofs.Ytbjngbacnkmjhaa
namespace Go.Proofs.Ytbjngbacnkmjhaa
open Go.RowKit Vi

def sameNs : List Nd → List Nd → Bool
  | [], [] => true
  | x :: r, y :: t => sameN x.1 y.1 x.2.1 y.2.1 x.2.2 y.2.2 && sameNs r t
  | _, _ => false
def sameEs : List Ed → List Ed → Bool
  | [], [] => true
  | x :: r, y :: t => sameE x.1 x.2.1 x.2.2.1 y.1 y.2.1 y.2.2.1 x.2.2.2.1 y.2.2.2.1 x.2.2.2.2 y.2.2.2.2 && sameEs r t
  | _, _ => false
def sameG (X : List Nd) (Y : List Ed) (X' : List Nd) (Y' : List Ed) : Bool := decide (X.length = X'.length) && (decide (Y.length = Y'.length) && (sameNs X X' && sameEs Y Y'))
theorem drop_at2 {α : Type} {X : List α} {k : Nat} {x : α} (h : X[k]? = some x) : X.drop k = x :: X.drop (k + 1) := by
  obtain ⟨hl, rfl⟩ := List.getElem?_eq_some_iff.1 h
  exact List.drop_eq_getElem_cons hl
set_option maxRecDepth 100000 in
set_option maxHeartbeats 8000000 in
theorem same26_any (A A2 B B2 : Option Addr) (n c n2 c2 m m2 d d2 : Nat) (X X' : List Nd) (Y Y' : List Ed) (w : World) (h : GrIs w A n A2 n2 X Y) (h2 : GrIs w B m B2 m2 X' Y') (hn : n ≤ 1000000) (hn2 : n2 ≤ 1000000) (hx : ndSm X) (hy : edSm Y) :
    Calls Try.prog 40 #[.agg #[.slice A n c, .slice A2 n2 c2], .agg #[.slice B m d, .slice B2 m2 d2]] w fun e w' => e = .returned (.bool (sameG X Y X' Y')) ∧ Below w.heap.size w w' := by
  have H := Lib.hid h
  have H2 := Lib.hid h2
  have HX := Lib.hid hx
  have HY := Lib.hid hy
  have HL := Lib.hid h.nl
  have HL2 := Lib.hid h2.nl
  clear h h2 hx hy
  by_cases e1 : n = m
  rotate_left
  · have HR := Lib.hid (show false = sameG X Y X' Y' by unfold sameG; rw [decide_eq_false (show ¬ X.length = X'.length by have := HL.out; have := HL2.out; omega)]; rfl)
    have q1 : ((n : Int) != (m : Int)) = true := by simp; omega
    clear e1
    have HB1 := Lib.hid (Below.refl w.heap.size w)
    go_enter Try.func40, Try.ntmps40
    have HF2 := Lib.hid (blk_new w (.cells #[.slice A n c, .slice A2 n2 c2] 65 (0, 0)))
    have HB3 := Lib.hid (HB1.out.alloc HB1.out.size (.cells #[.slice A n c, .slice A2 n2 c2] 65 (0, 0)))
    clear HB1
    have HF4 := Lib.hid (blk_alloc HF2.out (.cells #[.slice B m d, .slice B2 m2 d2] 65 (0, 0)))
    clear HF2
    have HF5 : Hid (((w.alloc (.cells #[.slice A n c, .slice A2 n2 c2] 65 (0, 0))).alloc (.cells #[.slice B m d, .slice B2 m2 d2] 65 (0, 0))).heap[w.heap.size + 1]? = some (.cells #[.slice B m d, .slice B2 m2 d2] 65 (0, 0))) := Lib.hid (blk_newN (W := (w.alloc (.cells #[.slice A n c, .slice A2 n2 c2] 65 (0, 0)))) (o := (.cells #[.slice B m d, .slice B2 m2 d2] 65 (0, 0))) (by simp))
    have HB6 := Lib.hid (HB3.out.alloc (by have := HB3.out.size; simp at this ⊢ <;> omega) (.cells #[.slice B m d, .slice B2 m2 d2] 65 (0, 0)))
    clear HB3
    have hc7 : ((w.alloc (.cells #[.slice A n c, .slice A2 n2 c2] 65 (0, 0))).alloc (.cells #[.slice B m d, .slice B2 m2 d2] 65 (0, 0))).cell? ⟨w.heap.size, 0, none⟩ = some (.slice A n c) := by rw [cell_of_row _ _ _ _ _ _ HF4.out]; rfl
    have hc8 : ((w.alloc (.cells #[.slice A n c, .slice A2 n2 c2] 65 (0, 0))).alloc (.cells #[.slice B m d, .slice B2 m2 d2] 65 (0, 0))).cell? ⟨w.heap.size, 1, none⟩ = some (.slice A2 n2 c2) := by rw [cell_of_row _ _ _ _ _ _ HF4.out]; rfl
    have hc9 : ((w.alloc (.cells #[.slice A n c, .slice A2 n2 c2] 65 (0, 0))).alloc (.cells #[.slice B m d, .slice B2 m2 d2] 65 (0, 0))).cell? ⟨w.heap.size + 1, 0, none⟩ = some (.slice B m d) := by rw [cell_of_row _ _ _ _ _ _ HF5.out]; rfl
    have hc10 : ((w.alloc (.cells #[.slice A n c, .slice A2 n2 c2] 65 (0, 0))).alloc (.cells #[.slice B m d, .slice B2 m2 d2] 65 (0, 0))).cell? ⟨w.heap.size + 1, 1, none⟩ = some (.slice B2 m2 d2) := by rw [cell_of_row _ _ _ _ _ _ HF5.out]; rfl
    go_wp2_with fail
    clear hc7 hc8 hc9 hc10
    go_ret
    exact ⟨retBo HR.out, HB6.out⟩
  by_cases e2 : n2 = m2
  rotate_left
  · have HR := Lib.hid (show false = sameG X Y X' Y' by unfold sameG; rw [decide_eq_false (show ¬ Y.length = Y'.length by have := HL.out; have := HL2.out; omega)]; simp)
    have q1 : ((n2 : Int) != (m2 : Int)) = true := by simp; omega
    subst e1
    clear e2
    have HB1 := Lib.hid (Below.refl w.heap.size w)
    go_enter Try.func40, Try.ntmps40
    have HF2 := Lib.hid (blk_new w (.cells #[.slice A n c, .slice A2 n2 c2] 65 (0, 0)))
    have HB3 := Lib.hid (HB1.out.alloc HB1.out.size (.cells #[.slice A n c, .slice A2 n2 c2] 65 (0, 0)))
    clear HB1
    have HF4 := Lib.hid (blk_alloc HF2.out (.cells #[.slice B n d, .slice B2 m2 d2] 65 (0, 0)))
    clear HF2
    have HF5 : Hid (((w.alloc (.cells #[.slice A n c, .slice A2 n2 c2] 65 (0, 0))).alloc (.cells #[.slice B n d, .slice B2 m2 d2] 65 (0, 0))).heap[w.heap.size + 1]? = some (.cells #[.slice B n d, .slice B2 m2 d2] 65 (0, 0))) := Lib.hid (blk_newN (W := (w.alloc (.cells #[.slice A n c, .slice A2 n2 c2] 65 (0, 0)))) (o := (.cells #[.slice B n d, .slice B2 m2 d2] 65 (0, 0))) (by simp))
    have HB6 := Lib.hid (HB3.out.alloc (by have := HB3.out.size; simp at this ⊢ <;> omega) (.cells #[.slice B n d, .slice B2 m2 d2] 65 (0, 0)))
    clear HB3
    have hc7 : ((w.alloc (.cells #[.slice A n c, .slice A2 n2 c2] 65 (0, 0))).alloc (.cells #[.slice B n d, .slice B2 m2 d2] 65 (0, 0))).cell? ⟨w.heap.size, 0, none⟩ = some (.slice A n c) := by rw [cell_of_row _ _ _ _ _ _ HF4.out]; rfl
    have hc8 : ((w.alloc (.cells #[.slice A n c, .slice A2 n2 c2] 65 (0, 0))).alloc (.cells #[.slice B n d, .slice B2 m2 d2] 65 (0, 0))).cell? ⟨w.heap.size, 1, none⟩ = some (.slice A2 n2 c2) := by rw [cell_of_row _ _ _ _ _ _ HF4.out]; rfl
    have hc9 : ((w.alloc (.cells #[.slice A n c, .slice A2 n2 c2] 65 (0, 0))).alloc (.cells #[.slice B n d, .slice B2 m2 d2] 65 (0, 0))).cell? ⟨w.heap.size + 1, 0, none⟩ = some (.slice B n d) := by rw [cell_of_row _ _ _ _ _ _ HF5.out]; rfl
    have hc10 : ((w.alloc (.cells #[.slice A n c, .slice A2 n2 c2] 65 (0, 0))).alloc (.cells #[.slice B n d, .slice B2 m2 d2] 65 (0, 0))).cell? ⟨w.heap.size + 1, 1, none⟩ = some (.slice B2 m2 d2) := by rw [cell_of_row _ _ _ _ _ _ HF5.out]; rfl
    go_wp2_with fail
    clear hc7 hc8 hc9 hc10
    go_ret
    exact ⟨retBo HR.out, HB6.out⟩
  subst e1 e2
  have HV := Lib.hid (show (sameNs X X' && sameEs Y Y') = sameG X Y X' Y' by unfold sameG; rw [decide_eq_true (show X.length = X'.length by have := HL.out; have := HL2.out; omega), decide_eq_true (show Y.length = Y'.length by have := HL.out; have := HL2.out; omega)]; simp)
  have HB1 := Lib.hid (Below.refl w.heap.size w)
  go_enter Try.func40, Try.ntmps40
  have HF2 := Lib.hid (blk_new w (.cells #[.slice A n c, .slice A2 n2 c2] 65 (0, 0)))
  have HB3 := Lib.hid (HB1.out.alloc HB1.out.size (.cells #[.slice A n c, .slice A2 n2 c2] 65 (0, 0)))
  clear HB1
  have HF4 := Lib.hid (blk_alloc HF2.out (.cells #[.slice B n d, .slice B2 n2 d2] 65 (0, 0)))
  clear HF2
  have HF5 : Hid (((w.alloc (.cells #[.slice A n c, .slice A2 n2 c2] 65 (0, 0))).alloc (.cells #[.slice B n d, .slice B2 n2 d2] 65 (0, 0))).heap[w.heap.size + 1]? = some (.cells #[.slice B n d, .slice B2 n2 d2] 65 (0, 0))) := Lib.hid (blk_newN (W := (w.alloc (.cells #[.slice A n c, .slice A2 n2 c2] 65 (0, 0)))) (o := (.cells #[.slice B n d, .slice B2 n2 d2] 65 (0, 0))) (by simp))
  have HB6 := Lib.hid (HB3.out.alloc (by have := HB3.out.size; simp at this ⊢ <;> omega) (.cells #[.slice B n d, .slice B2 n2 d2] 65 (0, 0)))
  clear HB3
  have hc7 : ((w.alloc (.cells #[.slice A n c, .slice A2 n2 c2] 65 (0, 0))).alloc (.cells #[.slice B n d, .slice B2 n2 d2] 65 (0, 0))).cell? ⟨w.heap.size, 0, none⟩ = some (.slice A n c) := by rw [cell_of_row _ _ _ _ _ _ HF4.out]; rfl
  have hc8 : ((w.alloc (.cells #[.slice A n c, .slice A2 n2 c2] 65 (0, 0))).alloc (.cells #[.slice B n d, .slice B2 n2 d2] 65 (0, 0))).cell? ⟨w.heap.size, 1, none⟩ = some (.slice A2 n2 c2) := by rw [cell_of_row _ _ _ _ _ _ HF4.out]; rfl
  have hc9 : ((w.alloc (.cells #[.slice A n c, .slice A2 n2 c2] 65 (0, 0))).alloc (.cells #[.slice B n d, .slice B2 n2 d2] 65 (0, 0))).cell? ⟨w.heap.size + 1, 0, none⟩ = some (.slice B n d) := by rw [cell_of_row _ _ _ _ _ _ HF5.out]; rfl
  have hc10 : ((w.alloc (.cells #[.slice A n c, .slice A2 n2 c2] 65 (0, 0))).alloc (.cells #[.slice B n d, .slice B2 n2 d2] 65 (0, 0))).cell? ⟨w.heap.size + 1, 1, none⟩ = some (.slice B2 n2 d2) := by rw [cell_of_row _ _ _ _ _ _ HF5.out]; rfl
  go_wp2_with fail
  clear hc7 hc8 hc9 hc10
  go_loopw [5] (fun i wr => ∃ k : Nat, i = .int .i64 (k : Int) ∧ k ≤ n ∧ Hid (sameNs (X.drop k) (X'.drop k) = sameNs X X') ∧ Below w.heap.size w wr ∧ wr.heap[w.heap.size]? = some (.cells #[.slice A n c, .slice A2 n2 c2] 65 (0, 0)) ∧ wr.heap[w.heap.size + 1]? = some (.cells #[.slice B n d, .slice B2 n2 d2] 65 (0, 0))) (fun i _ => n - (intOf i).toNat)
  case atStart => exact ⟨0, rfl, Nat.zero_le _, Lib.hid rfl, HB6.out, HF4.out, HF5.out⟩
  case round =>
    obtain ⟨k, rfl, hk, HI, hb, ha1, hb1⟩ := hrel
    have HB := Lib.hid hb
    have HA1 := Lib.hid ha1
    have HB1 := Lib.hid hb1
    clear hb ha1 hb1
    have ca0 : wr.cell? ⟨w.heap.size, 0, none⟩ = some (.slice A n c) := by rw [cell_of_row _ _ _ _ _ _ HA1.out]; rfl
    have ca1 : wr.cell? ⟨w.heap.size, 1, none⟩ = some (.slice A2 n2 c2) := by rw [cell_of_row _ _ _ _ _ _ HA1.out]; rfl
    have cb0 : wr.cell? ⟨w.heap.size + 1, 0, none⟩ = some (.slice B n d) := by rw [cell_of_row _ _ _ _ _ _ HB1.out]; rfl
    have cb1 : wr.cell? ⟨w.heap.size + 1, 1, none⟩ = some (.slice B2 n2 d2) := by rw [cell_of_row _ _ _ _ _ _ HB1.out]; rfl
    by_cases hlt : k < n
    · have hd1 : decide ((k : Int) < (n : Int)) = true := decide_eq_true (by omega)
      have hi0 : (0 : Int) ≤ (k : Int) := by omega
      have hkl : k < X.length := by have := HL.out.1; omega
      have hkl2 : k < X'.length := by have := HL2.out.1; omega
      obtain ⟨x, hxx⟩ : ∃ x, x = X[k] := ⟨_, rfl⟩
      have HK := Lib.hid (show X[k]? = some x by rw [List.getElem?_eq_getElem hkl, hxx])
      have hsm := HX.out x (by rw [hxx]; exact List.getElem_mem hkl)
      clear hxx
      obtain ⟨y, hyy⟩ : ∃ y, y = X'[k] := ⟨_, rfl⟩
      have HK2 := Lib.hid (show X'[k]? = some y by rw [List.getElem?_eq_getElem hkl2, hyy])
      clear hyy
      have HST := Lib.hid (show sameNs (X.drop k) (X'.drop k) = (sameN x.1 y.1 x.2.1 y.2.1 x.2.2 y.2.2 && sameNs (X.drop (k + 1)) (X'.drop (k + 1))) by rw [drop_at2 HK.out, drop_at2 HK2.out]; rfl)
      obtain ⟨b1, o1, L1, q1, r1, M1, rfl, x0, x1, x2, hp1⟩ := (H.out.below HB.out).node hlt HK.out
      obtain ⟨b2, o2, L2, q2, r2, M2, rfl, y0, y1, y2, hp2⟩ := (H2.out.below HB.out).node hlt HK2.out
      obtain ⟨i, ss, ps⟩ := x
      obtain ⟨j, tt, qs⟩ := y
      dsimp only at x0 x1 x2 hp1 y0 y1 y2 hp2 hsm HST
      have HC := Lib.hid (fun (W : World) (g1 : LP W L1 ss.length ss M1 ps.length ps) (g2 : LP W L2 tt.length tt M2 qs.length qs) => snode_any i j L1 L2 M1 M2 ss.length tt.length q1 q2 ps.length qs.length r1 r2 ss tt ps qs W g1 g2 (by omega) (by omega))
      generalize sameN i j ss tt ps qs = rb at HC HST
      have HP1 := Lib.hid hp1
      have HP2 := Lib.hid hp2
      clear hp1 hp2 hsm
      generalize ss.length = ns at *
      generalize ps.length = np at *
      generalize tt.length = nt at *
      generalize qs.length = nq at *
      cases rb with
      | false =>
        have HR := Lib.hid (show false = sameG X Y X' Y' by rw [← HV.out, ← HI.out, HST.out]; rfl)
        go_wp2_with fail
        have Rx0 := fun d os => cell_regrown x0 d os
        have Rx1 := fun d os => cell_regrown x1 d os
        have Rx2 := fun d os => cell_regrown x2 d os
        have Ry0 := fun d os => cell_regrown y0 d os
        have Ry1 := fun d os => cell_regrown y1 d os
        have Ry2 := fun d os => cell_regrown y2 d os
        have Rca0 := fun d os => cell_regrown ca0 d os
        have Rca1 := fun d os => cell_regrown ca1 d os
        have Rcb0 := fun d os => cell_regrown cb0 d os
        have Rcb1 := fun d os => cell_regrown cb1 d os
        refine wp_region_quiet_below (by kernel_rfl) (by kernel_rfl) ?_
        repeat (any_goals (first | go_big_quiet_step ((go_at_call 116; with_reducible exact Calls.regrown_of (HC.out _ (HP1.out.below ((below_regrown _ _ _))) (HP2.out.below ((below_regrown _ _ _)))))) | quiet_step ((go_at_call 116; with_reducible exact Calls.regrown_of (HC.out _ (HP1.out.below ((below_regrown _ _ _))) (HP2.out.below ((below_regrown _ _ _))))))))
        refine wpQuiet_nil ?_
        intro w11 hw11
        have hb11 := below_anyY hw11
        clear hw11 Rx0 Rx1 Rx2 Ry0 Ry1 Ry2 Rca0 Rca1 Rcb0 Rcb1
        clear x0 x1 x2 y0 y1 y2 ca0 ca1 cb0 cb1
        have HB2 := Lib.hid (HB.out.trans (hb11.mono HB.out.size))
        have HA2 := Lib.hid (blk_below HA1.out hb11)
        have HB3 := Lib.hid (blk_below HB1.out hb11)
        clear hb11
        go_wp2_with fail
        go_ret
        exact ⟨retBo HR.out, HB2.out⟩
      | true =>
        have HJ := Lib.hid (show sameNs (X.drop (k + 1)) (X'.drop (k + 1)) = sameNs X X' by rw [← HI.out, HST.out]; rfl)
        go_wp2_with fail
        have Rx0 := fun d os => cell_regrown x0 d os
        have Rx1 := fun d os => cell_regrown x1 d os
        have Rx2 := fun d os => cell_regrown x2 d os
        have Ry0 := fun d os => cell_regrown y0 d os
        have Ry1 := fun d os => cell_regrown y1 d os
        have Ry2 := fun d os => cell_regrown y2 d os
        have Rca0 := fun d os => cell_regrown ca0 d os
        have Rca1 := fun d os => cell_regrown ca1 d os
        have Rcb0 := fun d os => cell_regrown cb0 d os
        have Rcb1 := fun d os => cell_regrown cb1 d os
        refine wp_region_quiet_below (by kernel_rfl) (by kernel_rfl) ?_
        repeat (any_goals (first | go_big_quiet_step ((go_at_call 116; with_reducible exact Calls.regrown_of (HC.out _ (HP1.out.below ((below_regrown _ _ _))) (HP2.out.below ((below_regrown _ _ _)))))) | quiet_step ((go_at_call 116; with_reducible exact Calls.regrown_of (HC.out _ (HP1.out.below ((below_regrown _ _ _))) (HP2.out.below ((below_regrown _ _ _))))))))
        refine wpQuiet_nil ?_
        intro w11 hw11
        have hb11 := below_anyY hw11
        clear hw11 Rx0 Rx1 Rx2 Ry0 Ry1 Ry2 Rca0 Rca1 Rcb0 Rcb1
        clear x0 x1 x2 y0 y1 y2 ca0 ca1 cb0 cb1
        have HB2 := Lib.hid (HB.out.trans (hb11.mono HB.out.size))
        have HA2 := Lib.hid (blk_below HA1.out hb11)
        have HB3 := Lib.hid (blk_below HB1.out hb11)
        clear hb11
        go_wp2_with fail
        go_roundw
        case rel => exact ⟨k + 1, by go_num, by omega, HJ, HB2.out, HA2.out, HB3.out⟩
        case measure => simp [intOf] <;> omega
    · have hd1 : decide ((k : Int) < (n : Int)) = false := decide_eq_false (by omega)
      have HE := Lib.hid (show true = sameNs X X' by rw [← HI.out, List.drop_eq_nil_of_le (by have := HL.out.1; omega), List.drop_eq_nil_of_le (by have := HL2.out.1; omega)]; rfl)
      have HV2 := Lib.hid (show sameEs Y Y' = sameG X Y X' Y' by rw [← HV.out, ← HE.out]; rfl)
      go_wp2_with fail
      clear hd1 ca0 ca1 cb0 cb1
      go_loopw [6] (fun i wr => ∃ k : Nat, i = .int .i64 (k : Int) ∧ k ≤ n2 ∧ Hid (sameEs (Y.drop k) (Y'.drop k) = sameEs Y Y') ∧ Below w.heap.size w wr ∧ wr.heap[w.heap.size]? = some (.cells #[.slice A n c, .slice A2 n2 c2] 65 (0, 0)) ∧ wr.heap[w.heap.size + 1]? = some (.cells #[.slice B n d, .slice B2 n2 d2] 65 (0, 0))) (fun i _ => n2 - (intOf i).toNat)
      case atStart => exact ⟨0, rfl, Nat.zero_le _, Lib.hid rfl, HB.out, HA1.out, HB1.out⟩
      case round =>
        clear HB HA1 HB1 HI
        obtain ⟨k, rfl, hk, HI, hb, ha1, hb1⟩ := hrel
        have HB := Lib.hid hb
        have HA1 := Lib.hid ha1
        have HB1 := Lib.hid hb1
        clear hb ha1 hb1
        have ca0 : wr.cell? ⟨w.heap.size, 0, none⟩ = some (.slice A n c) := by rw [cell_of_row _ _ _ _ _ _ HA1.out]; rfl
        have ca1 : wr.cell? ⟨w.heap.size, 1, none⟩ = some (.slice A2 n2 c2) := by rw [cell_of_row _ _ _ _ _ _ HA1.out]; rfl
        have cb0 : wr.cell? ⟨w.heap.size + 1, 0, none⟩ = some (.slice B n d) := by rw [cell_of_row _ _ _ _ _ _ HB1.out]; rfl
        have cb1 : wr.cell? ⟨w.heap.size + 1, 1, none⟩ = some (.slice B2 n2 d2) := by rw [cell_of_row _ _ _ _ _ _ HB1.out]; rfl
        by_cases hlt : k < n2
        · have hd1 : decide ((k : Int) < (n2 : Int)) = true := decide_eq_true (by omega)
          have hi0 : (0 : Int) ≤ (k : Int) := by omega
          have hkl : k < Y.length := by have := HL.out.2; omega
          have hkl2 : k < Y'.length := by have := HL2.out.2; omega
          obtain ⟨x, hxx⟩ : ∃ x, x = Y[k] := ⟨_, rfl⟩
          have HK := Lib.hid (show Y[k]? = some x by rw [List.getElem?_eq_getElem hkl, hxx])
          have hsm := HY.out x (by rw [hxx]; exact List.getElem_mem hkl)
          clear hxx
          obtain ⟨y, hyy⟩ : ∃ y, y = Y'[k] := ⟨_, rfl⟩
          have HK2 := Lib.hid (show Y'[k]? = some y by rw [List.getElem?_eq_getElem hkl2, hyy])
          clear hyy
          have HST := Lib.hid (show sameEs (Y.drop k) (Y'.drop k) = (sameE x.1 x.2.1 x.2.2.1 y.1 y.2.1 y.2.2.1 x.2.2.2.1 y.2.2.2.1 x.2.2.2.2 y.2.2.2.2 && sameEs (Y.drop (k + 1)) (Y'.drop (k + 1))) by rw [drop_at2 HK.out, drop_at2 HK2.out]; rfl)
          obtain ⟨b1, o1, L1, q1, r1, M1, rfl, x0, x1, x2, x3, x4, hp1⟩ := (H.out.below HB.out).edge hlt HK.out
          obtain ⟨b2, o2, L2, q2, r2, M2, rfl, y0, y1, y2, y3, y4, hp2⟩ := (H2.out.below HB.out).edge hlt HK2.out
          obtain ⟨i, f, g, ss, ps⟩ := x
          obtain ⟨j, f2, g2, tt, qs⟩ := y
          dsimp only at x0 x1 x2 x3 x4 hp1 y0 y1 y2 y3 y4 hp2 hsm HST
          have HC := Lib.hid (fun (W : World) (g1 : LP W L1 ss.length ss M1 ps.length ps) (g3 : LP W L2 tt.length tt M2 qs.length qs) => sedge_any i f g j f2 g2 L1 L2 M1 M2 ss.length tt.length q1 q2 ps.length qs.length r1 r2 ss tt ps qs W g1 g3 (by omega) (by omega))
          generalize sameE i f g j f2 g2 ss tt ps qs = rb at HC HST
          have HP1 := Lib.hid hp1
          have HP2 := Lib.hid hp2
          clear hp1 hp2 hsm
          generalize ss.length = ns at *
          generalize ps.length = np at *
          generalize tt.length = nt at *
          generalize qs.length = nq at *
          cases rb with
          | false =>
            have HR := Lib.hid (show false = sameG X Y X' Y' by rw [← HV2.out, ← HI.out, HST.out]; rfl)
            go_wp2_with fail
            have Rx0 := fun d os => cell_regrown x0 d os
            have Rx1 := fun d os => cell_regrown x1 d os
            have Rx2 := fun d os => cell_regrown x2 d os
            have Rx3 := fun d os => cell_regrown x3 d os
            have Rx4 := fun d os => cell_regrown x4 d os
            have Ry0 := fun d os => cell_regrown y0 d os
            have Ry1 := fun d os => cell_regrown y1 d os
            have Ry2 := fun d os => cell_regrown y2 d os
            have Ry3 := fun d os => cell_regrown y3 d os
            have Ry4 := fun d os => cell_regrown y4 d os
            have Rca0 := fun d os => cell_regrown ca0 d os
            have Rca1 := fun d os => cell_regrown ca1 d os
            have Rcb0 := fun d os => cell_regrown cb0 d os
            have Rcb1 := fun d os => cell_regrown cb1 d os
            refine wp_region_quiet_below (by kernel_rfl) (by kernel_rfl) ?_
            repeat (any_goals (first | go_big_quiet_step ((go_at_call 117; with_reducible exact Calls.regrown_of (HC.out _ (HP1.out.below ((below_regrown _ _ _))) (HP2.out.below ((below_regrown _ _ _)))))) | quiet_step ((go_at_call 117; with_reducible exact Calls.regrown_of (HC.out _ (HP1.out.below ((below_regrown _ _ _))) (HP2.out.below ((below_regrown _ _ _))))))))
            refine wpQuiet_nil ?_
            intro w11 hw11
            have hb11 := below_anyY hw11
            clear hw11 Rx0 Rx1 Rx2 Rx3 Rx4 Ry0 Ry1 Ry2 Ry3 Ry4 Rca0 Rca1 Rcb0 Rcb1
            clear x0 x1 x2 x3 x4 y0 y1 y2 y3 y4 ca0 ca1 cb0 cb1
            have HB2 := Lib.hid (HB.out.trans (hb11.mono HB.out.size))
            have HA2 := Lib.hid (blk_below HA1.out hb11)
            have HB3 := Lib.hid (blk_below HB1.out hb11)
            clear hb11
            go_wp2_with fail
            go_ret
            exact ⟨retBo HR.out, HB2.out⟩
          | true =>
            have HJ := Lib.hid (show sameEs (Y.drop (k + 1)) (Y'.drop (k + 1)) = sameEs Y Y' by rw [← HI.out, HST.out]; rfl)
            go_wp2_with fail
            have Rx0 := fun d os => cell_regrown x0 d os
            have Rx1 := fun d os => cell_regrown x1 d os
            have Rx2 := fun d os => cell_regrown x2 d os
            have Rx3 := fun d os => cell_regrown x3 d os
            have Rx4 := fun d os => cell_regrown x4 d os
            have Ry0 := fun d os => cell_regrown y0 d os
            have Ry1 := fun d os => cell_regrown y1 d os
            have Ry2 := fun d os => cell_regrown y2 d os
            have Ry3 := fun d os => cell_regrown y3 d os
            have Ry4 := fun d os => cell_regrown y4 d os
            have Rca0 := fun d os => cell_regrown ca0 d os
            have Rca1 := fun d os => cell_regrown ca1 d os
            have Rcb0 := fun d os => cell_regrown cb0 d os
            have Rcb1 := fun d os => cell_regrown cb1 d os
            refine wp_region_quiet_below (by kernel_rfl) (by kernel_rfl) ?_
            repeat (any_goals (first | go_big_quiet_step ((go_at_call 117; with_reducible exact Calls.regrown_of (HC.out _ (HP1.out.below ((below_regrown _ _ _))) (HP2.out.below ((below_regrown _ _ _)))))) | quiet_step ((go_at_call 117; with_reducible exact Calls.regrown_of (HC.out _ (HP1.out.below ((below_regrown _ _ _))) (HP2.out.below ((below_regrown _ _ _))))))))
            refine wpQuiet_nil ?_
            intro w11 hw11
            have hb11 := below_anyY hw11
            clear hw11 Rx0 Rx1 Rx2 Rx3 Rx4 Ry0 Ry1 Ry2 Ry3 Ry4 Rca0 Rca1 Rcb0 Rcb1
            clear x0 x1 x2 x3 x4 y0 y1 y2 y3 y4 ca0 ca1 cb0 cb1
            have HB2 := Lib.hid (HB.out.trans (hb11.mono HB.out.size))
            have HA2 := Lib.hid (blk_below HA1.out hb11)
            have HB3 := Lib.hid (blk_below HB1.out hb11)
            clear hb11
            go_wp2_with fail
            go_roundw
            case rel => exact ⟨k + 1, by go_num, by omega, HJ, HB2.out, HA2.out, HB3.out⟩
            case measure => simp [intOf] <;> omega
        · have hd1 : decide ((k : Int) < (n2 : Int)) = false := decide_eq_false (by omega)
          have HE := Lib.hid (show true = sameEs Y Y' by rw [← HI.out, List.drop_eq_nil_of_le (by have := HL.out.2; omega), List.drop_eq_nil_of_le (by have := HL2.out.2; omega)]; rfl)
          have HR := Lib.hid (show true = sameG X Y X' Y' by rw [← HV2.out]; exact HE.out)
          go_wp2_with fail
          go_ret
          exact ⟨retBo HR.out, HB.out⟩
end Go.Proofs.Ytbjngbacnkmjhaa
namespace Go.Proofs.Ytbjngbacnkmjhaa
open Go.RowKit Vi

set_option maxRecDepth 100000 in
theorem sequal_any (A A2 : Option Addr) (n m c c2 : Nat) (ss tt : List ByteArray) (w : World) (h : SlN w A n ss) (h2 : SlN w A2 m tt) (hn : (n : Int) ≤ 9223372036854775807) :
    Calls Try.prog 241 #[.slice A n c, .slice A2 m c2] w fun e w' => e = .returned (.bool (sameT ss tt)) ∧ Below w.heap.size w w' := by
  have H := Lib.hid h
  have H2 := Lib.hid h2
  have L := Lib.hid h.1
  have L2 := Lib.hid h2.1
  clear h h2
  by_cases hnm : n = m
  rotate_left
  · have d1 : ((n : Int) != (m : Int)) = true := by simp; omega
    have HR := Lib.hid (sameT_no (ss := ss) (tt := tt) (fun q => hnm (by rw [← L.out, ← L2.out, q])))
    clear hnm
    go_enter Try.func241, Try.ntmps241
    go_wp2_with fail
    go_ret
    exact ⟨retBo HR.out, Below.refl _ _⟩
  subst hnm
  go_enter Try.func241, Try.ntmps241
  go_wp2_with fail
  go_loopw [13] (fun i wr => ∃ k : Nat, i = .int .i64 (k : Int) ∧ k ≤ n ∧ Hid (ss.take k = tt.take k) ∧ Below w.heap.size w wr) (fun i _ => n - (intOf i).toNat)
  case atStart => exact ⟨0, rfl, Nat.zero_le _, Lib.hid rfl, Below.refl _ _⟩
  case round =>
    obtain ⟨k, rfl, hk, HI, hb⟩ := hrel
    have HB := Lib.hid hb
    clear hb
    by_cases hlt : k < n
    · have hd1 : decide ((k : Int) < (n : Int)) = true := decide_eq_true (by omega)
      have hl : k < ss.length := by rw [L.out]; exact hlt
      have hl2 : k < tt.length := by rw [L2.out]; exact hlt
      obtain ⟨b, off, rfl, hc⟩ := (H.out.later HB.out).2 (by omega)
      obtain ⟨b2, off2, rfl, hc2⟩ := (H2.out.later HB.out).2 (by omega)
      have a0 := hc k hl
      have a2 := hc2 k hl2
      have HT1 := Lib.hid (List.take_succ_eq_append_getElem hl)
      have HT2 := Lib.hid (List.take_succ_eq_append_getElem hl2)
      have HG1 := Lib.hid (List.getElem?_eq_getElem hl)
      have HG2 := Lib.hid (List.getElem?_eq_getElem hl2)
      obtain ⟨s, hs⟩ : ∃ s, ss[k] = s := ⟨_, rfl⟩
      obtain ⟨t, ht⟩ : ∃ t, tt[k] = t := ⟨_, rfl⟩
      rw [hs] at a0 HT1 HG1
      rw [ht] at a2 HT2 HG2
      have hi0 : (0 : Int) ≤ (k : Int) := by omega
      clear hc hc2 hs ht
      cases hq : (s.toList == t.toList) with
      | false =>
        have hq2 : (s.toList != t.toList) = true := by rw [bne, hq]; rfl
        have HR := Lib.hid (sameT_no (ss := ss) (tt := tt) (fun q => by
          have h1 := HG1.out
          rw [q, HG2.out] at h1
          injection h1 with h1
          subst h1
          simp at hq))
        go_wp2_with fail
        go_quiet (fail)
        go_wp2_with fail
        go_ret
        exact ⟨retBo HR.out, ⟨HB.out.os, HB.out.tape, HB.out.output, HB.out.size, HB.out.block⟩⟩
      | true =>
        have hq2 : (s.toList != t.toList) = false := by rw [bne, hq]; rfl
        have HJ := Lib.hid (show ss.take (k + 1) = tt.take (k + 1) by rw [HT1.out, HT2.out, HI.out, ba_eqR hq])
        go_wp2_with fail
        go_quiet (fail)
        go_wp2_with fail
        go_roundw
        case rel => exact ⟨k + 1, by go_num, by omega, HJ, ⟨HB.out.os, HB.out.tape, HB.out.output, HB.out.size, HB.out.block⟩⟩
        case measure => simp [intOf] <;> omega
    · have hd1 : decide ((k : Int) < (n : Int)) = false := decide_eq_false (by omega)
      have HR := Lib.hid (sameT_yes (show ss = tt by
        have q := HI.out
        rwa [List.take_of_length_le (by rw [L.out]; omega), List.take_of_length_le (by rw [L2.out]; omega)] at q))
      go_wp2_with fail
      go_ret
      exact ⟨retBo HR.out, HB.out⟩
set_option maxRecDepth 100000 in
set_option maxHeartbeats 1000000 in
theorem pequal_any (A A2 : Option Addr) (n m c c2 : Nat) (ps qs : List Pr) (w : World) (h : RdX prC 4 w A n ps) (h2 : RdX prC 4 w A2 m qs) (hn : (n : Int) ≤ 9223372036854775807) :
    Calls Try.prog 242 #[.slice A n c, .slice A2 m c2] w fun e w' => e = .returned (.bool (sameP ps qs)) ∧ Below w.heap.size w w' := by
  have H := Lib.hid h
  have H2 := Lib.hid h2
  have L := Lib.hid h.1
  have L2 := Lib.hid h2.1
  clear h h2
  by_cases hnm : n = m
  rotate_left
  · have d1 : ((n : Int) != (m : Int)) = true := by simp; omega
    have HR := Lib.hid (sameP_no (ss := ps) (tt := qs) (fun q => hnm (by rw [← L.out, ← L2.out, q])))
    clear hnm
    go_enter Try.func242, Try.ntmps242
    go_wp2_with fail
    go_ret
    exact ⟨retBo HR.out, Below.refl _ _⟩
  subst hnm
  go_enter Try.func242, Try.ntmps242
  go_wp2_with fail
  go_loopw [13] (fun i wr => ∃ k : Nat, i = .int .i64 (k : Int) ∧ k ≤ n ∧ Hid (ps.take k = qs.take k) ∧ Below w.heap.size w wr) (fun i _ => n - (intOf i).toNat)
  case atStart => exact ⟨0, rfl, Nat.zero_le _, Lib.hid rfl, Below.refl _ _⟩
  case round =>
    obtain ⟨k, rfl, hk, HI, hb⟩ := hrel
    have HB := Lib.hid hb
    clear hb
    by_cases hlt : k < n
    · have hd1 : decide ((k : Int) < (n : Int)) = true := decide_eq_true (by omega)
      obtain ⟨b, off, hl, rfl, hbb, hc⟩ := (H.out.below HB.out).at hlt
      obtain ⟨b2, off2, hl2, rfl, hbb2, hc2⟩ := (H2.out.below HB.out).at hlt
      have HT1 := Lib.hid (List.take_succ_eq_append_getElem hl)
      have HT2 := Lib.hid (List.take_succ_eq_append_getElem hl2)
      have HG1 := Lib.hid (List.getElem?_eq_getElem hl)
      have HG2 := Lib.hid (List.getElem?_eq_getElem hl2)
      obtain ⟨x, hx⟩ : ∃ x, ps[k] = x := ⟨_, rfl⟩
      obtain ⟨y, hy⟩ : ∃ y, qs[k] = y := ⟨_, rfl⟩
      rw [hx] at hc HT1 HG1
      rw [hy] at hc2 HT2 HG2
      obtain ⟨s, a, d, t⟩ := x
      obtain ⟨s2, a', d', t2⟩ := y
      have a0 := hc 0 _ rfl
      have a1 := hc 1 _ rfl
      have a2 := hc 2 _ rfl
      have a3 := hc 3 _ rfl
      have b0 := hc2 0 _ rfl
      have b1 := hc2 1 _ rfl
      have b2' := hc2 2 _ rfl
      have b3 := hc2 3 _ rfl
      rw [Nat.add_zero] at a0 b0
      have hi0 : (0 : Int) ≤ (k : Int) := by omega
      clear hc hc2 hx hy
      by_cases hq : s = s2 ∧ a = a' ∧ d = d' ∧ t = t2
      · obtain ⟨rfl, rfl, rfl, rfl⟩ := hq
        have HJ := Lib.hid (show ps.take (k + 1) = qs.take (k + 1) by rw [HT1.out, HT2.out, HI.out])
        go_wp2_with fail
        go_quiet (fail)
        go_wp2_with fail
        go_roundw
        case rel => exact ⟨k + 1, by go_num, by omega, HJ, ⟨HB.out.os, HB.out.tape, HB.out.output, HB.out.size, HB.out.block⟩⟩
        case measure => simp [intOf] <;> omega
      · have HR := Lib.hid (sameP_no (ss := ps) (tt := qs) (fun q => by
          have h1 := HG1.out
          rw [q, HG2.out] at h1
          injection h1 with h1
          injection h1 with e1 h1
          injection h1 with e2 h1
          injection h1 with e3 e4
          exact hq ⟨e1.symm, e2.symm, e3.symm, e4.symm⟩))
        have hrq := run_neq_pr s s2 a a' d d' t t2 hq
        clear hq
        go_wp2_with fail
        go_quiet (fail)
        go_wp2_with fail
        go_ret
        exact ⟨retBo HR.out, ⟨HB.out.os, HB.out.tape, HB.out.output, HB.out.size, HB.out.block⟩⟩
    · have hd1 : decide ((k : Int) < (n : Int)) = false := decide_eq_false (by omega)
      have HR := Lib.hid (sameP_yes (show ps = qs by
        have q := HI.out
        rwa [List.take_of_length_le (by rw [L.out]; omega), List.take_of_length_le (by rw [L2.out]; omega)] at q))
      go_wp2_with fail
      go_ret
      exact ⟨retBo HR.out, HB.out⟩
set_option maxRecDepth 100000 in
theorem sparts_any (A A2 B B2 : Option Addr) (n n2 c c2 m m2 d d2 : Nat) (ss tt : List ByteArray) (ps qs : List Pr) (w : World) (hp1 : LP w A n ss B m ps) (hp2 : LP w A2 n2 tt B2 m2 qs) (hn : (n : Int) ≤ 9223372036854775807) (hm : (m : Int) ≤ 9223372036854775807) :
    Calls Try.prog 189 #[.slice A n c, .slice A2 n2 c2, .slice B m d, .slice B2 m2 d2] w fun e w' => e = .returned (.bool (sameT ss tt && sameP ps qs)) ∧ Below w.heap.size w w' := by
  have H := Lib.hid hp1
  have H2 := Lib.hid hp2
  clear hp1 hp2
  have HT := Lib.hid (sequal_any A A2 n n2 c c2 ss tt w H.out.l H2.out.l hn)
  cases qt : sameT ss tt with
  | false =>
    rw [qt] at HT
    have HR := Lib.hid (show false = (false && sameP ps qs) from rfl)
    generalize (false && sameP ps qs) = r at HR ⊢
    clear qt
    go_enter Try.func189, Try.ntmps189
    go_wp2_with fail
    refine HT.out.mono ?_
    rintro e w1 ⟨rfl, hb⟩
    have HB := Lib.hid hb
    clear hb
    go_wp2_with fail
    go_ret
    exact ⟨retBo HR.out, HB.out⟩
  | true =>
    rw [qt] at HT
    have HR := Lib.hid (show sameP ps qs = (true && sameP ps qs) by simp)
    generalize (true && sameP ps qs) = r at HR ⊢
    clear qt
    go_enter Try.func189, Try.ntmps189
    go_wp2_with fail
    refine HT.out.mono ?_
    rintro e w1 ⟨rfl, hb⟩
    have HB := Lib.hid hb
    have HP := Lib.hid (pequal_any B B2 m m2 d d2 ps qs w1 (H.out.below hb).p (H2.out.below hb).p hm)
    clear hb
    generalize sameP ps qs = r2 at *
    go_wp2_with fail
    refine HP.out.mono ?_
    rintro e w2 ⟨rfl, hb⟩
    have HB2 := Lib.hid (HB.out.trans (hb.mono HB.out.size))
    clear hb
    go_wp2_with fail
    go_ret
    exact ⟨retBo HR.out, HB2.out⟩
set_option maxRecDepth 100000 in
set_option maxHeartbeats 4000000 in
theorem gsnode_any (i j : ByteArray) (A A2 B B2 : Option Addr) (n n2 c c2 m m2 d d2 : Nat) (ss tt : List ByteArray) (ps qs : List Pr) (w : World) (hp1 : LP w A n ss B m ps) (hp2 : LP w A2 n2 tt B2 m2 qs) (hn : (n : Int) ≤ 9223372036854775807) (hm : (m : Int) ≤ 9223372036854775807) :
    Calls Try.prog 125 #[.agg #[.string i, .slice A n c, .slice B m d], .agg #[.string j, .slice A2 n2 c2, .slice B2 m2 d2]] w fun e w' => e = .returned (.bool (sameN i j ss tt ps qs)) ∧ Below w.heap.size w w' := by
  have H := Lib.hid hp1
  have H2 := Lib.hid hp2
  clear hp1 hp2
  cases qi : (i.toList == j.toList) with
  | false =>
    have HR := Lib.hid (show false = sameN i j ss tt ps qs by unfold sameN eqB; rw [qi]; simp)
    have HB1 := Lib.hid (Below.refl w.heap.size w)
    go_enter Try.func125, Try.ntmps125
    have HF2 := Lib.hid (blk_new w (.cells #[.string i, .slice A n c, .slice B m d] 81 (0, 0)))
    have HB3 := Lib.hid (HB1.out.alloc HB1.out.size (.cells #[.string i, .slice A n c, .slice B m d] 81 (0, 0)))
    clear HB1
    have HQ4 := Lib.hid (H.out.below ((Below.refl _ w).alloc (Nat.le_refl _) (.cells #[.string i, .slice A n c, .slice B m d] 81 (0, 0))))
    clear H
    have HQ5 := Lib.hid (H2.out.below ((Below.refl _ w).alloc (Nat.le_refl _) (.cells #[.string i, .slice A n c, .slice B m d] 81 (0, 0))))
    clear H2
    have HF6 := Lib.hid (blk_alloc HF2.out (.cells #[.string j, .slice A2 n2 c2, .slice B2 m2 d2] 81 (0, 0)))
    clear HF2
    have HF7 : Hid (((w.alloc (.cells #[.string i, .slice A n c, .slice B m d] 81 (0, 0))).alloc (.cells #[.string j, .slice A2 n2 c2, .slice B2 m2 d2] 81 (0, 0))).heap[w.heap.size + 1]? = some (.cells #[.string j, .slice A2 n2 c2, .slice B2 m2 d2] 81 (0, 0))) := Lib.hid (blk_newN (W := (w.alloc (.cells #[.string i, .slice A n c, .slice B m d] 81 (0, 0)))) (o := (.cells #[.string j, .slice A2 n2 c2, .slice B2 m2 d2] 81 (0, 0))) (by simp))
    have HB8 := Lib.hid (HB3.out.alloc (by have := HB3.out.size; simp at this ⊢ <;> omega) (.cells #[.string j, .slice A2 n2 c2, .slice B2 m2 d2] 81 (0, 0)))
    clear HB3
    have HQ9 := Lib.hid (HQ4.out.below ((Below.refl _ (w.alloc (.cells #[.string i, .slice A n c, .slice B m d] 81 (0, 0)))).alloc (Nat.le_refl _) (.cells #[.string j, .slice A2 n2 c2, .slice B2 m2 d2] 81 (0, 0))))
    clear HQ4
    have HQ10 := Lib.hid (HQ5.out.below ((Below.refl _ (w.alloc (.cells #[.string i, .slice A n c, .slice B m d] 81 (0, 0)))).alloc (Nat.le_refl _) (.cells #[.string j, .slice A2 n2 c2, .slice B2 m2 d2] 81 (0, 0))))
    clear HQ5
    have hc11 : ((w.alloc (.cells #[.string i, .slice A n c, .slice B m d] 81 (0, 0))).alloc (.cells #[.string j, .slice A2 n2 c2, .slice B2 m2 d2] 81 (0, 0))).cell? ⟨w.heap.size, 0, none⟩ = some (.string i) := by rw [cell_of_row _ _ _ _ _ _ HF6.out]; rfl
    have hc12 : ((w.alloc (.cells #[.string i, .slice A n c, .slice B m d] 81 (0, 0))).alloc (.cells #[.string j, .slice A2 n2 c2, .slice B2 m2 d2] 81 (0, 0))).cell? ⟨w.heap.size, 1, none⟩ = some (.slice A n c) := by rw [cell_of_row _ _ _ _ _ _ HF6.out]; rfl
    have hc13 : ((w.alloc (.cells #[.string i, .slice A n c, .slice B m d] 81 (0, 0))).alloc (.cells #[.string j, .slice A2 n2 c2, .slice B2 m2 d2] 81 (0, 0))).cell? ⟨w.heap.size, 2, none⟩ = some (.slice B m d) := by rw [cell_of_row _ _ _ _ _ _ HF6.out]; rfl
    have hc14 : ((w.alloc (.cells #[.string i, .slice A n c, .slice B m d] 81 (0, 0))).alloc (.cells #[.string j, .slice A2 n2 c2, .slice B2 m2 d2] 81 (0, 0))).cell? ⟨w.heap.size + 1, 0, none⟩ = some (.string j) := by rw [cell_of_row _ _ _ _ _ _ HF7.out]; rfl
    have hc15 : ((w.alloc (.cells #[.string i, .slice A n c, .slice B m d] 81 (0, 0))).alloc (.cells #[.string j, .slice A2 n2 c2, .slice B2 m2 d2] 81 (0, 0))).cell? ⟨w.heap.size + 1, 1, none⟩ = some (.slice A2 n2 c2) := by rw [cell_of_row _ _ _ _ _ _ HF7.out]; rfl
    have hc16 : ((w.alloc (.cells #[.string i, .slice A n c, .slice B m d] 81 (0, 0))).alloc (.cells #[.string j, .slice A2 n2 c2, .slice B2 m2 d2] 81 (0, 0))).cell? ⟨w.heap.size + 1, 2, none⟩ = some (.slice B2 m2 d2) := by rw [cell_of_row _ _ _ _ _ _ HF7.out]; rfl
    go_wp2_with fail
    clear hc11 hc12 hc13 hc14 hc15 hc16
    go_ret
    exact ⟨retBo HR.out, HB8.out⟩
  | true =>
    have HV := Lib.hid (show (sameT ss tt && sameP ps qs) = sameN i j ss tt ps qs by unfold sameN eqB; rw [qi]; simp)
    have HB1 := Lib.hid (Below.refl w.heap.size w)
    go_enter Try.func125, Try.ntmps125
    have HF2 := Lib.hid (blk_new w (.cells #[.string i, .slice A n c, .slice B m d] 81 (0, 0)))
    have HB3 := Lib.hid (HB1.out.alloc HB1.out.size (.cells #[.string i, .slice A n c, .slice B m d] 81 (0, 0)))
    clear HB1
    have HQ4 := Lib.hid (H.out.below ((Below.refl _ w).alloc (Nat.le_refl _) (.cells #[.string i, .slice A n c, .slice B m d] 81 (0, 0))))
    clear H
    have HQ5 := Lib.hid (H2.out.below ((Below.refl _ w).alloc (Nat.le_refl _) (.cells #[.string i, .slice A n c, .slice B m d] 81 (0, 0))))
    clear H2
    have HF6 := Lib.hid (blk_alloc HF2.out (.cells #[.string j, .slice A2 n2 c2, .slice B2 m2 d2] 81 (0, 0)))
    clear HF2
    have HF7 : Hid (((w.alloc (.cells #[.string i, .slice A n c, .slice B m d] 81 (0, 0))).alloc (.cells #[.string j, .slice A2 n2 c2, .slice B2 m2 d2] 81 (0, 0))).heap[w.heap.size + 1]? = some (.cells #[.string j, .slice A2 n2 c2, .slice B2 m2 d2] 81 (0, 0))) := Lib.hid (blk_newN (W := (w.alloc (.cells #[.string i, .slice A n c, .slice B m d] 81 (0, 0)))) (o := (.cells #[.string j, .slice A2 n2 c2, .slice B2 m2 d2] 81 (0, 0))) (by simp))
    have HB8 := Lib.hid (HB3.out.alloc (by have := HB3.out.size; simp at this ⊢ <;> omega) (.cells #[.string j, .slice A2 n2 c2, .slice B2 m2 d2] 81 (0, 0)))
    clear HB3
    have HQ9 := Lib.hid (HQ4.out.below ((Below.refl _ (w.alloc (.cells #[.string i, .slice A n c, .slice B m d] 81 (0, 0)))).alloc (Nat.le_refl _) (.cells #[.string j, .slice A2 n2 c2, .slice B2 m2 d2] 81 (0, 0))))
    clear HQ4
    have HQ10 := Lib.hid (HQ5.out.below ((Below.refl _ (w.alloc (.cells #[.string i, .slice A n c, .slice B m d] 81 (0, 0)))).alloc (Nat.le_refl _) (.cells #[.string j, .slice A2 n2 c2, .slice B2 m2 d2] 81 (0, 0))))
    clear HQ5
    have hc11 : ((w.alloc (.cells #[.string i, .slice A n c, .slice B m d] 81 (0, 0))).alloc (.cells #[.string j, .slice A2 n2 c2, .slice B2 m2 d2] 81 (0, 0))).cell? ⟨w.heap.size, 0, none⟩ = some (.string i) := by rw [cell_of_row _ _ _ _ _ _ HF6.out]; rfl
    have hc12 : ((w.alloc (.cells #[.string i, .slice A n c, .slice B m d] 81 (0, 0))).alloc (.cells #[.string j, .slice A2 n2 c2, .slice B2 m2 d2] 81 (0, 0))).cell? ⟨w.heap.size, 1, none⟩ = some (.slice A n c) := by rw [cell_of_row _ _ _ _ _ _ HF6.out]; rfl
    have hc13 : ((w.alloc (.cells #[.string i, .slice A n c, .slice B m d] 81 (0, 0))).alloc (.cells #[.string j, .slice A2 n2 c2, .slice B2 m2 d2] 81 (0, 0))).cell? ⟨w.heap.size, 2, none⟩ = some (.slice B m d) := by rw [cell_of_row _ _ _ _ _ _ HF6.out]; rfl
    have hc14 : ((w.alloc (.cells #[.string i, .slice A n c, .slice B m d] 81 (0, 0))).alloc (.cells #[.string j, .slice A2 n2 c2, .slice B2 m2 d2] 81 (0, 0))).cell? ⟨w.heap.size + 1, 0, none⟩ = some (.string j) := by rw [cell_of_row _ _ _ _ _ _ HF7.out]; rfl
    have hc15 : ((w.alloc (.cells #[.string i, .slice A n c, .slice B m d] 81 (0, 0))).alloc (.cells #[.string j, .slice A2 n2 c2, .slice B2 m2 d2] 81 (0, 0))).cell? ⟨w.heap.size + 1, 1, none⟩ = some (.slice A2 n2 c2) := by rw [cell_of_row _ _ _ _ _ _ HF7.out]; rfl
    have hc16 : ((w.alloc (.cells #[.string i, .slice A n c, .slice B m d] 81 (0, 0))).alloc (.cells #[.string j, .slice A2 n2 c2, .slice B2 m2 d2] 81 (0, 0))).cell? ⟨w.heap.size + 1, 2, none⟩ = some (.slice B2 m2 d2) := by rw [cell_of_row _ _ _ _ _ _ HF7.out]; rfl
    go_wp2_with fail
    clear hc11 hc12 hc13 hc14 hc15 hc16
    refine (sparts_any A A2 B B2 n n2 c c2 m m2 d d2 ss tt ps qs ((w.alloc (.cells #[.string i, .slice A n c, .slice B m d] 81 (0, 0))).alloc (.cells #[.string j, .slice A2 n2 c2, .slice B2 m2 d2] 81 (0, 0))) HQ9.out HQ10.out hn hm).mono ?_
    rintro e w1 ⟨rfl, hb1⟩
    have HF17 := Lib.hid (blk_below HF6.out hb1)
    have HF18 := Lib.hid (blk_below HF7.out hb1)
    have HB19 := Lib.hid (HB8.out.trans (hb1.mono HB8.out.size))
    have HQ20 := Lib.hid (HQ9.out.below hb1)
    clear HQ9
    have HQ21 := Lib.hid (HQ10.out.below hb1)
    clear HQ10
    clear hb1 HB8 HF6 HF7
    generalize (sameT ss tt && sameP ps qs) = r at *
    go_wp2_with fail
    go_ret
    exact ⟨retBo HV.out, HB19.out⟩
set_option maxRecDepth 100000 in
set_option maxHeartbeats 4000000 in
theorem gsedge_any (i f g j h k : ByteArray) (A A2 B B2 : Option Addr) (n n2 c c2 m m2 d d2 : Nat) (ss tt : List ByteArray) (ps qs : List Pr) (w : World) (hp1 : LP w A n ss B m ps) (hp2 : LP w A2 n2 tt B2 m2 qs) (hn : (n : Int) ≤ 9223372036854775807) (hm : (m : Int) ≤ 9223372036854775807) :
    Calls Try.prog 127 #[.agg #[.string i, .string f, .string g, .slice A n c, .slice B m d], .agg #[.string j, .string h, .string k, .slice A2 n2 c2, .slice B2 m2 d2]] w fun e w' => e = .returned (.bool (sameE i f g j h k ss tt ps qs)) ∧ Below w.heap.size w w' := by
  have H := Lib.hid hp1
  have H2 := Lib.hid hp2
  clear hp1 hp2
  cases qi : (i.toList == j.toList) with
  | false =>
    have HR := Lib.hid (show false = sameE i f g j h k ss tt ps qs by unfold sameE eqB; rw [qi]; simp)
    have HB1 := Lib.hid (Below.refl w.heap.size w)
    go_enter Try.func127, Try.ntmps127
    have HF2 := Lib.hid (blk_new w (.cells #[.string i, .string f, .string g, .slice A n c, .slice B m d] 85 (0, 0)))
    have HB3 := Lib.hid (HB1.out.alloc HB1.out.size (.cells #[.string i, .string f, .string g, .slice A n c, .slice B m d] 85 (0, 0)))
    clear HB1
    have HQ4 := Lib.hid (H.out.below ((Below.refl _ w).alloc (Nat.le_refl _) (.cells #[.string i, .string f, .string g, .slice A n c, .slice B m d] 85 (0, 0))))
    clear H
    have HQ5 := Lib.hid (H2.out.below ((Below.refl _ w).alloc (Nat.le_refl _) (.cells #[.string i, .string f, .string g, .slice A n c, .slice B m d] 85 (0, 0))))
    clear H2
    have HF6 := Lib.hid (blk_alloc HF2.out (.cells #[.string j, .string h, .string k, .slice A2 n2 c2, .slice B2 m2 d2] 85 (0, 0)))
    clear HF2
    have HF7 : Hid (((w.alloc (.cells #[.string i, .string f, .string g, .slice A n c, .slice B m d] 85 (0, 0))).alloc (.cells #[.string j, .string h, .string k, .slice A2 n2 c2, .slice B2 m2 d2] 85 (0, 0))).heap[w.heap.size + 1]? = some (.cells #[.string j, .string h, .string k, .slice A2 n2 c2, .slice B2 m2 d2] 85 (0, 0))) := Lib.hid (blk_newN (W := (w.alloc (.cells #[.string i, .string f, .string g, .slice A n c, .slice B m d] 85 (0, 0)))) (o := (.cells #[.string j, .string h, .string k, .slice A2 n2 c2, .slice B2 m2 d2] 85 (0, 0))) (by simp))
    have HB8 := Lib.hid (HB3.out.alloc (by have := HB3.out.size; simp at this ⊢ <;> omega) (.cells #[.string j, .string h, .string k, .slice A2 n2 c2, .slice B2 m2 d2] 85 (0, 0)))
    clear HB3
    have HQ9 := Lib.hid (HQ4.out.below ((Below.refl _ (w.alloc (.cells #[.string i, .string f, .string g, .slice A n c, .slice B m d] 85 (0, 0)))).alloc (Nat.le_refl _) (.cells #[.string j, .string h, .string k, .slice A2 n2 c2, .slice B2 m2 d2] 85 (0, 0))))
    clear HQ4
    have HQ10 := Lib.hid (HQ5.out.below ((Below.refl _ (w.alloc (.cells #[.string i, .string f, .string g, .slice A n c, .slice B m d] 85 (0, 0)))).alloc (Nat.le_refl _) (.cells #[.string j, .string h, .string k, .slice A2 n2 c2, .slice B2 m2 d2] 85 (0, 0))))
    clear HQ5
    have hc11 : ((w.alloc (.cells #[.string i, .string f, .string g, .slice A n c, .slice B m d] 85 (0, 0))).alloc (.cells #[.string j, .string h, .string k, .slice A2 n2 c2, .slice B2 m2 d2] 85 (0, 0))).cell? ⟨w.heap.size, 0, none⟩ = some (.string i) := by rw [cell_of_row _ _ _ _ _ _ HF6.out]; rfl
    have hc12 : ((w.alloc (.cells #[.string i, .string f, .string g, .slice A n c, .slice B m d] 85 (0, 0))).alloc (.cells #[.string j, .string h, .string k, .slice A2 n2 c2, .slice B2 m2 d2] 85 (0, 0))).cell? ⟨w.heap.size, 1, none⟩ = some (.string f) := by rw [cell_of_row _ _ _ _ _ _ HF6.out]; rfl
    have hc13 : ((w.alloc (.cells #[.string i, .string f, .string g, .slice A n c, .slice B m d] 85 (0, 0))).alloc (.cells #[.string j, .string h, .string k, .slice A2 n2 c2, .slice B2 m2 d2] 85 (0, 0))).cell? ⟨w.heap.size, 2, none⟩ = some (.string g) := by rw [cell_of_row _ _ _ _ _ _ HF6.out]; rfl
    have hc14 : ((w.alloc (.cells #[.string i, .string f, .string g, .slice A n c, .slice B m d] 85 (0, 0))).alloc (.cells #[.string j, .string h, .string k, .slice A2 n2 c2, .slice B2 m2 d2] 85 (0, 0))).cell? ⟨w.heap.size, 3, none⟩ = some (.slice A n c) := by rw [cell_of_row _ _ _ _ _ _ HF6.out]; rfl
    have hc15 : ((w.alloc (.cells #[.string i, .string f, .string g, .slice A n c, .slice B m d] 85 (0, 0))).alloc (.cells #[.string j, .string h, .string k, .slice A2 n2 c2, .slice B2 m2 d2] 85 (0, 0))).cell? ⟨w.heap.size, 4, none⟩ = some (.slice B m d) := by rw [cell_of_row _ _ _ _ _ _ HF6.out]; rfl
    have hc16 : ((w.alloc (.cells #[.string i, .string f, .string g, .slice A n c, .slice B m d] 85 (0, 0))).alloc (.cells #[.string j, .string h, .string k, .slice A2 n2 c2, .slice B2 m2 d2] 85 (0, 0))).cell? ⟨w.heap.size + 1, 0, none⟩ = some (.string j) := by rw [cell_of_row _ _ _ _ _ _ HF7.out]; rfl
    have hc17 : ((w.alloc (.cells #[.string i, .string f, .string g, .slice A n c, .slice B m d] 85 (0, 0))).alloc (.cells #[.string j, .string h, .string k, .slice A2 n2 c2, .slice B2 m2 d2] 85 (0, 0))).cell? ⟨w.heap.size + 1, 1, none⟩ = some (.string h) := by rw [cell_of_row _ _ _ _ _ _ HF7.out]; rfl
    have hc18 : ((w.alloc (.cells #[.string i, .string f, .string g, .slice A n c, .slice B m d] 85 (0, 0))).alloc (.cells #[.string j, .string h, .string k, .slice A2 n2 c2, .slice B2 m2 d2] 85 (0, 0))).cell? ⟨w.heap.size + 1, 2, none⟩ = some (.string k) := by rw [cell_of_row _ _ _ _ _ _ HF7.out]; rfl
    have hc19 : ((w.alloc (.cells #[.string i, .string f, .string g, .slice A n c, .slice B m d] 85 (0, 0))).alloc (.cells #[.string j, .string h, .string k, .slice A2 n2 c2, .slice B2 m2 d2] 85 (0, 0))).cell? ⟨w.heap.size + 1, 3, none⟩ = some (.slice A2 n2 c2) := by rw [cell_of_row _ _ _ _ _ _ HF7.out]; rfl
    have hc20 : ((w.alloc (.cells #[.string i, .string f, .string g, .slice A n c, .slice B m d] 85 (0, 0))).alloc (.cells #[.string j, .string h, .string k, .slice A2 n2 c2, .slice B2 m2 d2] 85 (0, 0))).cell? ⟨w.heap.size + 1, 4, none⟩ = some (.slice B2 m2 d2) := by rw [cell_of_row _ _ _ _ _ _ HF7.out]; rfl
    go_wp2_with fail
    clear hc11 hc12 hc13 hc14 hc15 hc16 hc17 hc18 hc19 hc20
    go_ret
    exact ⟨retBo HR.out, HB8.out⟩
  | true =>
    cases qf : (f.toList == h.toList) with
    | false =>
      have HR := Lib.hid (show false = sameE i f g j h k ss tt ps qs by unfold sameE eqB; rw [qi]; rw [qf]; simp)
      have HB1 := Lib.hid (Below.refl w.heap.size w)
      go_enter Try.func127, Try.ntmps127
      have HF2 := Lib.hid (blk_new w (.cells #[.string i, .string f, .string g, .slice A n c, .slice B m d] 85 (0, 0)))
      have HB3 := Lib.hid (HB1.out.alloc HB1.out.size (.cells #[.string i, .string f, .string g, .slice A n c, .slice B m d] 85 (0, 0)))
      clear HB1
      have HQ4 := Lib.hid (H.out.below ((Below.refl _ w).alloc (Nat.le_refl _) (.cells #[.string i, .string f, .string g, .slice A n c, .slice B m d] 85 (0, 0))))
      clear H
      have HQ5 := Lib.hid (H2.out.below ((Below.refl _ w).alloc (Nat.le_refl _) (.cells #[.string i, .string f, .string g, .slice A n c, .slice B m d] 85 (0, 0))))
      clear H2
      have HF6 := Lib.hid (blk_alloc HF2.out (.cells #[.string j, .string h, .string k, .slice A2 n2 c2, .slice B2 m2 d2] 85 (0, 0)))
      clear HF2
      have HF7 : Hid (((w.alloc (.cells #[.string i, .string f, .string g, .slice A n c, .slice B m d] 85 (0, 0))).alloc (.cells #[.string j, .string h, .string k, .slice A2 n2 c2, .slice B2 m2 d2] 85 (0, 0))).heap[w.heap.size + 1]? = some (.cells #[.string j, .string h, .string k, .slice A2 n2 c2, .slice B2 m2 d2] 85 (0, 0))) := Lib.hid (blk_newN (W := (w.alloc (.cells #[.string i, .string f, .string g, .slice A n c, .slice B m d] 85 (0, 0)))) (o := (.cells #[.string j, .string h, .string k, .slice A2 n2 c2, .slice B2 m2 d2] 85 (0, 0))) (by simp))
      have HB8 := Lib.hid (HB3.out.alloc (by have := HB3.out.size; simp at this ⊢ <;> omega) (.cells #[.string j, .string h, .string k, .slice A2 n2 c2, .slice B2 m2 d2] 85 (0, 0)))
      clear HB3
      have HQ9 := Lib.hid (HQ4.out.below ((Below.refl _ (w.alloc (.cells #[.string i, .string f, .string g, .slice A n c, .slice B m d] 85 (0, 0)))).alloc (Nat.le_refl _) (.cells #[.string j, .string h, .string k, .slice A2 n2 c2, .slice B2 m2 d2] 85 (0, 0))))
      clear HQ4
      have HQ10 := Lib.hid (HQ5.out.below ((Below.refl _ (w.alloc (.cells #[.string i, .string f, .string g, .slice A n c, .slice B m d] 85 (0, 0)))).alloc (Nat.le_refl _) (.cells #[.string j, .string h, .string k, .slice A2 n2 c2, .slice B2 m2 d2] 85 (0, 0))))
      clear HQ5
      have hc11 : ((w.alloc (.cells #[.string i, .string f, .string g, .slice A n c, .slice B m d] 85 (0, 0))).alloc (.cells #[.string j, .string h, .string k, .slice A2 n2 c2, .slice B2 m2 d2] 85 (0, 0))).cell? ⟨w.heap.size, 0, none⟩ = some (.string i) := by rw [cell_of_row _ _ _ _ _ _ HF6.out]; rfl
      have hc12 : ((w.alloc (.cells #[.string i, .string f, .string g, .slice A n c, .slice B m d] 85 (0, 0))).alloc (.cells #[.string j, .string h, .string k, .slice A2 n2 c2, .slice B2 m2 d2] 85 (0, 0))).cell? ⟨w.heap.size, 1, none⟩ = some (.string f) := by rw [cell_of_row _ _ _ _ _ _ HF6.out]; rfl
      have hc13 : ((w.alloc (.cells #[.string i, .string f, .string g, .slice A n c, .slice B m d] 85 (0, 0))).alloc (.cells #[.string j, .string h, .string k, .slice A2 n2 c2, .slice B2 m2 d2] 85 (0, 0))).cell? ⟨w.heap.size, 2, none⟩ = some (.string g) := by rw [cell_of_row _ _ _ _ _ _ HF6.out]; rfl
      have hc14 : ((w.alloc (.cells #[.string i, .string f, .string g, .slice A n c, .slice B m d] 85 (0, 0))).alloc (.cells #[.string j, .string h, .string k, .slice A2 n2 c2, .slice B2 m2 d2] 85 (0, 0))).cell? ⟨w.heap.size, 3, none⟩ = some (.slice A n c) := by rw [cell_of_row _ _ _ _ _ _ HF6.out]; rfl
      have hc15 : ((w.alloc (.cells #[.string i, .string f, .string g, .slice A n c, .slice B m d] 85 (0, 0))).alloc (.cells #[.string j, .string h, .string k, .slice A2 n2 c2, .slice B2 m2 d2] 85 (0, 0))).cell? ⟨w.heap.size, 4, none⟩ = some (.slice B m d) := by rw [cell_of_row _ _ _ _ _ _ HF6.out]; rfl
      have hc16 : ((w.alloc (.cells #[.string i, .string f, .string g, .slice A n c, .slice B m d] 85 (0, 0))).alloc (.cells #[.string j, .string h, .string k, .slice A2 n2 c2, .slice B2 m2 d2] 85 (0, 0))).cell? ⟨w.heap.size + 1, 0, none⟩ = some (.string j) := by rw [cell_of_row _ _ _ _ _ _ HF7.out]; rfl
      have hc17 : ((w.alloc (.cells #[.string i, .string f, .string g, .slice A n c, .slice B m d] 85 (0, 0))).alloc (.cells #[.string j, .string h, .string k, .slice A2 n2 c2, .slice B2 m2 d2] 85 (0, 0))).cell? ⟨w.heap.size + 1, 1, none⟩ = some (.string h) := by rw [cell_of_row _ _ _ _ _ _ HF7.out]; rfl
      have hc18 : ((w.alloc (.cells #[.string i, .string f, .string g, .slice A n c, .slice B m d] 85 (0, 0))).alloc (.cells #[.string j, .string h, .string k, .slice A2 n2 c2, .slice B2 m2 d2] 85 (0, 0))).cell? ⟨w.heap.size + 1, 2, none⟩ = some (.string k) := by rw [cell_of_row _ _ _ _ _ _ HF7.out]; rfl
      have hc19 : ((w.alloc (.cells #[.string i, .string f, .string g, .slice A n c, .slice B m d] 85 (0, 0))).alloc (.cells #[.string j, .string h, .string k, .slice A2 n2 c2, .slice B2 m2 d2] 85 (0, 0))).cell? ⟨w.heap.size + 1, 3, none⟩ = some (.slice A2 n2 c2) := by rw [cell_of_row _ _ _ _ _ _ HF7.out]; rfl
      have hc20 : ((w.alloc (.cells #[.string i, .string f, .string g, .slice A n c, .slice B m d] 85 (0, 0))).alloc (.cells #[.string j, .string h, .string k, .slice A2 n2 c2, .slice B2 m2 d2] 85 (0, 0))).cell? ⟨w.heap.size + 1, 4, none⟩ = some (.slice B2 m2 d2) := by rw [cell_of_row _ _ _ _ _ _ HF7.out]; rfl
      go_wp2_with fail
      clear hc11 hc12 hc13 hc14 hc15 hc16 hc17 hc18 hc19 hc20
      go_ret
      exact ⟨retBo HR.out, HB8.out⟩
    | true =>
      cases qg : (g.toList == k.toList) with
      | false =>
        have HR := Lib.hid (show false = sameE i f g j h k ss tt ps qs by unfold sameE eqB; rw [qi]; rw [qf]; rw [qg]; simp)
        have HB1 := Lib.hid (Below.refl w.heap.size w)
        go_enter Try.func127, Try.ntmps127
        have HF2 := Lib.hid (blk_new w (.cells #[.string i, .string f, .string g, .slice A n c, .slice B m d] 85 (0, 0)))
        have HB3 := Lib.hid (HB1.out.alloc HB1.out.size (.cells #[.string i, .string f, .string g, .slice A n c, .slice B m d] 85 (0, 0)))
        clear HB1
        have HQ4 := Lib.hid (H.out.below ((Below.refl _ w).alloc (Nat.le_refl _) (.cells #[.string i, .string f, .string g, .slice A n c, .slice B m d] 85 (0, 0))))
        clear H
        have HQ5 := Lib.hid (H2.out.below ((Below.refl _ w).alloc (Nat.le_refl _) (.cells #[.string i, .string f, .string g, .slice A n c, .slice B m d] 85 (0, 0))))
        clear H2
        have HF6 := Lib.hid (blk_alloc HF2.out (.cells #[.string j, .string h, .string k, .slice A2 n2 c2, .slice B2 m2 d2] 85 (0, 0)))
        clear HF2
        have HF7 : Hid (((w.alloc (.cells #[.string i, .string f, .string g, .slice A n c, .slice B m d] 85 (0, 0))).alloc (.cells #[.string j, .string h, .string k, .slice A2 n2 c2, .slice B2 m2 d2] 85 (0, 0))).heap[w.heap.size + 1]? = some (.cells #[.string j, .string h, .string k, .slice A2 n2 c2, .slice B2 m2 d2] 85 (0, 0))) := Lib.hid (blk_newN (W := (w.alloc (.cells #[.string i, .string f, .string g, .slice A n c, .slice B m d] 85 (0, 0)))) (o := (.cells #[.string j, .string h, .string k, .slice A2 n2 c2, .slice B2 m2 d2] 85 (0, 0))) (by simp))
        have HB8 := Lib.hid (HB3.out.alloc (by have := HB3.out.size; simp at this ⊢ <;> omega) (.cells #[.string j, .string h, .string k, .slice A2 n2 c2, .slice B2 m2 d2] 85 (0, 0)))
        clear HB3
        have HQ9 := Lib.hid (HQ4.out.below ((Below.refl _ (w.alloc (.cells #[.string i, .string f, .string g, .slice A n c, .slice B m d] 85 (0, 0)))).alloc (Nat.le_refl _) (.cells #[.string j, .string h, .string k, .slice A2 n2 c2, .slice B2 m2 d2] 85 (0, 0))))
        clear HQ4
        have HQ10 := Lib.hid (HQ5.out.below ((Below.refl _ (w.alloc (.cells #[.string i, .string f, .string g, .slice A n c, .slice B m d] 85 (0, 0)))).alloc (Nat.le_refl _) (.cells #[.string j, .string h, .string k, .slice A2 n2 c2, .slice B2 m2 d2] 85 (0, 0))))
        clear HQ5
        have hc11 : ((w.alloc (.cells #[.string i, .string f, .string g, .slice A n c, .slice B m d] 85 (0, 0))).alloc (.cells #[.string j, .string h, .string k, .slice A2 n2 c2, .slice B2 m2 d2] 85 (0, 0))).cell? ⟨w.heap.size, 0, none⟩ = some (.string i) := by rw [cell_of_row _ _ _ _ _ _ HF6.out]; rfl
        have hc12 : ((w.alloc (.cells #[.string i, .string f, .string g, .slice A n c, .slice B m d] 85 (0, 0))).alloc (.cells #[.string j, .string h, .string k, .slice A2 n2 c2, .slice B2 m2 d2] 85 (0, 0))).cell? ⟨w.heap.size, 1, none⟩ = some (.string f) := by rw [cell_of_row _ _ _ _ _ _ HF6.out]; rfl
        have hc13 : ((w.alloc (.cells #[.string i, .string f, .string g, .slice A n c, .slice B m d] 85 (0, 0))).alloc (.cells #[.string j, .string h, .string k, .slice A2 n2 c2, .slice B2 m2 d2] 85 (0, 0))).cell? ⟨w.heap.size, 2, none⟩ = some (.string g) := by rw [cell_of_row _ _ _ _ _ _ HF6.out]; rfl
        have hc14 : ((w.alloc (.cells #[.string i, .string f, .string g, .slice A n c, .slice B m d] 85 (0, 0))).alloc (.cells #[.string j, .string h, .string k, .slice A2 n2 c2, .slice B2 m2 d2] 85 (0, 0))).cell? ⟨w.heap.size, 3, none⟩ = some (.slice A n c) := by rw [cell_of_row _ _ _ _ _ _ HF6.out]; rfl
        have hc15 : ((w.alloc (.cells #[.string i, .string f, .string g, .slice A n c, .slice B m d] 85 (0, 0))).alloc (.cells #[.string j, .string h, .string k, .slice A2 n2 c2, .slice B2 m2 d2] 85 (0, 0))).cell? ⟨w.heap.size, 4, none⟩ = some (.slice B m d) := by rw [cell_of_row _ _ _ _ _ _ HF6.out]; rfl
        have hc16 : ((w.alloc (.cells #[.string i, .string f, .string g, .slice A n c, .slice B m d] 85 (0, 0))).alloc (.cells #[.string j, .string h, .string k, .slice A2 n2 c2, .slice B2 m2 d2] 85 (0, 0))).cell? ⟨w.heap.size + 1, 0, none⟩ = some (.string j) := by rw [cell_of_row _ _ _ _ _ _ HF7.out]; rfl
        have hc17 : ((w.alloc (.cells #[.string i, .string f, .string g, .slice A n c, .slice B m d] 85 (0, 0))).alloc (.cells #[.string j, .string h, .string k, .slice A2 n2 c2, .slice B2 m2 d2] 85 (0, 0))).cell? ⟨w.heap.size + 1, 1, none⟩ = some (.string h) := by rw [cell_of_row _ _ _ _ _ _ HF7.out]; rfl
        have hc18 : ((w.alloc (.cells #[.string i, .string f, .string g, .slice A n c, .slice B m d] 85 (0, 0))).alloc (.cells #[.string j, .string h, .string k, .slice A2 n2 c2, .slice B2 m2 d2] 85 (0, 0))).cell? ⟨w.heap.size + 1, 2, none⟩ = some (.string k) := by rw [cell_of_row _ _ _ _ _ _ HF7.out]; rfl
        have hc19 : ((w.alloc (.cells #[.string i, .string f, .string g, .slice A n c, .slice B m d] 85 (0, 0))).alloc (.cells #[.string j, .string h, .string k, .slice A2 n2 c2, .slice B2 m2 d2] 85 (0, 0))).cell? ⟨w.heap.size + 1, 3, none⟩ = some (.slice A2 n2 c2) := by rw [cell_of_row _ _ _ _ _ _ HF7.out]; rfl
        have hc20 : ((w.alloc (.cells #[.string i, .string f, .string g, .slice A n c, .slice B m d] 85 (0, 0))).alloc (.cells #[.string j, .string h, .string k, .slice A2 n2 c2, .slice B2 m2 d2] 85 (0, 0))).cell? ⟨w.heap.size + 1, 4, none⟩ = some (.slice B2 m2 d2) := by rw [cell_of_row _ _ _ _ _ _ HF7.out]; rfl
        go_wp2_with fail
        clear hc11 hc12 hc13 hc14 hc15 hc16 hc17 hc18 hc19 hc20
        go_ret
        exact ⟨retBo HR.out, HB8.out⟩
      | true =>
        have HV := Lib.hid (show (sameT ss tt && sameP ps qs) = sameE i f g j h k ss tt ps qs by unfold sameE eqB; rw [qi]; rw [qf]; rw [qg]; simp)
        have HB1 := Lib.hid (Below.refl w.heap.size w)
        go_enter Try.func127, Try.ntmps127
        have HF2 := Lib.hid (blk_new w (.cells #[.string i, .string f, .string g, .slice A n c, .slice B m d] 85 (0, 0)))
        have HB3 := Lib.hid (HB1.out.alloc HB1.out.size (.cells #[.string i, .string f, .string g, .slice A n c, .slice B m d] 85 (0, 0)))
        clear HB1
        have HQ4 := Lib.hid (H.out.below ((Below.refl _ w).alloc (Nat.le_refl _) (.cells #[.string i, .string f, .string g, .slice A n c, .slice B m d] 85 (0, 0))))
        clear H
        have HQ5 := Lib.hid (H2.out.below ((Below.refl _ w).alloc (Nat.le_refl _) (.cells #[.string i, .string f, .string g, .slice A n c, .slice B m d] 85 (0, 0))))
        clear H2
        have HF6 := Lib.hid (blk_alloc HF2.out (.cells #[.string j, .string h, .string k, .slice A2 n2 c2, .slice B2 m2 d2] 85 (0, 0)))
        clear HF2
        have HF7 : Hid (((w.alloc (.cells #[.string i, .string f, .string g, .slice A n c, .slice B m d] 85 (0, 0))).alloc (.cells #[.string j, .string h, .string k, .slice A2 n2 c2, .slice B2 m2 d2] 85 (0, 0))).heap[w.heap.size + 1]? = some (.cells #[.string j, .string h, .string k, .slice A2 n2 c2, .slice B2 m2 d2] 85 (0, 0))) := Lib.hid (blk_newN (W := (w.alloc (.cells #[.string i, .string f, .string g, .slice A n c, .slice B m d] 85 (0, 0)))) (o := (.cells #[.string j, .string h, .string k, .slice A2 n2 c2, .slice B2 m2 d2] 85 (0, 0))) (by simp))
        have HB8 := Lib.hid (HB3.out.alloc (by have := HB3.out.size; simp at this ⊢ <;> omega) (.cells #[.string j, .string h, .string k, .slice A2 n2 c2, .slice B2 m2 d2] 85 (0, 0)))
        clear HB3
        have HQ9 := Lib.hid (HQ4.out.below ((Below.refl _ (w.alloc (.cells #[.string i, .string f, .string g, .slice A n c, .slice B m d] 85 (0, 0)))).alloc (Nat.le_refl _) (.cells #[.string j, .string h, .string k, .slice A2 n2 c2, .slice B2 m2 d2] 85 (0, 0))))
        clear HQ4
        have HQ10 := Lib.hid (HQ5.out.below ((Below.refl _ (w.alloc (.cells #[.string i, .string f, .string g, .slice A n c, .slice B m d] 85 (0, 0)))).alloc (Nat.le_refl _) (.cells #[.string j, .string h, .string k, .slice A2 n2 c2, .slice B2 m2 d2] 85 (0, 0))))
        clear HQ5
        have hc11 : ((w.alloc (.cells #[.string i, .string f, .string g, .slice A n c, .slice B m d] 85 (0, 0))).alloc (.cells #[.string j, .string h, .string k, .slice A2 n2 c2, .slice B2 m2 d2] 85 (0, 0))).cell? ⟨w.heap.size, 0, none⟩ = some (.string i) := by rw [cell_of_row _ _ _ _ _ _ HF6.out]; rfl
        have hc12 : ((w.alloc (.cells #[.string i, .string f, .string g, .slice A n c, .slice B m d] 85 (0, 0))).alloc (.cells #[.string j, .string h, .string k, .slice A2 n2 c2, .slice B2 m2 d2] 85 (0, 0))).cell? ⟨w.heap.size, 1, none⟩ = some (.string f) := by rw [cell_of_row _ _ _ _ _ _ HF6.out]; rfl
        have hc13 : ((w.alloc (.cells #[.string i, .string f, .string g, .slice A n c, .slice B m d] 85 (0, 0))).alloc (.cells #[.string j, .string h, .string k, .slice A2 n2 c2, .slice B2 m2 d2] 85 (0, 0))).cell? ⟨w.heap.size, 2, none⟩ = some (.string g) := by rw [cell_of_row _ _ _ _ _ _ HF6.out]; rfl
        have hc14 : ((w.alloc (.cells #[.string i, .string f, .string g, .slice A n c, .slice B m d] 85 (0, 0))).alloc (.cells #[.string j, .string h, .string k, .slice A2 n2 c2, .slice B2 m2 d2] 85 (0, 0))).cell? ⟨w.heap.size, 3, none⟩ = some (.slice A n c) := by rw [cell_of_row _ _ _ _ _ _ HF6.out]; rfl
        have hc15 : ((w.alloc (.cells #[.string i, .string f, .string g, .slice A n c, .slice B m d] 85 (0, 0))).alloc (.cells #[.string j, .string h, .string k, .slice A2 n2 c2, .slice B2 m2 d2] 85 (0, 0))).cell? ⟨w.heap.size, 4, none⟩ = some (.slice B m d) := by rw [cell_of_row _ _ _ _ _ _ HF6.out]; rfl
        have hc16 : ((w.alloc (.cells #[.string i, .string f, .string g, .slice A n c, .slice B m d] 85 (0, 0))).alloc (.cells #[.string j, .string h, .string k, .slice A2 n2 c2, .slice B2 m2 d2] 85 (0, 0))).cell? ⟨w.heap.size + 1, 0, none⟩ = some (.string j) := by rw [cell_of_row _ _ _ _ _ _ HF7.out]; rfl
        have hc17 : ((w.alloc (.cells #[.string i, .string f, .string g, .slice A n c, .slice B m d] 85 (0, 0))).alloc (.cells #[.string j, .string h, .string k, .slice A2 n2 c2, .slice B2 m2 d2] 85 (0, 0))).cell? ⟨w.heap.size + 1, 1, none⟩ = some (.string h) := by rw [cell_of_row _ _ _ _ _ _ HF7.out]; rfl
        have hc18 : ((w.alloc (.cells #[.string i, .string f, .string g, .slice A n c, .slice B m d] 85 (0, 0))).alloc (.cells #[.string j, .string h, .string k, .slice A2 n2 c2, .slice B2 m2 d2] 85 (0, 0))).cell? ⟨w.heap.size + 1, 2, none⟩ = some (.string k) := by rw [cell_of_row _ _ _ _ _ _ HF7.out]; rfl
        have hc19 : ((w.alloc (.cells #[.string i, .string f, .string g, .slice A n c, .slice B m d] 85 (0, 0))).alloc (.cells #[.string j, .string h, .string k, .slice A2 n2 c2, .slice B2 m2 d2] 85 (0, 0))).cell? ⟨w.heap.size + 1, 3, none⟩ = some (.slice A2 n2 c2) := by rw [cell_of_row _ _ _ _ _ _ HF7.out]; rfl
        have hc20 : ((w.alloc (.cells #[.string i, .string f, .string g, .slice A n c, .slice B m d] 85 (0, 0))).alloc (.cells #[.string j, .string h, .string k, .slice A2 n2 c2, .slice B2 m2 d2] 85 (0, 0))).cell? ⟨w.heap.size + 1, 4, none⟩ = some (.slice B2 m2 d2) := by rw [cell_of_row _ _ _ _ _ _ HF7.out]; rfl
        go_wp2_with fail
        clear hc11 hc12 hc13 hc14 hc15 hc16 hc17 hc18 hc19 hc20
        refine (sparts_any A A2 B B2 n n2 c c2 m m2 d d2 ss tt ps qs ((w.alloc (.cells #[.string i, .string f, .string g, .slice A n c, .slice B m d] 85 (0, 0))).alloc (.cells #[.string j, .string h, .string k, .slice A2 n2 c2, .slice B2 m2 d2] 85 (0, 0))) HQ9.out HQ10.out hn hm).mono ?_
        rintro e w1 ⟨rfl, hb1⟩
        have HF21 := Lib.hid (blk_below HF6.out hb1)
        have HF22 := Lib.hid (blk_below HF7.out hb1)
        have HB23 := Lib.hid (HB8.out.trans (hb1.mono HB8.out.size))
        have HQ24 := Lib.hid (HQ9.out.below hb1)
        clear HQ9
        have HQ25 := Lib.hid (HQ10.out.below hb1)
        clear HQ10
        clear hb1 HB8 HF6 HF7
        generalize (sameT ss tt && sameP ps qs) = r at *
        go_wp2_with fail
        go_ret
        exact ⟨retBo HV.out, HB23.out⟩
end Go.Proofs.Ytbjngbacnkmjhaa
namespace Go.Proofs.Ytbjngbacnkmjhaa
open Go.RowKit Vi

set_option maxRecDepth 100000 in
set_option maxHeartbeats 4000000 in
theorem eqfn_any (A A2 B B2 : Option Addr) (n n2 m m2 c d : Nat) (X X' : List Nd) (Y Y' : List Ed) (w : World) (h : GrIs w A n A2 n2 X Y) (h2 : GrIs w B m B2 m2 X' Y') (hn : n ≤ 1000000) (hx : ndSm X) :
    Calls Try.prog 124 #[.slice A n c, .slice B m d, .func (.func 125) #[] #[]] w fun e w' => e = .returned (.bool (decide (X.length = X'.length) && sameNs X X')) ∧ Below w.heap.size w w' := by
  have H := Lib.hid h
  have H2 := Lib.hid h2
  have HX := Lib.hid hx
  have HL := Lib.hid h.nl
  have HL2 := Lib.hid h2.nl
  clear h h2 hx
  by_cases e1 : n = m
  rotate_left
  · have HR := Lib.hid (show false = (decide (X.length = X'.length) && sameNs X X') by rw [decide_eq_false (show ¬ X.length = X'.length by have := HL.out; have := HL2.out; omega)]; rfl)
    have q1 : ((n : Int) != (m : Int)) = true := by simp; omega
    generalize (decide (X.length = X'.length) && sameNs X X') = r at HR ⊢
    clear e1
    go_enter Try.func124, Try.ntmps124
    go_wp2_with fail
    go_ret
    exact ⟨retBo HR.out, Below.refl _ _⟩
  subst e1
  have HV := Lib.hid (show sameNs X X' = (decide (X.length = X'.length) && sameNs X X') by rw [decide_eq_true (show X.length = X'.length by have := HL.out; have := HL2.out; omega)]; simp)
  generalize (decide (X.length = X'.length) && sameNs X X') = r at HV ⊢
  go_enter Try.func124, Try.ntmps124
  go_wp2_with fail
  go_loopw [17] (fun i wr => ∃ k : Nat, i = .int .i64 (k : Int) ∧ k ≤ n ∧ Hid (sameNs (X.drop k) (X'.drop k) = sameNs X X') ∧ Below w.heap.size w wr) (fun i _ => n - (intOf i).toNat)
  case atStart => exact ⟨0, rfl, Nat.zero_le _, Lib.hid rfl, Below.refl _ _⟩
  case round =>
    obtain ⟨k, rfl, hk, HI, hb⟩ := hrel
    have HB := Lib.hid hb
    clear hb
    by_cases hlt : k < n
    · have hd1 : decide ((k : Int) < (n : Int)) = true := decide_eq_true (by omega)
      have hi0 : (0 : Int) ≤ (k : Int) := by omega
      have hkl : k < X.length := by have := HL.out.1; omega
      have hkl2 : k < X'.length := by have := HL2.out.1; omega
      obtain ⟨x, hxx⟩ : ∃ x, x = X[k] := ⟨_, rfl⟩
      have HK := Lib.hid (show X[k]? = some x by rw [List.getElem?_eq_getElem hkl, hxx])
      have hsm := HX.out x (by rw [hxx]; exact List.getElem_mem hkl)
      clear hxx
      obtain ⟨y, hyy⟩ : ∃ y, y = X'[k] := ⟨_, rfl⟩
      have HK2 := Lib.hid (show X'[k]? = some y by rw [List.getElem?_eq_getElem hkl2, hyy])
      clear hyy
      have HST := Lib.hid (show sameNs (X.drop k) (X'.drop k) = (sameN x.1 y.1 x.2.1 y.2.1 x.2.2 y.2.2 && sameNs (X.drop (k + 1)) (X'.drop (k + 1))) by rw [drop_at2 HK.out, drop_at2 HK2.out]; rfl)
      obtain ⟨b1, o1, L1, q1, r1, M1, rfl, x0, x1, x2, hp1⟩ := (H.out.below HB.out).node hlt HK.out
      obtain ⟨i, ss, ps⟩ := x
      obtain ⟨j, tt, qs⟩ := y
      dsimp only at x0 x1 x2 hp1 hsm HST
      have HBq := Lib.hid (HB.out.alloc HB.out.size (.cells #[.string i, .slice L1 ss.length q1, .slice M1 ps.length r1] 81 (0, 0)))
      obtain ⟨b2, o2, L2, q2, r2, M2, rfl, y0, y1, y2, hp2⟩ := (H2.out.below HBq.out).node hlt HK2.out
      dsimp only at y0 y1 y2 hp2
      have HC := Lib.hid (fun (W : World) (g1 : LP W L1 ss.length ss M1 ps.length ps) (g3 : LP W L2 tt.length tt M2 qs.length qs) => gsnode_any i j L1 L2 M1 M2 ss.length tt.length q1 q2 ps.length qs.length r1 r2 ss tt ps qs W g1 g3 (by omega) (by omega))
      generalize sameN i j ss tt ps qs = rb at HC HST
      have HP1 := Lib.hid hp1
      have HP2 := Lib.hid hp2
      clear hp1 hp2 hsm HBq
      generalize ss.length = ns at *
      generalize ps.length = np at *
      generalize tt.length = nt at *
      generalize qs.length = nq at *
      have HB0 := Lib.hid (Below.refl wr.heap.size wr)
      have HF101 := Lib.hid (blk_new wr (.cells #[.string i, .slice L1 ns q1, .slice M1 np r1] 81 (0, 0)))
      have HB102 := Lib.hid (HB0.out.alloc HB0.out.size (.cells #[.string i, .slice L1 ns q1, .slice M1 np r1] 81 (0, 0)))
      clear HB0
      have HPA := Lib.hid (HP1.out.below HB102.out)
      have HF103 := Lib.hid (blk_alloc HF101.out (.cells #[.string j, .slice L2 nt q2, .slice M2 nq r2] 81 (0, 0)))
      clear HF101
      have HF104 : Hid (((wr.alloc (.cells #[.string i, .slice L1 ns q1, .slice M1 np r1] 81 (0, 0))).alloc (.cells #[.string j, .slice L2 nt q2, .slice M2 nq r2] 81 (0, 0))).heap[wr.heap.size + 1]? = some (.cells #[.string j, .slice L2 nt q2, .slice M2 nq r2] 81 (0, 0))) := Lib.hid (blk_newN (W := (wr.alloc (.cells #[.string i, .slice L1 ns q1, .slice M1 np r1] 81 (0, 0)))) (o := (.cells #[.string j, .slice L2 nt q2, .slice M2 nq r2] 81 (0, 0))) (by simp))
      have HB105 := Lib.hid (HB102.out.alloc (by have := HB102.out.size; simp at this ⊢ <;> omega) (.cells #[.string j, .slice L2 nt q2, .slice M2 nq r2] 81 (0, 0)))
      clear HB102
      have HPB := Lib.hid (HPA.out.below ((Below.refl _ (wr.alloc (.cells #[.string i, .slice L1 ns q1, .slice M1 np r1] 81 (0, 0)))).alloc (Nat.le_refl _) (.cells #[.string j, .slice L2 nt q2, .slice M2 nq r2] 81 (0, 0))))
      have HPC := Lib.hid (HP2.out.below ((Below.refl _ (wr.alloc (.cells #[.string i, .slice L1 ns q1, .slice M1 np r1] 81 (0, 0)))).alloc (Nat.le_refl _) (.cells #[.string j, .slice L2 nt q2, .slice M2 nq r2] 81 (0, 0))))
      have hc106 : ((wr.alloc (.cells #[.string i, .slice L1 ns q1, .slice M1 np r1] 81 (0, 0))).alloc (.cells #[.string j, .slice L2 nt q2, .slice M2 nq r2] 81 (0, 0))).cell? ⟨wr.heap.size, 0, none⟩ = some (.string i) := by rw [cell_of_row _ _ _ _ _ _ HF103.out]; rfl
      have hc107 : ((wr.alloc (.cells #[.string i, .slice L1 ns q1, .slice M1 np r1] 81 (0, 0))).alloc (.cells #[.string j, .slice L2 nt q2, .slice M2 nq r2] 81 (0, 0))).cell? ⟨wr.heap.size, 1, none⟩ = some (.slice L1 ns q1) := by rw [cell_of_row _ _ _ _ _ _ HF103.out]; rfl
      have hc108 : ((wr.alloc (.cells #[.string i, .slice L1 ns q1, .slice M1 np r1] 81 (0, 0))).alloc (.cells #[.string j, .slice L2 nt q2, .slice M2 nq r2] 81 (0, 0))).cell? ⟨wr.heap.size, 2, none⟩ = some (.slice M1 np r1) := by rw [cell_of_row _ _ _ _ _ _ HF103.out]; rfl
      have hc109 : ((wr.alloc (.cells #[.string i, .slice L1 ns q1, .slice M1 np r1] 81 (0, 0))).alloc (.cells #[.string j, .slice L2 nt q2, .slice M2 nq r2] 81 (0, 0))).cell? ⟨wr.heap.size + 1, 0, none⟩ = some (.string j) := by rw [cell_of_row _ _ _ _ _ _ HF104.out]; rfl
      have hc110 : ((wr.alloc (.cells #[.string i, .slice L1 ns q1, .slice M1 np r1] 81 (0, 0))).alloc (.cells #[.string j, .slice L2 nt q2, .slice M2 nq r2] 81 (0, 0))).cell? ⟨wr.heap.size + 1, 1, none⟩ = some (.slice L2 nt q2) := by rw [cell_of_row _ _ _ _ _ _ HF104.out]; rfl
      have hc111 : ((wr.alloc (.cells #[.string i, .slice L1 ns q1, .slice M1 np r1] 81 (0, 0))).alloc (.cells #[.string j, .slice L2 nt q2, .slice M2 nq r2] 81 (0, 0))).cell? ⟨wr.heap.size + 1, 2, none⟩ = some (.slice M2 nq r2) := by rw [cell_of_row _ _ _ _ _ _ HF104.out]; rfl
      go_wp2_with fail
      clear hc106 hc107 hc108 hc109 hc110 hc111
      clear x0 x1 x2 y0 y1 y2
      refine (HC.out ((wr.alloc (.cells #[.string i, .slice L1 ns q1, .slice M1 np r1] 81 (0, 0))).alloc (.cells #[.string j, .slice L2 nt q2, .slice M2 nq r2] 81 (0, 0))) HPB.out HPC.out).mono ?_
      rintro e w11 ⟨rfl, hb11⟩
      have HF112 := Lib.hid (blk_below HF103.out hb11)
      have HF113 := Lib.hid (blk_below HF104.out hb11)
      have HB114 := Lib.hid (HB105.out.trans (hb11.mono HB105.out.size))
      clear hb11 HB105 HF103 HF104
      have HB2 := Lib.hid (HB.out.trans (HB114.out.mono HB.out.size))
      cases rb with
      | false =>
        have HR := Lib.hid (show false = r by rw [← HV.out, ← HI.out, HST.out]; rfl)
        go_wp2_with fail
        go_ret
        exact ⟨retBo HR.out, HB2.out⟩
      | true =>
        have HJ := Lib.hid (show sameNs (X.drop (k + 1)) (X'.drop (k + 1)) = sameNs X X' by rw [← HI.out, HST.out]; rfl)
        go_wp2_with fail
        go_roundw
        case rel => exact ⟨k + 1, by go_num, by omega, HJ, HB2.out⟩
        case measure => simp [intOf] <;> omega
    · have hd1 : decide ((k : Int) < (n : Int)) = false := decide_eq_false (by omega)
      have HR := Lib.hid (show true = r by rw [← HV.out, ← HI.out, List.drop_eq_nil_of_le (by have := HL.out.1; omega), List.drop_eq_nil_of_le (by have := HL2.out.1; omega)]; rfl)
      go_wp2_with fail
      go_ret
      exact ⟨retBo HR.out, HB.out⟩
set_option maxRecDepth 100000 in
set_option maxHeartbeats 4000000 in
theorem eqfe_any (A A2 B B2 : Option Addr) (n n2 m m2 c2 d2 : Nat) (X X' : List Nd) (Y Y' : List Ed) (w : World) (h : GrIs w A n A2 n2 X Y) (h2 : GrIs w B m B2 m2 X' Y') (hn : n2 ≤ 1000000) (hx : edSm Y) :
    Calls Try.prog 126 #[.slice A2 n2 c2, .slice B2 m2 d2, .func (.func 127) #[] #[]] w fun e w' => e = .returned (.bool (decide (Y.length = Y'.length) && sameEs Y Y')) ∧ Below w.heap.size w w' := by
  have H := Lib.hid h
  have H2 := Lib.hid h2
  have HX := Lib.hid hx
  have HL := Lib.hid h.nl
  have HL2 := Lib.hid h2.nl
  clear h h2 hx
  by_cases e1 : n2 = m2
  rotate_left
  · have HR := Lib.hid (show false = (decide (Y.length = Y'.length) && sameEs Y Y') by rw [decide_eq_false (show ¬ Y.length = Y'.length by have := HL.out; have := HL2.out; omega)]; rfl)
    have q1 : ((n2 : Int) != (m2 : Int)) = true := by simp; omega
    generalize (decide (Y.length = Y'.length) && sameEs Y Y') = r at HR ⊢
    clear e1
    go_enter Try.func126, Try.ntmps126
    go_wp2_with fail
    go_ret
    exact ⟨retBo HR.out, Below.refl _ _⟩
  subst e1
  have HV := Lib.hid (show sameEs Y Y' = (decide (Y.length = Y'.length) && sameEs Y Y') by rw [decide_eq_true (show Y.length = Y'.length by have := HL.out; have := HL2.out; omega)]; simp)
  generalize (decide (Y.length = Y'.length) && sameEs Y Y') = r at HV ⊢
  go_enter Try.func126, Try.ntmps126
  go_wp2_with fail
  go_loopw [17] (fun i wr => ∃ k : Nat, i = .int .i64 (k : Int) ∧ k ≤ n2 ∧ Hid (sameEs (Y.drop k) (Y'.drop k) = sameEs Y Y') ∧ Below w.heap.size w wr) (fun i _ => n2 - (intOf i).toNat)
  case atStart => exact ⟨0, rfl, Nat.zero_le _, Lib.hid rfl, Below.refl _ _⟩
  case round =>
    obtain ⟨k, rfl, hk, HI, hb⟩ := hrel
    have HB := Lib.hid hb
    clear hb
    by_cases hlt : k < n2
    · have hd1 : decide ((k : Int) < (n2 : Int)) = true := decide_eq_true (by omega)
      have hi0 : (0 : Int) ≤ (k : Int) := by omega
      have hkl : k < Y.length := by have := HL.out.2; omega
      have hkl2 : k < Y'.length := by have := HL2.out.2; omega
      obtain ⟨x, hxx⟩ : ∃ x, x = Y[k] := ⟨_, rfl⟩
      have HK := Lib.hid (show Y[k]? = some x by rw [List.getElem?_eq_getElem hkl, hxx])
      have hsm := HX.out x (by rw [hxx]; exact List.getElem_mem hkl)
      clear hxx
      obtain ⟨y, hyy⟩ : ∃ y, y = Y'[k] := ⟨_, rfl⟩
      have HK2 := Lib.hid (show Y'[k]? = some y by rw [List.getElem?_eq_getElem hkl2, hyy])
      clear hyy
      have HST := Lib.hid (show sameEs (Y.drop k) (Y'.drop k) = (sameE x.1 x.2.1 x.2.2.1 y.1 y.2.1 y.2.2.1 x.2.2.2.1 y.2.2.2.1 x.2.2.2.2 y.2.2.2.2 && sameEs (Y.drop (k + 1)) (Y'.drop (k + 1))) by rw [drop_at2 HK.out, drop_at2 HK2.out]; rfl)
      obtain ⟨b1, o1, L1, q1, r1, M1, rfl, x0, x1, x2, x3, x4, hp1⟩ := (H.out.below HB.out).edge hlt HK.out
      obtain ⟨i, f, g, ss, ps⟩ := x
      obtain ⟨j, f2, g2, tt, qs⟩ := y
      dsimp only at x0 x1 x2 x3 x4 hp1 hsm HST
      have HBq := Lib.hid (HB.out.alloc HB.out.size (.cells #[.string i, .string f, .string g, .slice L1 ss.length q1, .slice M1 ps.length r1] 85 (0, 0)))
      obtain ⟨b2, o2, L2, q2, r2, M2, rfl, y0, y1, y2, y3, y4, hp2⟩ := (H2.out.below HBq.out).edge hlt HK2.out
      dsimp only at y0 y1 y2 y3 y4 hp2
      have HC := Lib.hid (fun (W : World) (g1 : LP W L1 ss.length ss M1 ps.length ps) (g3 : LP W L2 tt.length tt M2 qs.length qs) => gsedge_any i f g j f2 g2 L1 L2 M1 M2 ss.length tt.length q1 q2 ps.length qs.length r1 r2 ss tt ps qs W g1 g3 (by omega) (by omega))
      generalize sameE i f g j f2 g2 ss tt ps qs = rb at HC HST
      have HP1 := Lib.hid hp1
      have HP2 := Lib.hid hp2
      clear hp1 hp2 hsm HBq
      generalize ss.length = ns at *
      generalize ps.length = np at *
      generalize tt.length = nt at *
      generalize qs.length = nq at *
      have HB0 := Lib.hid (Below.refl wr.heap.size wr)
      have HF101 := Lib.hid (blk_new wr (.cells #[.string i, .string f, .string g, .slice L1 ns q1, .slice M1 np r1] 85 (0, 0)))
      have HB102 := Lib.hid (HB0.out.alloc HB0.out.size (.cells #[.string i, .string f, .string g, .slice L1 ns q1, .slice M1 np r1] 85 (0, 0)))
      clear HB0
      have HPA := Lib.hid (HP1.out.below HB102.out)
      have HF103 := Lib.hid (blk_alloc HF101.out (.cells #[.string j, .string f2, .string g2, .slice L2 nt q2, .slice M2 nq r2] 85 (0, 0)))
      clear HF101
      have HF104 : Hid (((wr.alloc (.cells #[.string i, .string f, .string g, .slice L1 ns q1, .slice M1 np r1] 85 (0, 0))).alloc (.cells #[.string j, .string f2, .string g2, .slice L2 nt q2, .slice M2 nq r2] 85 (0, 0))).heap[wr.heap.size + 1]? = some (.cells #[.string j, .string f2, .string g2, .slice L2 nt q2, .slice M2 nq r2] 85 (0, 0))) := Lib.hid (blk_newN (W := (wr.alloc (.cells #[.string i, .string f, .string g, .slice L1 ns q1, .slice M1 np r1] 85 (0, 0)))) (o := (.cells #[.string j, .string f2, .string g2, .slice L2 nt q2, .slice M2 nq r2] 85 (0, 0))) (by simp))
      have HB105 := Lib.hid (HB102.out.alloc (by have := HB102.out.size; simp at this ⊢ <;> omega) (.cells #[.string j, .string f2, .string g2, .slice L2 nt q2, .slice M2 nq r2] 85 (0, 0)))
      clear HB102
      have HPB := Lib.hid (HPA.out.below ((Below.refl _ (wr.alloc (.cells #[.string i, .string f, .string g, .slice L1 ns q1, .slice M1 np r1] 85 (0, 0)))).alloc (Nat.le_refl _) (.cells #[.string j, .string f2, .string g2, .slice L2 nt q2, .slice M2 nq r2] 85 (0, 0))))
      have HPC := Lib.hid (HP2.out.below ((Below.refl _ (wr.alloc (.cells #[.string i, .string f, .string g, .slice L1 ns q1, .slice M1 np r1] 85 (0, 0)))).alloc (Nat.le_refl _) (.cells #[.string j, .string f2, .string g2, .slice L2 nt q2, .slice M2 nq r2] 85 (0, 0))))
      have hc106 : ((wr.alloc (.cells #[.string i, .string f, .string g, .slice L1 ns q1, .slice M1 np r1] 85 (0, 0))).alloc (.cells #[.string j, .string f2, .string g2, .slice L2 nt q2, .slice M2 nq r2] 85 (0, 0))).cell? ⟨wr.heap.size, 0, none⟩ = some (.string i) := by rw [cell_of_row _ _ _ _ _ _ HF103.out]; rfl
      have hc107 : ((wr.alloc (.cells #[.string i, .string f, .string g, .slice L1 ns q1, .slice M1 np r1] 85 (0, 0))).alloc (.cells #[.string j, .string f2, .string g2, .slice L2 nt q2, .slice M2 nq r2] 85 (0, 0))).cell? ⟨wr.heap.size, 1, none⟩ = some (.string f) := by rw [cell_of_row _ _ _ _ _ _ HF103.out]; rfl
      have hc108 : ((wr.alloc (.cells #[.string i, .string f, .string g, .slice L1 ns q1, .slice M1 np r1] 85 (0, 0))).alloc (.cells #[.string j, .string f2, .string g2, .slice L2 nt q2, .slice M2 nq r2] 85 (0, 0))).cell? ⟨wr.heap.size, 2, none⟩ = some (.string g) := by rw [cell_of_row _ _ _ _ _ _ HF103.out]; rfl
      have hc109 : ((wr.alloc (.cells #[.string i, .string f, .string g, .slice L1 ns q1, .slice M1 np r1] 85 (0, 0))).alloc (.cells #[.string j, .string f2, .string g2, .slice L2 nt q2, .slice M2 nq r2] 85 (0, 0))).cell? ⟨wr.heap.size, 3, none⟩ = some (.slice L1 ns q1) := by rw [cell_of_row _ _ _ _ _ _ HF103.out]; rfl
      have hc110 : ((wr.alloc (.cells #[.string i, .string f, .string g, .slice L1 ns q1, .slice M1 np r1] 85 (0, 0))).alloc (.cells #[.string j, .string f2, .string g2, .slice L2 nt q2, .slice M2 nq r2] 85 (0, 0))).cell? ⟨wr.heap.size, 4, none⟩ = some (.slice M1 np r1) := by rw [cell_of_row _ _ _ _ _ _ HF103.out]; rfl
      have hc111 : ((wr.alloc (.cells #[.string i, .string f, .string g, .slice L1 ns q1, .slice M1 np r1] 85 (0, 0))).alloc (.cells #[.string j, .string f2, .string g2, .slice L2 nt q2, .slice M2 nq r2] 85 (0, 0))).cell? ⟨wr.heap.size + 1, 0, none⟩ = some (.string j) := by rw [cell_of_row _ _ _ _ _ _ HF104.out]; rfl
      have hc112 : ((wr.alloc (.cells #[.string i, .string f, .string g, .slice L1 ns q1, .slice M1 np r1] 85 (0, 0))).alloc (.cells #[.string j, .string f2, .string g2, .slice L2 nt q2, .slice M2 nq r2] 85 (0, 0))).cell? ⟨wr.heap.size + 1, 1, none⟩ = some (.string f2) := by rw [cell_of_row _ _ _ _ _ _ HF104.out]; rfl
      have hc113 : ((wr.alloc (.cells #[.string i, .string f, .string g, .slice L1 ns q1, .slice M1 np r1] 85 (0, 0))).alloc (.cells #[.string j, .string f2, .string g2, .slice L2 nt q2, .slice M2 nq r2] 85 (0, 0))).cell? ⟨wr.heap.size + 1, 2, none⟩ = some (.string g2) := by rw [cell_of_row _ _ _ _ _ _ HF104.out]; rfl
      have hc114 : ((wr.alloc (.cells #[.string i, .string f, .string g, .slice L1 ns q1, .slice M1 np r1] 85 (0, 0))).alloc (.cells #[.string j, .string f2, .string g2, .slice L2 nt q2, .slice M2 nq r2] 85 (0, 0))).cell? ⟨wr.heap.size + 1, 3, none⟩ = some (.slice L2 nt q2) := by rw [cell_of_row _ _ _ _ _ _ HF104.out]; rfl
      have hc115 : ((wr.alloc (.cells #[.string i, .string f, .string g, .slice L1 ns q1, .slice M1 np r1] 85 (0, 0))).alloc (.cells #[.string j, .string f2, .string g2, .slice L2 nt q2, .slice M2 nq r2] 85 (0, 0))).cell? ⟨wr.heap.size + 1, 4, none⟩ = some (.slice M2 nq r2) := by rw [cell_of_row _ _ _ _ _ _ HF104.out]; rfl
      go_wp2_with fail
      clear hc106 hc107 hc108 hc109 hc110 hc111 hc112 hc113 hc114 hc115
      clear x0 x1 x2 x3 x4 y0 y1 y2 y3 y4
      refine (HC.out ((wr.alloc (.cells #[.string i, .string f, .string g, .slice L1 ns q1, .slice M1 np r1] 85 (0, 0))).alloc (.cells #[.string j, .string f2, .string g2, .slice L2 nt q2, .slice M2 nq r2] 85 (0, 0))) HPB.out HPC.out).mono ?_
      rintro e w11 ⟨rfl, hb11⟩
      have HF116 := Lib.hid (blk_below HF103.out hb11)
      have HF117 := Lib.hid (blk_below HF104.out hb11)
      have HB118 := Lib.hid (HB105.out.trans (hb11.mono HB105.out.size))
      clear hb11 HB105 HF103 HF104
      have HB2 := Lib.hid (HB.out.trans (HB118.out.mono HB.out.size))
      cases rb with
      | false =>
        have HR := Lib.hid (show false = r by rw [← HV.out, ← HI.out, HST.out]; rfl)
        go_wp2_with fail
        go_ret
        exact ⟨retBo HR.out, HB2.out⟩
      | true =>
        have HJ := Lib.hid (show sameEs (Y.drop (k + 1)) (Y'.drop (k + 1)) = sameEs Y Y' by rw [← HI.out, HST.out]; rfl)
        go_wp2_with fail
        go_roundw
        case rel => exact ⟨k + 1, by go_num, by omega, HJ, HB2.out⟩
        case measure => simp [intOf] <;> omega
    · have hd1 : decide ((k : Int) < (n2 : Int)) = false := decide_eq_false (by omega)
      have HR := Lib.hid (show true = r by rw [← HV.out, ← HI.out, List.drop_eq_nil_of_le (by have := HL.out.2; omega), List.drop_eq_nil_of_le (by have := HL2.out.2; omega)]; rfl)
      go_wp2_with fail
      go_ret
      exact ⟨retBo HR.out, HB.out⟩
set_option maxRecDepth 100000 in
set_option maxHeartbeats 4000000 in
theorem gsame_any (A A2 B B2 : Option Addr) (n c n2 c2 m m2 d d2 : Nat) (X X' : List Nd) (Y Y' : List Ed) (w : World) (h : GrIs w A n A2 n2 X Y) (h2 : GrIs w B m B2 m2 X' Y') (hn : n ≤ 1000000) (hn2 : n2 ≤ 1000000) (hx : ndSm X) (hy : edSm Y) :
    Calls Try.prog 42 #[.agg #[.slice A n c, .slice A2 n2 c2], .agg #[.slice B m d, .slice B2 m2 d2]] w fun e w' => e = .returned (.bool (sameG X Y X' Y')) ∧ Below w.heap.size w w' := by
  have H := Lib.hid h
  have H2 := Lib.hid h2
  have HN := Lib.hid (fun (W : World) (q1 : GrIs W A n A2 n2 X Y) (q2 : GrIs W B m B2 m2 X' Y') => eqfn_any A A2 B B2 n n2 m m2 c d X X' Y Y' W q1 q2 hn hx)
  have HE := Lib.hid (fun (W : World) (q1 : GrIs W A n A2 n2 X Y) (q2 : GrIs W B m B2 m2 X' Y') => eqfe_any A A2 B B2 n n2 m m2 c2 d2 X X' Y Y' W q1 q2 hn2 hy)
  have HV : Hid (sameG X Y X' Y' = ((decide (X.length = X'.length) && sameNs X X') && (decide (Y.length = Y'.length) && sameEs Y Y'))) := Lib.hid (by
    unfold sameG
    cases decide (X.length = X'.length) <;> cases decide (Y.length = Y'.length) <;> cases sameNs X X' <;> cases sameEs Y Y' <;> rfl)
  rw [HV.out]
  generalize (decide (X.length = X'.length) && sameNs X X') = r1 at HN HV ⊢
  generalize (decide (Y.length = Y'.length) && sameEs Y Y') = r2 at HE HV ⊢
  clear h h2 hx hy HV
  have HV := Lib.hid (show (r1 && r2) = (r1 && r2) from rfl)
  generalize hr : (r1 && r2) = r3
  rw [hr] at HV
  have HR3 := Lib.hid hr
  clear hr HV
  cases r1 with
  | false =>
    have HB1 := Lib.hid (Below.refl w.heap.size w)
    go_enter Try.func42, Try.ntmps42
    have HF2 := Lib.hid (blk_new w (.cells #[.slice A n c, .slice A2 n2 c2] 65 (0, 0)))
    have HB3 := Lib.hid (HB1.out.alloc HB1.out.size (.cells #[.slice A n c, .slice A2 n2 c2] 65 (0, 0)))
    clear HB1
    have HQ4 := Lib.hid (H.out.below ((Below.refl _ w).alloc (Nat.le_refl _) (.cells #[.slice A n c, .slice A2 n2 c2] 65 (0, 0))))
    clear H
    have HQ5 := Lib.hid (H2.out.below ((Below.refl _ w).alloc (Nat.le_refl _) (.cells #[.slice A n c, .slice A2 n2 c2] 65 (0, 0))))
    clear H2
    have HF6 := Lib.hid (blk_alloc HF2.out (.cells #[.slice B m d, .slice B2 m2 d2] 65 (0, 0)))
    clear HF2
    have HF7 : Hid (((w.alloc (.cells #[.slice A n c, .slice A2 n2 c2] 65 (0, 0))).alloc (.cells #[.slice B m d, .slice B2 m2 d2] 65 (0, 0))).heap[w.heap.size + 1]? = some (.cells #[.slice B m d, .slice B2 m2 d2] 65 (0, 0))) := Lib.hid (blk_newN (W := (w.alloc (.cells #[.slice A n c, .slice A2 n2 c2] 65 (0, 0)))) (o := (.cells #[.slice B m d, .slice B2 m2 d2] 65 (0, 0))) (by simp))
    have HB8 := Lib.hid (HB3.out.alloc (by have := HB3.out.size; simp at this ⊢ <;> omega) (.cells #[.slice B m d, .slice B2 m2 d2] 65 (0, 0)))
    clear HB3
    have HQ9 := Lib.hid (HQ4.out.below ((Below.refl _ (w.alloc (.cells #[.slice A n c, .slice A2 n2 c2] 65 (0, 0)))).alloc (Nat.le_refl _) (.cells #[.slice B m d, .slice B2 m2 d2] 65 (0, 0))))
    clear HQ4
    have HQ10 := Lib.hid (HQ5.out.below ((Below.refl _ (w.alloc (.cells #[.slice A n c, .slice A2 n2 c2] 65 (0, 0)))).alloc (Nat.le_refl _) (.cells #[.slice B m d, .slice B2 m2 d2] 65 (0, 0))))
    clear HQ5
    have hc11 : ((w.alloc (.cells #[.slice A n c, .slice A2 n2 c2] 65 (0, 0))).alloc (.cells #[.slice B m d, .slice B2 m2 d2] 65 (0, 0))).cell? ⟨w.heap.size, 0, none⟩ = some (.slice A n c) := by rw [cell_of_row _ _ _ _ _ _ HF6.out]; rfl
    have hc12 : ((w.alloc (.cells #[.slice A n c, .slice A2 n2 c2] 65 (0, 0))).alloc (.cells #[.slice B m d, .slice B2 m2 d2] 65 (0, 0))).cell? ⟨w.heap.size, 1, none⟩ = some (.slice A2 n2 c2) := by rw [cell_of_row _ _ _ _ _ _ HF6.out]; rfl
    have hc13 : ((w.alloc (.cells #[.slice A n c, .slice A2 n2 c2] 65 (0, 0))).alloc (.cells #[.slice B m d, .slice B2 m2 d2] 65 (0, 0))).cell? ⟨w.heap.size + 1, 0, none⟩ = some (.slice B m d) := by rw [cell_of_row _ _ _ _ _ _ HF7.out]; rfl
    have hc14 : ((w.alloc (.cells #[.slice A n c, .slice A2 n2 c2] 65 (0, 0))).alloc (.cells #[.slice B m d, .slice B2 m2 d2] 65 (0, 0))).cell? ⟨w.heap.size + 1, 1, none⟩ = some (.slice B2 m2 d2) := by rw [cell_of_row _ _ _ _ _ _ HF7.out]; rfl
    go_wp2_with fail
    clear hc11 hc12 hc13 hc14
    refine (HN.out ((w.alloc (.cells #[.slice A n c, .slice A2 n2 c2] 65 (0, 0))).alloc (.cells #[.slice B m d, .slice B2 m2 d2] 65 (0, 0))) HQ9.out HQ10.out).mono ?_
    rintro e w1 ⟨rfl, hb1⟩
    have HF15 := Lib.hid (blk_below HF6.out hb1)
    have HF16 := Lib.hid (blk_below HF7.out hb1)
    have HB17 := Lib.hid (HB8.out.trans (hb1.mono HB8.out.size))
    have HQ18 := Lib.hid (HQ9.out.below hb1)
    clear HQ9
    have HQ19 := Lib.hid (HQ10.out.below hb1)
    clear HQ10
    clear hb1 HB8 HF6 HF7
    go_wp2_with fail
    go_ret
    exact ⟨retBo (by have q := HR3.out; simpa using q), HB17.out⟩
  | true =>
    have HB1 := Lib.hid (Below.refl w.heap.size w)
    go_enter Try.func42, Try.ntmps42
    have HF2 := Lib.hid (blk_new w (.cells #[.slice A n c, .slice A2 n2 c2] 65 (0, 0)))
    have HB3 := Lib.hid (HB1.out.alloc HB1.out.size (.cells #[.slice A n c, .slice A2 n2 c2] 65 (0, 0)))
    clear HB1
    have HQ4 := Lib.hid (H.out.below ((Below.refl _ w).alloc (Nat.le_refl _) (.cells #[.slice A n c, .slice A2 n2 c2] 65 (0, 0))))
    clear H
    have HQ5 := Lib.hid (H2.out.below ((Below.refl _ w).alloc (Nat.le_refl _) (.cells #[.slice A n c, .slice A2 n2 c2] 65 (0, 0))))
    clear H2
    have HF6 := Lib.hid (blk_alloc HF2.out (.cells #[.slice B m d, .slice B2 m2 d2] 65 (0, 0)))
    clear HF2
    have HF7 : Hid (((w.alloc (.cells #[.slice A n c, .slice A2 n2 c2] 65 (0, 0))).alloc (.cells #[.slice B m d, .slice B2 m2 d2] 65 (0, 0))).heap[w.heap.size + 1]? = some (.cells #[.slice B m d, .slice B2 m2 d2] 65 (0, 0))) := Lib.hid (blk_newN (W := (w.alloc (.cells #[.slice A n c, .slice A2 n2 c2] 65 (0, 0)))) (o := (.cells #[.slice B m d, .slice B2 m2 d2] 65 (0, 0))) (by simp))
    have HB8 := Lib.hid (HB3.out.alloc (by have := HB3.out.size; simp at this ⊢ <;> omega) (.cells #[.slice B m d, .slice B2 m2 d2] 65 (0, 0)))
    clear HB3
    have HQ9 := Lib.hid (HQ4.out.below ((Below.refl _ (w.alloc (.cells #[.slice A n c, .slice A2 n2 c2] 65 (0, 0)))).alloc (Nat.le_refl _) (.cells #[.slice B m d, .slice B2 m2 d2] 65 (0, 0))))
    clear HQ4
    have HQ10 := Lib.hid (HQ5.out.below ((Below.refl _ (w.alloc (.cells #[.slice A n c, .slice A2 n2 c2] 65 (0, 0)))).alloc (Nat.le_refl _) (.cells #[.slice B m d, .slice B2 m2 d2] 65 (0, 0))))
    clear HQ5
    have hc11 : ((w.alloc (.cells #[.slice A n c, .slice A2 n2 c2] 65 (0, 0))).alloc (.cells #[.slice B m d, .slice B2 m2 d2] 65 (0, 0))).cell? ⟨w.heap.size, 0, none⟩ = some (.slice A n c) := by rw [cell_of_row _ _ _ _ _ _ HF6.out]; rfl
    have hc12 : ((w.alloc (.cells #[.slice A n c, .slice A2 n2 c2] 65 (0, 0))).alloc (.cells #[.slice B m d, .slice B2 m2 d2] 65 (0, 0))).cell? ⟨w.heap.size, 1, none⟩ = some (.slice A2 n2 c2) := by rw [cell_of_row _ _ _ _ _ _ HF6.out]; rfl
    have hc13 : ((w.alloc (.cells #[.slice A n c, .slice A2 n2 c2] 65 (0, 0))).alloc (.cells #[.slice B m d, .slice B2 m2 d2] 65 (0, 0))).cell? ⟨w.heap.size + 1, 0, none⟩ = some (.slice B m d) := by rw [cell_of_row _ _ _ _ _ _ HF7.out]; rfl
    have hc14 : ((w.alloc (.cells #[.slice A n c, .slice A2 n2 c2] 65 (0, 0))).alloc (.cells #[.slice B m d, .slice B2 m2 d2] 65 (0, 0))).cell? ⟨w.heap.size + 1, 1, none⟩ = some (.slice B2 m2 d2) := by rw [cell_of_row _ _ _ _ _ _ HF7.out]; rfl
    go_wp2_with fail
    clear hc11 hc12 hc13 hc14
    refine (HN.out ((w.alloc (.cells #[.slice A n c, .slice A2 n2 c2] 65 (0, 0))).alloc (.cells #[.slice B m d, .slice B2 m2 d2] 65 (0, 0))) HQ9.out HQ10.out).mono ?_
    rintro e w1 ⟨rfl, hb1⟩
    have HF15 := Lib.hid (blk_below HF6.out hb1)
    have HF16 := Lib.hid (blk_below HF7.out hb1)
    have HB17 := Lib.hid (HB8.out.trans (hb1.mono HB8.out.size))
    have HQ18 := Lib.hid (HQ9.out.below hb1)
    clear HQ9
    have HQ19 := Lib.hid (HQ10.out.below hb1)
    clear HQ10
    clear hb1 HB8 HF6 HF7
    have hc20 : w1.cell? ⟨w.heap.size, 0, none⟩ = some (.slice A n c) := by rw [cell_of_row _ _ _ _ _ _ HF15.out]; rfl
    have hc21 : w1.cell? ⟨w.heap.size, 1, none⟩ = some (.slice A2 n2 c2) := by rw [cell_of_row _ _ _ _ _ _ HF15.out]; rfl
    have hc22 : w1.cell? ⟨w.heap.size + 1, 0, none⟩ = some (.slice B m d) := by rw [cell_of_row _ _ _ _ _ _ HF16.out]; rfl
    have hc23 : w1.cell? ⟨w.heap.size + 1, 1, none⟩ = some (.slice B2 m2 d2) := by rw [cell_of_row _ _ _ _ _ _ HF16.out]; rfl
    go_wp2_with fail
    clear hc20 hc21 hc22 hc23
    refine (HE.out w1 HQ18.out HQ19.out).mono ?_
    rintro e w2 ⟨rfl, hb2⟩
    have HF24 := Lib.hid (blk_below HF15.out hb2)
    have HF25 := Lib.hid (blk_below HF16.out hb2)
    have HB26 := Lib.hid (HB17.out.trans (hb2.mono HB17.out.size))
    have HQ27 := Lib.hid (HQ18.out.below hb2)
    clear HQ18
    have HQ28 := Lib.hid (HQ19.out.below hb2)
    clear HQ19
    clear hb2 HB17 HF15 HF16
    go_wp2_with fail
    go_ret
    exact ⟨retBo (by have q := HR3.out; simpa using q), HB26.out⟩
end Go.Proofs.Ytbjngbacnkmjhaa
