/- Slices of pieces over this translation: the document's Same, addOwn, alike of layer 11. Conditions: pieces fewer than a million, texts of at most three thousand bytes. -/
import Derived.Test.YthndcgaelcilnaaPr
import Derived.Test.YthndcgaelcilnaaDm
import Derived.Deep.QuietTactic
import Derived.BigQuiet
namespace Go.Proofs.Ythndcgaelcilnaa
open Go.RowKit

abbrev Pc := Bool × Int × Int × ByteArray
def pcC (p : Pc) : List Value := [.bool p.1, .int .i64 p.2.1, .int .i64 p.2.2.1, .string p.2.2.2]
theorem pcC_len (p : Pc) : (pcC p).length = 4 := rfl
theorem pcC_one (p : Pc) : ∀ u ∈ pcC p, u.oneCell' = true := by
  intro u hu
  simp [pcC] at hu
  rcases hu with rfl | rfl | rfl | rfl <;> rfl
theorem info_pc : (Try.prog.info? 26).map (fun i => (i.zero, i.size, i.bytes)) = some (some (.agg #[.bool false, .int .i64 0, .int .i64 0, .string ⟨#[]⟩]), 4, 40) := by kernel_rfl
theorem list_ext {a b : ByteArray} (h : a.data.toList = b.data.toList) : a = b := by
  apply ByteArray.ext
  exact Array.ext' h
set_option maxRecDepth 100000 in
theorem run_neq_pc (pc qc : Bool) (pa qa pn qn : Int) (po qo : ByteArray) (h : ¬ (pc = qc ∧ pa = qa ∧ pn = qn ∧ po = qo)) (W : World) :
    (binOp .neq 26 (.agg #[.bool pc, .int .i64 pa, .int .i64 pn, .string po]) (.agg #[.bool qc, .int .i64 qa, .int .i64 qn, .string qo])).run Try.prog W = .ok (.bool true) W := by
  by_cases h1 : pc = qc
  · subst h1
    by_cases h2 : pa = qa
    · subst h2
      by_cases h3 : pn = qn
      · subst h3
        have h4 : (po.toList == qo.toList) = false := by
          rw [beq_eq_false_iff_ne, Lib.toList_data, Lib.toList_data]
          exact fun e => h ⟨rfl, rfl, rfl, list_ext e⟩
        simp [go_sem, h4]
      · have h4 : (pn == qn) = false := by rw [beq_eq_false_iff_ne]; exact h3
        simp [go_sem, h4]
    · have h4 : (pa == qa) = false := by rw [beq_eq_false_iff_ne]; exact h2
      simp [go_sem, h4]
  · have h4 : (pc == qc) = false := by cases pc <;> cases qc <;> simp_all
    simp [go_sem, h4]
set_option maxRecDepth 100000 in
set_option maxHeartbeats 1600000 in
theorem same_any (A1 A2 : Option Addr) (n1 n2 c1 c2 : Nat) (l1 l2 : List Pc) (w : World) (h1 : RdX pcC 4 w A1 n1 l1) (h2 : RdX pcC 4 w A2 n2 l2) (hn : n1 ≤ 1000000) (hn2 : n2 ≤ 1000000) :
    Calls Try.prog 27 #[.slice A1 n1 c1, .slice A2 n2 c2] w fun e w' => e = .returned (.bool (decide (l1 = l2))) ∧ Below w.heap.size w w' := by
  have H1 := Lib.hid h1
  have H2 := Lib.hid h2
  have L1 := Lib.hid h1.1
  have L2 := Lib.hid h2.1
  clear h1 h2
  by_cases hne : n1 = n2
  · subst hne
    have hq : ((n1 : Int) == (n1 : Int)) = true := by simp
    have hni : (n1 : Int) ≤ 1000000 := by omega
    go_enter Try.func27, Try.ntmps27
    go_wp2_with fail
    go_loopw [5] (fun i wr => ∃ k : Nat, i = .int .i64 (k : Int) ∧ k ≤ n1 ∧ l1.take k = l2.take k ∧ Below w.heap.size w wr) (fun i _ => n1 - (intOf i).toNat)
    case atStart => exact ⟨0, rfl, Nat.zero_le _, rfl, Below.refl _ _⟩
    case round =>
      obtain ⟨k, rfl, hk, ht, hb⟩ := hrel
      have HT := Lib.hid ht
      have HB := Lib.hid hb
      clear ht hb
      by_cases hlt : k < n1
      · obtain ⟨b1, o1, hl1, rfl, hbb1, hc1⟩ := H1.out.at hlt
        obtain ⟨b2, o2, hl2, rfl, hbb2, hc2⟩ := H2.out.at hlt
        have G1 := Lib.hid (show l1.take (k + 1) = l1.take k ++ [l1[k]] from List.take_succ_eq_append_getElem hl1)
        have G2 := Lib.hid (show l2.take (k + 1) = l2.take k ++ [l2[k]] from List.take_succ_eq_append_getElem hl2)
        have K1 := Lib.hid (List.getElem?_eq_getElem hl1)
        have K2 := Lib.hid (List.getElem?_eq_getElem hl2)
        obtain ⟨p, hp⟩ : ∃ p, l1[k] = p := ⟨_, rfl⟩
        obtain ⟨q, hq2⟩ : ∃ q, l2[k] = q := ⟨_, rfl⟩
        rw [hp] at hc1 G1 K1
        rw [hq2] at hc2 G2 K2
        clear hp hq2
        have HPQ := Lib.hid (show p = q → l1.take (k + 1) = l2.take (k + 1) by
          intro e
          rw [G1.out, G2.out, HT.out, e])
        have HNE := Lib.hid (show p ≠ q → l1 ≠ l2 by
          intro h e
          apply h
          have k1 := K1.out
          have k2 := K2.out
          rw [e, k2] at k1
          exact (Option.some.inj k1).symm)
        obtain ⟨pc, pa, pn, po⟩ := p
        obtain ⟨qc, qa, qn, qo⟩ := q
        have a0 : wr.cell? ⟨b1, o1 + k * 4, none⟩ = some (.bool pc) := (HB.out.cell (p := ⟨b1, _, none⟩) hbb1).trans (hc1 0 _ rfl)
        have a1 : wr.cell? ⟨b1, o1 + k * 4 + 1, none⟩ = some (.int .i64 pa) := (HB.out.cell (p := ⟨b1, _, none⟩) hbb1).trans (hc1 1 _ rfl)
        have a2 : wr.cell? ⟨b1, o1 + k * 4 + 2, none⟩ = some (.int .i64 pn) := (HB.out.cell (p := ⟨b1, _, none⟩) hbb1).trans (hc1 2 _ rfl)
        have a3 : wr.cell? ⟨b1, o1 + k * 4 + 3, none⟩ = some (.string po) := (HB.out.cell (p := ⟨b1, _, none⟩) hbb1).trans (hc1 3 _ rfl)
        have d0 : wr.cell? ⟨b2, o2 + k * 4, none⟩ = some (.bool qc) := (HB.out.cell (p := ⟨b2, _, none⟩) hbb2).trans (hc2 0 _ rfl)
        have d1 : wr.cell? ⟨b2, o2 + k * 4 + 1, none⟩ = some (.int .i64 qa) := (HB.out.cell (p := ⟨b2, _, none⟩) hbb2).trans (hc2 1 _ rfl)
        have d2 : wr.cell? ⟨b2, o2 + k * 4 + 2, none⟩ = some (.int .i64 qn) := (HB.out.cell (p := ⟨b2, _, none⟩) hbb2).trans (hc2 2 _ rfl)
        have d3 : wr.cell? ⟨b2, o2 + k * 4 + 3, none⟩ = some (.string qo) := (HB.out.cell (p := ⟨b2, _, none⟩) hbb2).trans (hc2 3 _ rfl)
        clear hc1 hc2
        by_cases hpq : pc = qc ∧ pa = qa ∧ pn = qn ∧ po = qo
        · obtain ⟨rfl, rfl, rfl, rfl⟩ := hpq
          have HS := Lib.hid (HPQ.out rfl)
          go_wp2_with fail
          go_quiet (fail)
          go_wp2_with fail
          go_roundw
          case rel => exact ⟨k + 1, by go_num, by omega, HS.out, ⟨HB.out.os, HB.out.tape, HB.out.output, HB.out.size, HB.out.block⟩⟩
          case measure => simp [intOf]; omega
        · have HD := Lib.hid (show decide (l1 = l2) = false from decide_eq_false (HNE.out (by intro e; exact hpq ⟨congrArg (·.1) e, congrArg (·.2.1) e, congrArg (·.2.2.1) e, congrArg (·.2.2.2) e⟩)))
          have hnq := run_neq_pc pc qc pa qa pn qn po qo hpq
          go_wp2_with fail
          go_quiet (fail)
          go_wp2_with fail
          go_ret
          exact ⟨congrArg (fun b => Ending.returned (.bool b)) HD.out.symm, ⟨HB.out.os, HB.out.tape, HB.out.output, HB.out.size, HB.out.block⟩⟩
      · obtain rfl : k = n1 := by omega
        have HE := Lib.hid (show decide (l1 = l2) = true from decide_eq_true (by
          have h := HT.out
          rw [List.take_of_length_le (by rw [L1.out]; exact Nat.le_refl _), List.take_of_length_le (by rw [L2.out]; exact Nat.le_refl _)] at h
          exact h))
        go_wp2_with fail
        go_ret
        exact ⟨congrArg (fun b => Ending.returned (.bool b)) HE.out.symm, HB.out⟩
  · have hq : ((n1 : Int) == (n2 : Int)) = false := by rw [beq_eq_false_iff_ne]; omega
    have hq2 : ((n1 : Int) != (n2 : Int)) = true := by rw [bne, hq]; rfl
    have hq3 : (n1 == n2) = false := by rw [beq_eq_false_iff_ne]; omega
    have hq4 : (n1 != n2) = true := by rw [bne, hq3]; rfl
    have HE := Lib.hid (show decide (l1 = l2) = false from decide_eq_false (fun e => hne (by rw [← L1.out, ← L2.out, e])))
    go_enter Try.func27, Try.ntmps27
    go_wp2_with fail
    go_ret
    exact ⟨congrArg (fun b => Ending.returned (.bool b)) HE.out.symm, Below.refl _ _⟩
/-- how many bytes two texts have in common at their fronts -/
def cpl : List UInt8 → List UInt8 → Nat
  | x :: xs, y :: ys => if x = y then cpl xs ys + 1 else 0
  | _, _ => 0
theorem cpl_nil (a : List UInt8) : cpl a [] = 0 := by cases a <;> rfl
theorem cpl_nil2 (b : List UInt8) : cpl [] b = 0 := by cases b <;> rfl
theorem cpl_le : ∀ a b : List UInt8, cpl a b ≤ a.length ∧ cpl a b ≤ b.length
  | [], b => by rw [cpl_nil2]; simp
  | x :: xs, [] => by rw [cpl_nil]; simp
  | x :: xs, y :: ys => by
    have := cpl_le xs ys
    unfold cpl
    split
    · simp; omega
    · simp
theorem cpl_ge : ∀ (k : Nat) (a b : List UInt8), a.take k = b.take k → k ≤ a.length → k ≤ b.length → k ≤ cpl a b
  | 0, _, _, _, _, _ => Nat.zero_le _
  | k + 1, [], _, _, h, _ => by simp at h
  | k + 1, _ :: _, [], _, _, h => by simp at h
  | k + 1, x :: xs, y :: ys, h, h1, h2 => by
    simp only [List.take_succ_cons] at h
    injection h with e h
    subst e
    have := cpl_ge k xs ys h (by simpa using h1) (by simpa using h2)
    unfold cpl
    rw [if_pos rfl]; omega
theorem cpl_cons (x y : UInt8) (xs ys : List UInt8) : cpl (x :: xs) (y :: ys) = if x = y then cpl xs ys + 1 else 0 := rfl
theorem cpl_step (a b : List UInt8) (k : Nat) (h1 : k < a.length) (h2 : k < b.length) (hc : cpl a b = k + cpl (a.drop k) (b.drop k)) :
    (a[k] = b[k] → cpl a b = (k + 1) + cpl (a.drop (k + 1)) (b.drop (k + 1))) ∧ (a[k] ≠ b[k] → cpl a b = k) := by
  rw [List.drop_eq_getElem_cons h1, List.drop_eq_getElem_cons h2, cpl_cons] at hc
  refine ⟨fun h => ?_, fun h => ?_⟩
  · rw [if_pos h] at hc; omega
  · rw [if_neg h] at hc; omega
theorem run_from (S : ByteArray) (k : Nat) (h : k ≤ S.size) (X : ByteArray) (hX : X = S.extract k S.size) (W : World) :
    (Instr.slice 9 (.string S) (some (.int .i64 (k : Int))) none none).run Try.prog W = .ok (.string X) W := by
  subst hX
  rw [run_slice_string_l _ _ _ Try.underlying9 _ _ (by omega) (by omega)]
  rw [show ((k : Int)).toNat = k by omega]
theorem run_mid (S : ByteArray) (k m : Nat) (hkm : k ≤ m) (h : m ≤ S.size) (X : ByteArray) (hX : X = S.extract k m) (W : World) :
    (Instr.slice 9 (.string S) (some (.int .i64 (k : Int))) (some (.int .i64 (m : Int))) none).run Try.prog W = .ok (.string X) W := by
  subst hX
  rw [run_slice_string _ _ _ _ _ _ _ Try.underlying9 (by omega) (by omega) (by omega)]
  rw [show ((k : Int)).toNat = k by omega, show ((m : Int)).toNat = m by omega]
theorem from_list (S X : ByteArray) (k : Nat) (h : X = S.extract k S.size) : X.data.toList = S.data.toList.drop k := by
  subst h
  rw [ByteArray.data_extract, Array.toList_extract]
  simp only [List.extract]
  exact List.take_of_length_le (by simp)
theorem mid_list (S X : ByteArray) (k m : Nat) (h : X = S.extract k m) : X.data.toList = (S.data.toList.drop k).take (m - k) := by
  subst h
  rw [ByteArray.data_extract, Array.toList_extract]
set_option maxRecDepth 100000 in
set_option maxHeartbeats 1600000 in
theorem alike_any (a b : ByteArray) (w : World) (ha : a.size ≤ 3000) (hb : b.size ≤ 3000) :
    Calls Try.prog 129 #[.string a, .string b] w fun e w' => e = .returned (.int .i64 ((cpl a.data.toList b.data.toList : Nat) : Int)) ∧ Below w.heap.size w w' := by
  have hal : a.data.toList.length = a.size := by simp
  have hbl : b.data.toList.length = b.size := by simp
  have HAL := Lib.hid hal
  have HBL := Lib.hid hbl
  clear hal hbl
  obtain ⟨m, hm⟩ : ∃ m, m = min a.size b.size := ⟨_, rfl⟩
  have hma : m ≤ a.size := by omega
  have hmb : m ≤ b.size := by omega
  have HM := Lib.hid hm
  have hmi : (m : Int) ≤ 3000 := by omega
  by_cases hab : a.size < b.size
  · have hd1 : decide ((a.size : Int) < (b.size : Int)) = true := decide_eq_true (by omega)
    have hd2 : decide (a.size < b.size) = true := decide_eq_true hab
    have hd5 : decide ((a.size : Int) ≤ (b.size : Int)) = true := decide_eq_true (by omega)
    have hd6 : decide (a.size ≤ b.size) = true := decide_eq_true (by omega)
    have hd3 : decide ((b.size : Int) < (a.size : Int)) = false := decide_eq_false (by omega)
    have hd4 : decide (b.size < a.size) = false := decide_eq_false (by omega)
    obtain rfl : m = a.size := by omega
    clear hm hab
    go_enter Try.func129, Try.ntmps129
    go_wp2_with fail
    go_loopw [6, 13] (fun _ i wr => ∃ k : Nat, i = .int .i64 (k : Int) ∧ k ≤ a.size ∧ cpl a.data.toList b.data.toList = k + cpl (a.data.toList.drop k) (b.data.toList.drop k) ∧ Below w.heap.size w wr) (fun _ i _ => a.size - (intOf i).toNat)
    case atStart => exact ⟨0, rfl, Nat.zero_le _, by simp, Below.refl _ _⟩
    case round =>
      obtain ⟨k, rfl, hk, hc, hb⟩ := hrel
      have HC := Lib.hid hc
      have HB := Lib.hid hb
      clear hc hb
      by_cases hlt : k < a.size
      · have hka : k < a.size := by omega
        have hkb : k < b.size := by omega
        obtain ⟨x, hx⟩ : ∃ x, a[k] = x := ⟨_, rfl⟩
        obtain ⟨y, hy⟩ : ∃ y, b[k] = y := ⟨_, rfl⟩
        have HS := Lib.hid (cpl_step a.data.toList b.data.toList k (by rw [HAL.out]; exact hka) (by rw [HBL.out]; exact hkb) HC.out)
        have HX := Lib.hid (show a.data.toList[k]'(by rw [HAL.out]; exact hka) = x from hx)
        have HY := Lib.hid (show b.data.toList[k]'(by rw [HBL.out]; exact hkb) = y from hy)
        by_cases hxy : x = y
        · have hq : ((x.toNat : Int) == (y.toNat : Int)) = true := by rw [hxy]; simp
          have hq2 : ((x.toNat : Int) != (y.toNat : Int)) = false := by rw [bne, hq]; rfl
          have HN := Lib.hid (HS.out.1 (by rw [HX.out, HY.out, hxy]))
          clear hxy
          go_wp2_with fail
          go_quiet (fail)
          go_wp2_with fail
          go_roundw
          case rel => exact ⟨k + 1, by go_num, by omega, HN.out, ⟨HB.out.os, HB.out.tape, HB.out.output, HB.out.size, HB.out.block⟩⟩
          case measure => simp [intOf] <;> omega
        · have hq : ((x.toNat : Int) == (y.toNat : Int)) = false := by
            rw [beq_eq_false_iff_ne]
            intro h
            exact hxy (UInt8.toNat_inj.1 (by omega))
          have hq2 : ((x.toNat : Int) != (y.toNat : Int)) = true := by rw [bne, hq]; rfl
          have HN := Lib.hid (HS.out.2 (by rw [HX.out, HY.out]; exact hxy))
          clear hxy
          go_wp2_with fail
          go_quiet (fail)
          go_wp2_with fail
          go_ret
          exact ⟨by rw [HN.out]; rfl, ⟨HB.out.os, HB.out.tape, HB.out.output, HB.out.size, HB.out.block⟩⟩
      · obtain rfl : k = a.size := by omega
        have HN := Lib.hid (show cpl a.data.toList b.data.toList = a.size by
          have h := HC.out
          have h1 := (cpl_le (a.data.toList.drop a.size) (b.data.toList.drop a.size)).1
          have h2 := (cpl_le (a.data.toList.drop a.size) (b.data.toList.drop a.size)).2
          rw [List.length_drop, HAL.out] at h1
          rw [List.length_drop, HBL.out] at h2
          have h3 := HM.out
          omega)
        go_wp2_with fail
        go_ret
        exact ⟨by rw [HN.out]; rfl, HB.out⟩
  · have hd1 : decide ((a.size : Int) < (b.size : Int)) = false := decide_eq_false (by omega)
    have hd2 : decide (a.size < b.size) = false := decide_eq_false hab
    by_cases hba : b.size < a.size
    · have hd3 : decide ((b.size : Int) < (a.size : Int)) = true := decide_eq_true (by omega)
      have hd4 : decide (b.size < a.size) = true := decide_eq_true hba
      have hp : (b.size : Int) < (a.size : Int) := by omega
      have hp2 : b.size < a.size := hba
      have hd5 : decide ((a.size : Int) ≤ (b.size : Int)) = false := decide_eq_false (by omega)
      have hd6 : decide (a.size ≤ b.size) = false := decide_eq_false (by omega)
      obtain rfl : m = b.size := by omega
      clear hm hab hba
      go_enter Try.func129, Try.ntmps129
      go_wp2_with fail
      go_loopw [6, 13] (fun _ i wr => ∃ k : Nat, i = .int .i64 (k : Int) ∧ k ≤ b.size ∧ cpl a.data.toList b.data.toList = k + cpl (a.data.toList.drop k) (b.data.toList.drop k) ∧ Below w.heap.size w wr) (fun _ i _ => b.size - (intOf i).toNat)
      case atStart => exact ⟨0, rfl, Nat.zero_le _, by simp, Below.refl _ _⟩
      case round =>
        obtain ⟨k, rfl, hk, hc, hb⟩ := hrel
        have HC := Lib.hid hc
        have HB := Lib.hid hb
        clear hc hb
        by_cases hlt : k < b.size
        · have hka : k < a.size := by omega
          have hkb : k < b.size := by omega
          obtain ⟨x, hx⟩ : ∃ x, a[k] = x := ⟨_, rfl⟩
          obtain ⟨y, hy⟩ : ∃ y, b[k] = y := ⟨_, rfl⟩
          have HS := Lib.hid (cpl_step a.data.toList b.data.toList k (by rw [HAL.out]; exact hka) (by rw [HBL.out]; exact hkb) HC.out)
          have HX := Lib.hid (show a.data.toList[k]'(by rw [HAL.out]; exact hka) = x from hx)
          have HY := Lib.hid (show b.data.toList[k]'(by rw [HBL.out]; exact hkb) = y from hy)
          by_cases hxy : x = y
          · have hq : ((x.toNat : Int) == (y.toNat : Int)) = true := by rw [hxy]; simp
            have hq2 : ((x.toNat : Int) != (y.toNat : Int)) = false := by rw [bne, hq]; rfl
            have HN := Lib.hid (HS.out.1 (by rw [HX.out, HY.out, hxy]))
            clear hxy
            go_wp2_with fail
            go_quiet (fail)
            go_wp2_with fail
            go_roundw
            case rel => exact ⟨k + 1, by go_num, by omega, HN.out, ⟨HB.out.os, HB.out.tape, HB.out.output, HB.out.size, HB.out.block⟩⟩
            case measure => simp [intOf] <;> omega
          · have hq : ((x.toNat : Int) == (y.toNat : Int)) = false := by
              rw [beq_eq_false_iff_ne]
              intro h
              exact hxy (UInt8.toNat_inj.1 (by omega))
            have hq2 : ((x.toNat : Int) != (y.toNat : Int)) = true := by rw [bne, hq]; rfl
            have HN := Lib.hid (HS.out.2 (by rw [HX.out, HY.out]; exact hxy))
            clear hxy
            go_wp2_with fail
            go_quiet (fail)
            go_wp2_with fail
            go_ret
            exact ⟨by rw [HN.out]; rfl, ⟨HB.out.os, HB.out.tape, HB.out.output, HB.out.size, HB.out.block⟩⟩
        · obtain rfl : k = b.size := by omega
          have HN := Lib.hid (show cpl a.data.toList b.data.toList = b.size by
            have h := HC.out
            have h1 := (cpl_le (a.data.toList.drop b.size) (b.data.toList.drop b.size)).1
            have h2 := (cpl_le (a.data.toList.drop b.size) (b.data.toList.drop b.size)).2
            rw [List.length_drop, HAL.out] at h1
            rw [List.length_drop, HBL.out] at h2
            have h3 := HM.out
            omega)
          go_wp2_with fail
          go_ret
          exact ⟨by rw [HN.out]; rfl, HB.out⟩
    · have hd3 : decide ((b.size : Int) < (a.size : Int)) = false := decide_eq_false (by omega)
      have hd4 : decide (b.size < a.size) = false := decide_eq_false hba
      have hd5 : decide ((a.size : Int) ≤ (b.size : Int)) = true := decide_eq_true (by omega)
      have hd6 : decide (a.size ≤ b.size) = true := decide_eq_true (by omega)
      obtain rfl : m = a.size := by omega
      clear hm hab hba
      go_enter Try.func129, Try.ntmps129
      go_wp2_with fail
      go_loopw [6, 13] (fun _ i wr => ∃ k : Nat, i = .int .i64 (k : Int) ∧ k ≤ a.size ∧ cpl a.data.toList b.data.toList = k + cpl (a.data.toList.drop k) (b.data.toList.drop k) ∧ Below w.heap.size w wr) (fun _ i _ => a.size - (intOf i).toNat)
      case atStart => exact ⟨0, rfl, Nat.zero_le _, by simp, Below.refl _ _⟩
      case round =>
        obtain ⟨k, rfl, hk, hc, hb⟩ := hrel
        have HC := Lib.hid hc
        have HB := Lib.hid hb
        clear hc hb
        by_cases hlt : k < a.size
        · have hka : k < a.size := by omega
          have hkb : k < b.size := by omega
          obtain ⟨x, hx⟩ : ∃ x, a[k] = x := ⟨_, rfl⟩
          obtain ⟨y, hy⟩ : ∃ y, b[k] = y := ⟨_, rfl⟩
          have HS := Lib.hid (cpl_step a.data.toList b.data.toList k (by rw [HAL.out]; exact hka) (by rw [HBL.out]; exact hkb) HC.out)
          have HX := Lib.hid (show a.data.toList[k]'(by rw [HAL.out]; exact hka) = x from hx)
          have HY := Lib.hid (show b.data.toList[k]'(by rw [HBL.out]; exact hkb) = y from hy)
          by_cases hxy : x = y
          · have hq : ((x.toNat : Int) == (y.toNat : Int)) = true := by rw [hxy]; simp
            have hq2 : ((x.toNat : Int) != (y.toNat : Int)) = false := by rw [bne, hq]; rfl
            have HN := Lib.hid (HS.out.1 (by rw [HX.out, HY.out, hxy]))
            clear hxy
            go_wp2_with fail
            go_quiet (fail)
            go_wp2_with fail
            go_roundw
            case rel => exact ⟨k + 1, by go_num, by omega, HN.out, ⟨HB.out.os, HB.out.tape, HB.out.output, HB.out.size, HB.out.block⟩⟩
            case measure => simp [intOf] <;> omega
          · have hq : ((x.toNat : Int) == (y.toNat : Int)) = false := by
              rw [beq_eq_false_iff_ne]
              intro h
              exact hxy (UInt8.toNat_inj.1 (by omega))
            have hq2 : ((x.toNat : Int) != (y.toNat : Int)) = true := by rw [bne, hq]; rfl
            have HN := Lib.hid (HS.out.2 (by rw [HX.out, HY.out]; exact hxy))
            clear hxy
            go_wp2_with fail
            go_quiet (fail)
            go_wp2_with fail
            go_ret
            exact ⟨by rw [HN.out]; rfl, ⟨HB.out.os, HB.out.tape, HB.out.output, HB.out.size, HB.out.block⟩⟩
        · obtain rfl : k = a.size := by omega
          have HN := Lib.hid (show cpl a.data.toList b.data.toList = a.size by
            have h := HC.out
            have h1 := (cpl_le (a.data.toList.drop a.size) (b.data.toList.drop a.size)).1
            have h2 := (cpl_le (a.data.toList.drop a.size) (b.data.toList.drop a.size)).2
            rw [List.length_drop, HAL.out] at h1
            rw [List.length_drop, HBL.out] at h2
            have h3 := HM.out
            omega)
          go_wp2_with fail
          go_ret
          exact ⟨by rw [HN.out]; rfl, HB.out⟩
end Go.Proofs.Ythndcgaelcilnaa
