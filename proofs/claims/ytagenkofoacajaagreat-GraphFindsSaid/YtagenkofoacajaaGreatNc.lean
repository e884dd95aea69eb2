/- Contracts of name.Row and of the document's Row: whether texts are names, and rise. Condition: texts that fit a string. -/
import Derived.Test.YtagenkofoacajaaGreatNb
namespace Go.Proofs.YtagenkofoacajaaGreat
open Go.RowKit

/-- where a slice of texts lies -/
def SlN (w : World) (a : Option Addr) (len : Nat) (ss : List ByteArray) : Prop := ss.length = len ∧ (0 < len → ∃ b off, a = some ⟨b, off, none⟩ ∧ ∀ i, (h : i < ss.length) → w.cell? ⟨b, off + i, none⟩ = some (.string ss[i]))
/-- is a text not behind another one? -/
def leS (s p : ByteArray) : Bool := Op.bytesLess s.toList p.toList || (s.toList == p.toList)
theorem leS_cases (s p : ByteArray) : (Op.bytesLess s.toList p.toList = true ∧ leS s p = true) ∨ (Op.bytesLess s.toList p.toList = false ∧ (s.toList == p.toList) = true ∧ leS s p = true) ∨
    (Op.bytesLess s.toList p.toList = false ∧ (s.toList == p.toList) = false ∧ leS s p = false) := by
  unfold leS
  cases Op.bytesLess s.toList p.toList <;> cases (s.toList == p.toList) <;> simp
/-- what is wrong with a row, behind a text -/
def rowE (p : ByteArray) : List ByteArray → Int
  | [] => 0
  | s :: t => if nm s = false then 2 else if leS s p = true then 4 else rowE s t
theorem rowE_bad (p s : ByteArray) (t : List ByteArray) (h : nm s = false) : rowE p (s :: t) = 2 := by simp only [rowE]; rw [if_pos h]
theorem rowE_ord (p s : ByteArray) (t : List ByteArray) (h : nm s = true) (g : leS s p = true) : rowE p (s :: t) = 4 := by
  simp only [rowE]; rw [if_neg (by rw [h]; simp), if_pos g]
theorem rowE_go (p s : ByteArray) (t : List ByteArray) (h : nm s = true) (g : leS s p = false) : rowE p (s :: t) = rowE s t := by
  simp only [rowE]; rw [if_neg (by rw [h]; simp), if_neg (by rw [g]; simp)]
theorem le_nil (s : ByteArray) (h : nm s = true) : leS s ⟨#[]⟩ = false := by
  have hs : 1 ≤ s.size := by
    unfold nm at h
    rw [Bool.and_eq_true, Bool.and_eq_true] at h
    exact of_decide_eq_true h.1.1
  have hl : s.toList.length = s.size := by rw [ByteArray.toList_eq]; simp
  have e0 : (ByteArray.mk #[]).toList = [] := by rw [ByteArray.toList_eq]
  unfold leS
  rw [e0]
  cases hq : s.toList with
  | nil => rw [hq] at hl; simp at hl; omega
  | cons c t => simp [Op.bytesLess]

set_option maxHeartbeats 800000 in
set_option maxRecDepth 100000 in
theorem nrow_any (a : Option Addr) (len cap : Nat) (ss : List ByteArray) (w : World) (hsl : SlN w a len ss) (hlm : len ≤ maxLen) (hs : ∀ s ∈ ss, s.size ≤ maxLen) :
    Calls Tryz.prog 153 #[.slice a len cap] w fun e w' => e = .returned (.int .i64 (rowE ⟨#[]⟩ ss)) ∧ w = w' := by
  unfold maxLen at hlm
  have HSL := Lib.hid hsl.2
  have HL := Lib.hid hsl.1
  have HS := Lib.hid hs
  clear hsl hs
  go_enter Tryz.func153, Tryz.ntmps153
  go_wp2
  go_loop [3, 5, 6, 9] (fun v _ _ i => ∃ (k : Nat) (p : ByteArray), k ≤ len ∧ i = .int .i64 (k : Int) ∧ v = .string p ∧ rowE ⟨#[]⟩ ss = rowE p (ss.drop k)) (fun _ _ _ i => len - (intOf i).toNat)
  case atStart => exact ⟨0, ⟨#[]⟩, Nat.zero_le _, rfl, rfl, rfl⟩
  case round =>
    obtain ⟨k, p, hk, rfl, rfl, heq⟩ := hrel
    have HE := Lib.hid heq
    clear heq
    by_cases hlt : k < len
    · obtain ⟨b, off, rfl, hcell⟩ := HSL.out (by omega)
      have hkn : k < ss.length := by rw [HL.out]; exact hlt
      have hc := hcell k hkn
      have hsz := HS.out ss[k] (List.getElem_mem hkn)
      have HD := Lib.hid (List.drop_eq_getElem_cons hkn)
      clear hcell
      generalize ss[k] = s at hc hsz HD
      cases hn : nm s with
      | false =>
        have HC := Lib.hid (nck_no s hn)
        have HR := Lib.hid (HE.out.trans (by rw [HD.out, rowE_bad p s _ hn]))
        clear hn
        go_wp2_with fail
        refine (ncheck_any s _ hsz).mono ?_
        rintro e w' ⟨rfl, rfl⟩
        rw [HC.out]
        go_wp2
        go_ret
        exact ⟨ret_n HR.out.symm, rfl⟩
      | true =>
        have HC := Lib.hid (nck_yes s hn)
        rcases leS_cases s p with ⟨g1, hg⟩ | ⟨g1, g2, hg⟩ | ⟨g1, g2, hg⟩
        rotate_right
        · have HR := Lib.hid (HE.out.trans (by rw [HD.out, rowE_go p s _ hn hg]))
          clear hn hg
          go_wp2_with fail
          refine (ncheck_any s _ hsz).mono ?_
          rintro e w' ⟨rfl, rfl⟩
          rw [HC.out]
          go_wp2
          go_round
          case rel => exact ⟨k + 1, s, by omega, by go_num, rfl, HR.out⟩
          case measure => simp [intOf]; omega
        all_goals
          have HR := Lib.hid (HE.out.trans (by rw [HD.out, rowE_ord p s _ hn hg]))
          clear hn hg
          go_wp2_with fail
          refine (ncheck_any s _ hsz).mono ?_
          rintro e w' ⟨rfl, rfl⟩
          rw [HC.out]
          go_wp2
          go_ret
          exact ⟨ret_n HR.out.symm, rfl⟩
    · have HR := Lib.hid (HE.out.trans (by rw [List.drop_of_length_le (by rw [HL.out]; omega)]; rfl : _ = (0 : Int)))
      go_wp2
      go_ret
      exact ⟨ret_n HR.out.symm, rfl⟩
theorem rowE_first (s : ByteArray) (t : List ByteArray) (h : nm s = true) : rowE ⟨#[]⟩ (s :: t) = rowE s t := rowE_go _ _ _ h (le_nil s h)

set_option maxHeartbeats 1600000 in
set_option maxRecDepth 100000 in
theorem refRow_any (a : Option Addr) (len cap : Nat) (ss : List ByteArray) (w : World) (hsl : SlN w a len ss) (hlm : len ≤ maxLen) (hs : ∀ s ∈ ss, s.size ≤ maxLen) :
    Calls Tryz.prog 77 #[.slice a len cap] w fun e w' => e = .returned (.int .i64 (rowE ⟨#[]⟩ ss)) ∧ ∃ q, w' = w.drewN q := by
  unfold maxLen at hlm
  have HSL := Lib.hid hsl.2
  have HL := Lib.hid hsl.1
  have HS := Lib.hid hs
  clear hsl hs
  go_enter Tryz.func77, Tryz.ntmps77
  go_wp2
  go_loopw [3] (fun i wr => ∃ (k : Nat), k ≤ len ∧ i = .int .i64 (k : Int) ∧ rowE ⟨#[]⟩ ss = rowE (if k = 0 then ⟨#[]⟩ else ss.getD (k - 1) ⟨#[]⟩) (ss.drop k) ∧ ∃ q, wr = w.drewN q) (fun i _ => len - (intOf i).toNat)
  case atStart => exact ⟨0, Nat.zero_le _, rfl, rfl, 0, rfl⟩
  case round =>
    obtain ⟨k, hk, rfl, heq, q, rfl⟩ := hrel
    have HE := Lib.hid heq
    clear heq
    by_cases hlt : k < len
    · obtain ⟨b, off, rfl, hcell⟩ := HSL.out (by omega)
      have hkn : k < ss.length := by rw [HL.out]; exact hlt
      have hc := hcell k hkn
      have hsz := HS.out ss[k] (List.getElem_mem hkn)
      have HD := Lib.hid (List.drop_eq_getElem_cons hkn)
      have HCL := Lib.hid hcell
      clear hcell
      cases hn : nm ss[k] with
      | false =>
        have HR := Lib.hid (HE.out.trans (by rw [HD.out, rowE_bad _ ss[k] _ hn]))
        have HN := Lib.hid hn
        clear hn
        generalize ss[k] = s at hc hsz HN HD
        go_wp2_with fail
        refine (refIs_any s _ hsz).mono ?_
        rintro e w' ⟨rfl, rfl⟩
        rw [HN.out]
        go_wp2
        go_ret
        exact ⟨ret_n HR.out.symm, q, rfl⟩
      | true =>
        rcases Nat.eq_zero_or_pos k with h0 | hpos
        · subst h0
          rw [Nat.add_zero] at hc
          have HR := Lib.hid (HE.out.trans (by rw [HD.out, if_pos rfl, rowE_first ss[0] _ hn]))
          have HG := Lib.hid (show ss.getD 0 ⟨#[]⟩ = ss[0] by rw [List.getD_eq_getElem?_getD, List.getElem?_eq_getElem hkn]; rfl)
          have HN := Lib.hid hn
          clear hn
          generalize ss[0] = s at hc hsz HN HD HR HG
          go_wp2_with fail
          refine (refIs_any s _ hsz).mono ?_
          rintro e w' ⟨rfl, rfl⟩
          rw [HN.out]
          go_wp2_with fail
          go_quiet (fail)
          go_wp2
          go_roundw
          case rel => exact ⟨1, by omega, rfl, by rw [HR.out, if_neg (by omega), HG.out], _, rfl⟩
          case measure => simp [intOf]; omega
        · obtain ⟨m, rfl⟩ : ∃ m, k = m + 1 := ⟨k - 1, by omega⟩
          have hm : m < ss.length := by omega
          have hcm := HCL.out m hm
          have HG := Lib.hid (show ss.getD m ⟨#[]⟩ = ss[m] by rw [List.getD_eq_getElem?_getD, List.getElem?_eq_getElem hm]; rfl)
          have HG2 := Lib.hid (show ss.getD (m + 1) ⟨#[]⟩ = ss[m + 1] by rw [List.getD_eq_getElem?_getD, List.getElem?_eq_getElem hkn]; rfl)
          have HE2 := Lib.hid (HE.out.trans (by rw [if_neg (by omega), Nat.add_sub_cancel, HG.out]))
          have hi0 : (0 : Int) ≤ (m : Int) := by omega
          have hi1 : (m : Int) < (len : Int) := by omega
          have HN := Lib.hid hn
          have HK := Lib.hid (show w.cell? ⟨b, off + (m + 1), none⟩ = some (.string ss[m + 1]) from hc)
          clear HE hn HCL hc
          obtain ⟨s, hs1⟩ : ∃ s, s = ss[m + 1]'(by omega) := ⟨_, rfl⟩
          obtain ⟨p, hp1⟩ : ∃ p, p = ss[m] := ⟨_, rfl⟩
          rw [← hs1] at HK HN HD HG2 hsz
          rw [← hp1] at HE2 hcm HG
          clear hs1 hp1
          have hk1 := HK.out
          rcases leS_cases s p with ⟨g1, hg⟩ | ⟨g1, g2, hg⟩ | ⟨g1, g2, hg⟩
          · have HR := Lib.hid (HE2.out.trans (by rw [HD.out, rowE_ord p s _ HN.out hg]))
            clear hg
            go_wp2_with fail
            refine (refIs_any s _ hsz).mono ?_
            rintro e w' ⟨rfl, rfl⟩
            rw [HN.out]
            go_wp2_with fail
            go_quiet (fail)
            go_wp2
            go_ret
            exact ⟨ret_n HR.out.symm, _, World.drewN_drewN _ _ _⟩
          · have HR := Lib.hid (HE2.out.trans (by rw [HD.out, rowE_ord p s _ HN.out hg]))
            clear hg
            go_wp2_with fail
            refine (refIs_any s _ hsz).mono ?_
            rintro e w' ⟨rfl, rfl⟩
            rw [HN.out]
            go_wp2_with fail
            go_quiet (fail)
            go_wp2
            go_ret
            exact ⟨ret_n HR.out.symm, _, World.drewN_drewN _ _ _⟩
          · have HR := Lib.hid (HE2.out.trans (by rw [HD.out, rowE_go p s _ HN.out hg]))
            clear hg
            go_wp2_with fail
            refine (refIs_any s _ hsz).mono ?_
            rintro e w' ⟨rfl, rfl⟩
            rw [HN.out]
            go_wp2_with fail
            go_quiet (fail)
            go_wp2
            go_roundw
            case rel => exact ⟨m + 1 + 1, by omega, by go_num, by rw [HR.out, if_neg (by omega), Nat.add_sub_cancel, HG2.out], _, rfl⟩
            case measure => simp [intOf]; omega
    · have HR := Lib.hid (HE.out.trans (by rw [List.drop_of_length_le (by rw [HL.out]; omega)]; rfl : _ = (0 : Int)))
      go_wp2
      go_ret
      exact ⟨ret_n HR.out.symm, q, rfl⟩
end Go.Proofs.YtagenkofoacajaaGreat
