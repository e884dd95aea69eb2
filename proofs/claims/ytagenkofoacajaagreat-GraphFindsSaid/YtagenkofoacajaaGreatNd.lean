/- The contract of the library's binary search in a slice of texts, where those that are less than the one looked for stand ahead of the others. -/
import Derived.Test.YtagenkofoacajaaGreatNc
namespace Go.Proofs.YtagenkofoacajaaGreat
open Go.RowKit

/-- the texts ahead of place K are less, the others are not -/
def Cut (ss : List ByteArray) (x : ByteArray) (K : Nat) : Prop := K ≤ ss.length ∧ (∀ t, (h : t < ss.length) → t < K → Op.bytesLess ss[t].toList x.toList = true) ∧ (∀ t, (h : t < ss.length) → K ≤ t → Op.bytesLess ss[t].toList x.toList = false)
/-- does it stand there? -/
def metB (ss : List ByteArray) (x : ByteArray) (K : Nat) : Bool := decide (K < ss.length) && ((ss.getD K ⟨#[]⟩).toList == x.toList)

set_option maxHeartbeats 1600000 in
set_option maxRecDepth 100000 in
theorem bsearch_any (a : Option Addr) (len cap : Nat) (ss : List ByteArray) (x : ByteArray) (K : Nat) (w : World) (hsl : SlN w a len ss) (hlm : len ≤ 1000000) (hK : Cut ss x K) :
    Calls Tryz.prog 66 #[.slice a len cap, .string x] w fun e w' => e = .returned (.tuple #[.int .i64 (K : Int), .bool (metB ss x K)]) ∧ w = w' := by
  have HSL := Lib.hid hsl.2
  have HL := Lib.hid hsl.1
  obtain ⟨hk0, h1, h2⟩ := hK
  rw [hsl.1] at hk0
  have H1 := Lib.hid h1
  have H2 := Lib.hid h2
  clear hsl h1 h2
  go_enter Tryz.func66, Tryz.ntmps66
  go_wp2
  go_loop [7, 8, 9] (fun i j _ => ∃ (lo hi : Nat), i = .int .i64 (lo : Int) ∧ j = .int .i64 (hi : Int) ∧ lo ≤ K ∧ K ≤ hi ∧ hi ≤ len) (fun i j _ => (intOf j - intOf i).toNat)
  case atStart => exact ⟨0, len, rfl, rfl, by omega, hk0, Nat.le_refl _⟩
  case round =>
    obtain ⟨lo, hi, rfl, rfl, hlo, hhi, hln⟩ := hrel
    by_cases hlt : (lo : Int) < hi
    · obtain ⟨b, off, rfl, hcell⟩ := HSL.out (by omega)
      obtain ⟨m, hm⟩ : ∃ m, m = (lo + hi) / 2 := ⟨_, rfl⟩
      have hml : lo ≤ m := by omega
      have hmh : m < hi := by omega
      have hms : m < ss.length := by rw [HL.out]; omega
      have hc := hcell m hms
      have HCL := Lib.hid hcell
      have hme : ((lo : Int) + hi) / 2 = (m : Int) := by omega
      have HM := Lib.hid hm
      clear hcell hm
      by_cases hmk : m < K
      · have HB := Lib.hid (H1.out m hms hmk)
        generalize ss[m] = s at hc HB
        go_wp2_with fail
        refine (less_any s x _).mono ?_
        rintro e w' ⟨rfl, rfl⟩
        rw [HB.out]
        go_wp2
        go_round
        case rel => exact ⟨m + 1, hi, by go_num, rfl, by omega, hhi, hln⟩
        case measure => simp [intOf]; omega
      · have HB := Lib.hid (H2.out m hms (by omega))
        generalize ss[m] = s at hc HB
        go_wp2_with fail
        refine (less_any s x _).mono ?_
        rintro e w' ⟨rfl, rfl⟩
        rw [HB.out]
        go_wp2
        go_round
        case rel => exact ⟨lo, m, rfl, rfl, hlo, by omega, by omega⟩
        case measure => simp [intOf]; omega
    · obtain rfl : lo = K := by omega
      obtain rfl : hi = lo := by omega
      clear H1 H2
      by_cases hin : hi < len
      · obtain ⟨b, off, rfl, hcell⟩ := HSL.out (by omega)
        have hms : hi < ss.length := by rw [HL.out]; omega
        have hc := hcell hi hms
        have HG := Lib.hid (show metB ss x hi = (ss[hi].toList == x.toList) by unfold metB; rw [decide_eq_true hms, Bool.true_and, List.getD_eq_getElem?_getD, List.getElem?_eq_getElem hms]; rfl)
        have hi0 : (0 : Int) ≤ (hi : Int) := by omega
        have hi1 : (hi : Int) < (len : Int) := by omega
        clear hcell hlt
        generalize ss[hi] = s at hc HG
        cases he : (s.toList == x.toList) with
        | true =>
          have HR := Lib.hid (HG.out.trans he)
          clear HG
          go_wp2
          go_ret2
          exact ⟨by first | (rw [HR.out]; done) | (rw [HR.out]; rfl), rfl⟩
        | false =>
          have HR := Lib.hid (HG.out.trans he)
          clear HG
          go_wp2_with fail
          refine (nanT_any s _).mono ?_
          rintro e w' ⟨rfl, rfl⟩
          go_wp2
          go_ret2
          exact ⟨by first | (rw [HR.out]; done) | (rw [HR.out]; rfl), rfl⟩
      · have hd : decide ((hi : Int) < (len : Int)) = false := by simp; omega
        have HR := Lib.hid (show metB ss x hi = false by unfold metB; rw [decide_eq_false (by rw [HL.out]; omega), Bool.false_and])
        go_wp2
        go_ret2
        exact ⟨by first | (rw [HR.out]; done) | (rw [HR.out]; rfl), rfl⟩
end Go.Proofs.YtagenkofoacajaaGreat
