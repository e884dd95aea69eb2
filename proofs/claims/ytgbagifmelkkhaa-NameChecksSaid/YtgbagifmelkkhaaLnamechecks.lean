/- NameChecks: whether any text is a name, and any list a row, is as the document says. No condition. -/
import Derived.Test.YtgbagifmelkkhaaRows
import Derived.Test.YtgbagifmelkkhaaNy
namespace Go.Proofs.Ytgbagifmelkkhaa.LNameChecks
open Go.RowKit

set_option maxRecDepth 100000 in
set_option maxHeartbeats 1600000 in
theorem walk (s : ByteArray) (a : Option Addr) (len cap : Nat) (ss : List ByteArray) (w : World) (hsl : SlN w a len ss) (hlm : len ≤ maxLen) (hs : s.size ≤ maxLen) (hss : ∀ x ∈ ss, x.size ≤ maxLen) :
    Calls Try.prog 8 #[.string s, .slice a len cap] w fun e w' => e = .returned (.bool true) ∧ Below w.heap.size w w' := by
  have hs2 := hs
  have hlm2 := hlm
  unfold maxLen at hs2 hlm2
  have HSL := Lib.hid hsl
  have HSS := Lib.hid hss
  clear hsl hss
  by_cases g1 : 1000 < (s.size : Int)
  · go_enter Try.func8, Try.ntmps8
    go_wp2_with fail
    refine (nameAwake_any _).mono ?_
    rintro e w1 ⟨rfl, hb1⟩
    go_wp2
    go_ret
    exact ⟨rfl, hb1⟩
  by_cases g2 : len ≤ 60
  rotate_left
  · go_enter Try.func8, Try.ntmps8
    go_wp2_with fail
    refine (few5_no a len cap w g2 (by omega)).mono ?_
    rintro e w' ⟨rfl, rfl⟩
    go_wp2_with fail
    refine (nameAwake_any _).mono ?_
    rintro e w1 ⟨rfl, hb1⟩
    go_wp2
    go_ret
    exact ⟨rfl, hb1⟩
  have q2 : (rowE ⟨#[]⟩ ss == rowE ⟨#[]⟩ ss) = true := by simp
  cases hn : nm s with
  | true =>
    have HN := Lib.hid hn
    have HC := Lib.hid (nck_yes s hn)
    clear hn
    go_enter Try.func8, Try.ntmps8
    go_wp2_with fail
    refine (few5_any a len cap ss w HSL.out g2 HSS.out).mono ?_
    rintro e w' ⟨b, rfl, rfl⟩
    cases b with
    | false =>
      go_wp2_with fail
      refine (nameAwake_any _).mono ?_
      rintro e w1 ⟨rfl, hb1⟩
      go_wp2
      go_ret
      exact ⟨rfl, hb1⟩
    | true =>
      go_wp2_with fail
      refine (ncheck_any s _ hs).mono ?_
      rintro e w' ⟨rfl, rfl⟩
      rw [HC.out]
      go_wp2_with fail
      refine (refIs_any s _ hs).mono ?_
      rintro e w' ⟨rfl, rfl⟩
      rw [HN.out]
      go_wp2_with fail
      refine (refIs_any s _ hs).mono ?_
      rintro e w' ⟨rfl, rfl⟩
      rw [HN.out]
      go_wp2_with fail
      refine (nrow_any a len cap ss _ HSL.out hlm HSS.out).mono ?_
      rintro e w' ⟨rfl, rfl⟩
      go_wp2_with fail
      refine (refRow_any a len cap ss _ HSL.out hlm HSS.out).mono ?_
      rintro e w' ⟨rfl, q, rfl⟩
      go_wp2_with fail
      refine (nameAwake_any _).mono ?_
      rintro e w2 ⟨rfl, hb2⟩
      go_wp2
      go_ret
      exact ⟨rfl, ⟨hb2.os, hb2.tape, hb2.output, hb2.size, hb2.block⟩⟩
  | false =>
    have HN := Lib.hid hn
    have HC := Lib.hid (nck_no s hn)
    clear hn
    go_enter Try.func8, Try.ntmps8
    go_wp2_with fail
    refine (few5_any a len cap ss w HSL.out g2 HSS.out).mono ?_
    rintro e w' ⟨b, rfl, rfl⟩
    cases b with
    | false =>
      go_wp2_with fail
      refine (nameAwake_any _).mono ?_
      rintro e w1 ⟨rfl, hb1⟩
      go_wp2
      go_ret
      exact ⟨rfl, hb1⟩
    | true =>
      go_wp2_with fail
      refine (ncheck_any s _ hs).mono ?_
      rintro e w' ⟨rfl, rfl⟩
      rw [HC.out]
      go_wp2_with fail
      refine (refIs_any s _ hs).mono ?_
      rintro e w' ⟨rfl, rfl⟩
      rw [HN.out]
      go_wp2_with fail
      refine (refIs_any s _ hs).mono ?_
      rintro e w' ⟨rfl, rfl⟩
      rw [HN.out]
      go_wp2_with fail
      refine (ncheck_any s _ hs).mono ?_
      rintro e w' ⟨rfl, rfl⟩
      rw [HC.out]
      go_wp2_with fail
      refine (nrow_any a len cap ss _ HSL.out hlm HSS.out).mono ?_
      rintro e w' ⟨rfl, rfl⟩
      go_wp2_with fail
      refine (refRow_any a len cap ss _ HSL.out hlm HSS.out).mono ?_
      rintro e w' ⟨rfl, q, rfl⟩
      go_wp2_with fail
      refine (nameAwake_any _).mono ?_
      rintro e w2 ⟨rfl, hb2⟩
      go_wp2
      go_ret
      exact ⟨rfl, ⟨hb2.os, hb2.tape, hb2.output, hb2.size, hb2.block⟩⟩
end Go.Proofs.Ytgbagifmelkkhaa.LNameChecks
