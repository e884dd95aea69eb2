/- RollKeys: the sum of any key at any level, and whether a chunk may end there, are the document's. No condition. -/
import Derived.Test.YtnogddjhkdmahaaRows
import Derived.Test.YtnogddjhkdmahaaKc
namespace Go.Proofs.Ytnogddjhkdmahaa.LRollKeys
open Go.RowKit Rm

set_option maxRecDepth 100000 in
set_option maxHeartbeats 1000000 in
theorem walk (level : Int) (s : ByteArray) (w : World) (hs : s.size ≤ maxLen) :
    Calls Try.prog 4 #[.int .i64 level, .string s] w fun e w' => e = .returned (.bool true) ∧ Below w.heap.size w w' := by
  by_cases hb : s.size ≤ 1000
  · have hd : decide ((1000 : Int) < (s.size : Int)) = false := decide_eq_false (by omega)
    have HM := Lib.hid hs
    have HB := Lib.hid hb
    clear hs hb
    obtain ⟨n, hn⟩ : ∃ n, n = rsum (ofL level s) := ⟨_, rfl⟩
    obtain ⟨b, hbb⟩ : ∃ b, b = hitOf level s := ⟨_, rfl⟩
    have C1 := Lib.hid (fun W : World => hn ▸ of_any level s W HM.out)
    have C2 := Lib.hid (fun W : World => hn ▸ rof_any level s W (by have := HB.out; omega))
    have C3 := Lib.hid (fun W : World => hbb ▸ hits_any level s W HM.out)
    have C4 := Lib.hid (fun W : World => hbb ▸ rhits_any level s W (by have := HB.out; omega))
    clear hn hbb
    go_enter Try.func4, Try.ntmps4
    go_wp2_with fail
    refine (C1.out w).mono ?_
    rintro e w1 ⟨rfl, hb⟩
    have B1 := Lib.hid hb
    clear hb
    go_wp2_with fail
    refine (C2.out w1).mono ?_
    rintro e w2 ⟨rfl, hb⟩
    have B2 := Lib.hid hb
    clear hb
    go_wp2_with fail
    refine (C3.out w2).mono ?_
    rintro e w3 ⟨rfl, hb⟩
    have B3 := Lib.hid hb
    clear hb
    go_wp2_with fail
    refine (C4.out w3).mono ?_
    rintro e w4 ⟨rfl, hb⟩
    have B4 := Lib.hid hb
    clear hb
    go_wp2_with fail
    refine (awake17 w4).mono ?_
    rintro e w5 ⟨rfl, hb⟩
    have B5 := Lib.hid hb
    clear hb
    go_wp2_with fail
    go_ret
    refine ⟨rfl, ?_⟩
    have s1 := B1.out.size
    have s2 := B2.out.size
    have s3 := B3.out.size
    have s4 := B4.out.size
    exact (((B1.out.trans (B2.out.mono s1)).trans (B3.out.mono (by omega))).trans (B4.out.mono (by omega))).trans (B5.out.mono (by omega))
  · have hd : decide ((1000 : Int) < (s.size : Int)) = true := decide_eq_true (by omega)
    clear hb
    go_enter Try.func4, Try.ntmps4
    go_wp2_with fail
    refine (awake17 w).mono ?_
    rintro e w5 ⟨rfl, hb⟩
    have B5 := Lib.hid hb
    clear hb
    go_wp2_with fail
    go_ret
    exact ⟨rfl, B5.out⟩
end Go.Proofs.Ytnogddjhkdmahaa.LRollKeys
