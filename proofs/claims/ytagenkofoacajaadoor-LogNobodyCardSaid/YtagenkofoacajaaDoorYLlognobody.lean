/- P15.1: a log that no call made has nothing, and takes nothing; over no disk none is opened. No condition. -/
import Derived.Test.YtagenkofoacajaaDoorG1
namespace Go.Proofs.YtagenkofoacajaaDoor
open Go.RowKit Vi

set_option maxRecDepth 100000 in
set_option maxHeartbeats 4000000 in
theorem lognobody_any (s : ByteArray) (z : Int) (b : Bool) (w : World) :
    Calls Tryd.prog 3 #[.string s, .int .i64 z, .bool b] w fun e w' => e = .returned (.bool true) ∧ Below w.heap.size w w' := by
  by_cases qa : 1000 < s.size
  · have t1 : decide ((s.size : Int) > 1000) = true := decide_eq_true (by omega)
    have t2 : decide (1000 < (s.size : Int)) = true := decide_eq_true (by omega)
    go_enter Tryd.func3, Tryd.ntmps3
    go_wp2_with fail
    refine (awake15_any _).mono ?_
    rintro e wz ⟨rfl, hbz⟩
    go_wp2_with fail
    go_ret
    exact ⟨rfl, hbz⟩
  have t1 : decide ((s.size : Int) > 1000) = false := decide_eq_false (by omega)
  have t2 : decide (1000 < (s.size : Int)) = false := decide_eq_false (by omega)
  clear qa
  cases b
  · have HB := Lib.hid (Below.refl w.heap.size w)
    have HN : Hid (NoLg none w) := Lib.hid (.inl rfl)
    go_enter Tryd.func3, Tryd.ntmps3
    go_wp2_with fail
    refine (nlall HN.out).mono ?_
    rintro e w' ⟨rfl, rfl⟩
    go_wp2_with fail
    refine (nlopen z _).mono ?_
    rintro e w1 ⟨rfl, hb⟩
    have HN := Lib.hid (HN.out.below hb)
    have HB := Lib.hid (HB.out.trans (hb.mono HB.out.size))
    clear hb
    go_wp2_with fail
    refine (nltail HN.out).mono ?_
    rintro e w' ⟨rfl, rfl⟩
    go_wp2_with fail
    refine (nltext HN.out).mono ?_
    rintro e w' ⟨rfl, rfl⟩
    go_wp2_with fail
    refine (nlgrow s HN.out).mono ?_
    rintro e w' ⟨rfl, rfl⟩
    have HB2 := Lib.hid (HB.out.alloc HB.out.size (.cells #[.string s] 9 (0, 0)))
    have HN2 := Lib.hid (HN.out.below ((Below.refl _ _).alloc (Nat.le_refl _) (.cells #[.string s] 9 (0, 0))))
    clear HB HN
    go_wp2_with fail
    refine (nlput (some ⟨w1.heap.size, 0, none⟩) 1 1 HN2.out).mono ?_
    rintro e w' ⟨rfl, rfl⟩
    go_wp2_with fail
    refine (nlwrites z HN2.out).mono ?_
    rintro e w' ⟨rfl, rfl⟩
    go_wp2_with fail
    refine (nlcut z HN2.out).mono ?_
    rintro e w' ⟨rfl, rfl⟩
    go_wp2_with fail
    refine (nllimit z HN2.out).mono ?_
    rintro e w' ⟨rfl, rfl⟩
    go_wp2_with fail
    refine (awake15_any _).mono ?_
    rintro e wz ⟨rfl, hbz⟩
    have HBZ := Lib.hid (HB2.out.trans (hbz.mono HB2.out.size))
    clear hbz
    go_wp2_with fail
    go_ret
    exact ⟨rfl, HBZ.out⟩
  · have HB := Lib.hid ((Below.refl w.heap.size w).alloc (Nat.le_refl _) lgZ)
    have HN : Hid (NoLg (some ⟨w.heap.size, 0, none⟩) (w.alloc lgZ)) := Lib.hid (.inr ⟨_, rfl, blk_new w _⟩)
    obtain ⟨v, hv⟩ : ∃ v, v = w.alloc lgZ := ⟨_, rfl⟩
    rw [← hv] at HB HN
    have HV : Hid (v = w.alloc (.cells #[.pointer none, .int .i64 0, .int .i64 0, .string ⟨#[]⟩] 26 (0, 0))) := Lib.hid hv
    clear hv
    go_enter Tryd.func3, Tryd.ntmps3
    go_upto_region 6 with (fail)
    rw [← HV.out]
    clear HV
    go_wp2_with fail
    refine (nlall HN.out).mono ?_
    rintro e w' ⟨rfl, rfl⟩
    go_wp2_with fail
    refine (nlopen z _).mono ?_
    rintro e w1 ⟨rfl, hb⟩
    have HN := Lib.hid (HN.out.below hb)
    have HB := Lib.hid (HB.out.trans (hb.mono HB.out.size))
    clear hb
    go_wp2_with fail
    refine (nltail HN.out).mono ?_
    rintro e w' ⟨rfl, rfl⟩
    go_wp2_with fail
    refine (nltext HN.out).mono ?_
    rintro e w' ⟨rfl, rfl⟩
    go_wp2_with fail
    refine (nlgrow s HN.out).mono ?_
    rintro e w' ⟨rfl, rfl⟩
    have HB2 := Lib.hid (HB.out.alloc HB.out.size (.cells #[.string s] 9 (0, 0)))
    have HN2 := Lib.hid (HN.out.below ((Below.refl _ _).alloc (Nat.le_refl _) (.cells #[.string s] 9 (0, 0))))
    clear HB HN
    go_wp2_with fail
    refine (nlput (some ⟨w1.heap.size, 0, none⟩) 1 1 HN2.out).mono ?_
    rintro e w' ⟨rfl, rfl⟩
    go_wp2_with fail
    refine (nlwrites z HN2.out).mono ?_
    rintro e w' ⟨rfl, rfl⟩
    go_wp2_with fail
    refine (nlcut z HN2.out).mono ?_
    rintro e w' ⟨rfl, rfl⟩
    go_wp2_with fail
    refine (nllimit z HN2.out).mono ?_
    rintro e w' ⟨rfl, rfl⟩
    go_wp2_with fail
    refine (awake15_any _).mono ?_
    rintro e wz ⟨rfl, hbz⟩
    have HBZ := Lib.hid (HB2.out.trans (hbz.mono HB2.out.size))
    clear hbz
    go_wp2_with fail
    go_ret
    exact ⟨rfl, HBZ.out⟩
end Go.Proofs.YtagenkofoacajaaDoor
