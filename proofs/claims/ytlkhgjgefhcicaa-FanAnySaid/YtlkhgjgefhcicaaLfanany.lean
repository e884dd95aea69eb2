/- FanAny: whatever a fan says, a text is found among sums that rise only where it stands. No condition. -/
import Derived.Test.YtlkhgjgefhcicaaRows
import Derived.Test.YtlkhgjgefhcicaaFt
namespace Go.Proofs.Ytlkhgjgefhcicaa.LFanAny
open Go.RowKit

set_option maxRecDepth 100000 in
set_option maxHeartbeats 3200000 in
theorem walk (fs : List Int) (hfl : fs.length = 16) (hwf : ∀ n ∈ fs, (Lit.int .i64 n).wf = true) (a : Option Addr) (len cap : Nat) (ss : List ByteArray) (x : ByteArray) (w : World) (hsl : SlN w a len ss) (hlc : len ≤ cap) (hcm : cap ≤ maxLen) (hx : x.size ≤ maxLen) (hss : ∀ s ∈ ss, s.size ≤ maxLen) :
    Calls Try.prog 8 #[.agg ⟨fs.map (Value.int .i64)⟩, .slice a len cap, .string x] w fun e w' => e = .returned (.bool true) ∧ Below w.heap.size w w' := by
  have hx2 := hx
  have hcm2 := hcm
  unfold maxLen at hx2 hcm2
  obtain ⟨cs, hcs⟩ : ∃ cs, cs = fs.map (Value.int .i64) := ⟨_, rfl⟩
  have hcl : cs.length = 16 := by rw [hcs, List.length_map, hfl]
  rw [← hcs]
  obtain ⟨C, hC⟩ : ∃ C : Array Value, C = cs.toArray := ⟨_, rfl⟩
  have HCC := Lib.hid hC
  have HCS := Lib.hid hcs
  have HFL := Lib.hid hfl
  have HWF := Lib.hid hwf
  have HIN := Lib.hid (show (Try.prog.info? 38).map (·.size) = some C.size by rw [hC, List.size_toArray, hcl]; kernel_rfl)
  have H0 := Lib.hid (show Below w.heap.size w (w.alloc (.cells C 38)) from (Below.refl _ w).alloc (Nat.le_refl _) _)
  have HH := Lib.hid (MapKept.heap_alloc w (.cells C 38)).1
  have HSL := Lib.hid (hsl.later ((Below.refl _ w).alloc (Nat.le_refl _) (.cells C 38)))
  have HSS := Lib.hid hss
  show Calls Try.prog 8 #[.agg cs.toArray, .slice a len cap, .string x] w _
  rw [← hC]
  clear hsl hss hcs hcl hC hfl hwf
  by_cases g2 : len ≤ 100
  rotate_left
  · go_enter Try.func8, Try.ntmps8
    go_wp2_with fail
    refine (few12_no a len cap _ g2 (by omega)).mono ?_
    rintro e w' ⟨rfl, rfl⟩
    go_wp2_with fail
    refine (fanAwake_any _).mono ?_
    rintro e wz ⟨rfl, hbz⟩
    go_wp2
    go_ret
    exact ⟨rfl, H0.out.trans (hbz.mono H0.out.size)⟩
  by_cases g1 : 1000 < (x.size : Int)
  · go_enter Try.func8, Try.ntmps8
    go_wp2_with fail
    refine (few12_any a len cap ss _ HSL.out g2 HSS.out).mono ?_
    rintro e w' ⟨b, rfl, rfl⟩
    cases b
    all_goals
      go_wp2_with fail
      refine (fanAwake_any _).mono ?_
      rintro e wz ⟨rfl, hbz⟩
      go_wp2
      go_ret
      exact ⟨rfl, H0.out.trans (hbz.mono H0.out.size)⟩
  obtain ⟨z, hz⟩ : ∃ z, z = wR ⟨#[]⟩ ss := ⟨_, rfl⟩
  have HZ := Lib.hid hz
  have H1 := fun q => Lib.hid (bel_drewN2 H0.out q)
  have HQ1 := Lib.hid H1
  clear H1
  by_cases g3 : z = 0
  rotate_left
  · have q0 : (z != 0) = true := by simpa using g3
    clear hz
    go_enter Try.func8, Try.ntmps8
    go_wp2_with fail
    refine (few12_any a len cap ss _ HSL.out g2 HSS.out).mono ?_
    rintro e w' ⟨b, rfl, rfl⟩
    cases b with
    | false =>
      go_wp2_with fail
      refine (fanAwake_any _).mono ?_
      rintro e wz ⟨rfl, hbz⟩
      go_wp2
      go_ret
      exact ⟨rfl, H0.out.trans (hbz.mono H0.out.size)⟩
    | true =>
      go_wp2_with fail
      refine (refWrong_any a len cap ss _ HSL.out (by unfold maxLen; omega)).mono ?_
      rintro e w' ⟨rfl, q, rfl⟩
      rw [← HZ.out]
      go_wp2_with fail
      refine (fanAwake_any _).mono ?_
      rintro e wz ⟨rfl, hbz⟩
      go_wp2
      go_ret
      exact ⟨rfl, (HQ1.out q).out.trans (hbz.mono (HQ1.out q).out.size)⟩
  have hok : wR ⟨#[]⟩ ss = 0 := hz.symm.trans g3
  obtain ⟨_, hri⟩ := sum0_ok ss hok
  clear hz
  subst g3
  have HI := Lib.hid hri
  clear hok hri
  have HFI := Lib.hid (show ∀ W, SlN W a len ss → Calls Try.prog 35 #[.agg C, .slice a len cap, .string x] W (RetF W ss x) from fun W h => by
    rw [HCC.out]
    exact find_int cs fs HCS.out HFL.out HWF.out a len cap ss x W h (by omega) hlc HI.out)
  obtain ⟨K, hK⟩ : ∃ K, K = lessN ss x := ⟨_, rfl⟩
  have HK := Lib.hid hK
  clear hK
  go_enter Try.func8, Try.ntmps8
  go_wp2_with fail
  refine (few12_any a len cap ss _ HSL.out g2 HSS.out).mono ?_
  rintro e w' ⟨b, rfl, rfl⟩
  cases b with
  | false =>
    go_wp2_with fail
    refine (fanAwake_any _).mono ?_
    rintro e wz ⟨rfl, hbz⟩
    go_wp2
    go_ret
    exact ⟨rfl, H0.out.trans (hbz.mono H0.out.size)⟩
  | true =>
    go_wp2_with fail
    refine (refWrong_any a len cap ss _ HSL.out (by unfold maxLen; omega)).mono ?_
    rintro e w' ⟨rfl, q, rfl⟩
    rw [← HZ.out]
    have HB2 := Lib.hid (HQ1.out q).out
    go_wp2_with (refine wpList_load_row rfl 38 (.tmp 3) rfl w.heap.size rfl 38 C (0, 0) _ HH.out Try.underlying38 rfl HIN.out ?_)
    refine (HFI.out _ (show SlN ((w.alloc (.cells C 38)).drewN q) a len ss from HSL.out)).mono ?_
    rintro e w4 ⟨hres, hb4⟩
    have HB4 := Lib.hid (HB2.out.trans (hb4.mono HB2.out.size))
    have HS4 := Lib.hid (SlN.later (w := (w.alloc (.cells C 38)).drewN q) HSL.out hb4)
    clear hb4
    rcases hres with rfl | ⟨hin, rfl⟩
    · go_wp2_with fail
      refine (refAt_any a len cap ss x _ HS4.out (by omega)).mono ?_
      rintro e w5 ⟨y, rfl, hy, rfl⟩
      clear hy
      go_wp2_with fail
      refine (fanAwake_any _).mono ?_
      rintro e wz ⟨rfl, hbz⟩
      go_wp2
      go_ret
      exact ⟨rfl, HB4.out.trans (hbz.mono HB4.out.size)⟩
    · rw [← HK.out]
      go_wp2_with fail
      refine (refAt_any a len cap ss x _ HS4.out (by omega)).mono ?_
      rintro e w5 ⟨y, rfl, hy, rfl⟩
      have hy2 := at_yes HI.out hy hin
      rw [← HK.out] at hy2
      subst hy2
      clear hy hin
      go_wp2_with fail
      refine (fanAwake_any _).mono ?_
      rintro e wz ⟨rfl, hbz⟩
      go_wp2
      go_ret
      exact ⟨rfl, HB4.out.trans (hbz.mono HB4.out.size)⟩
end Go.Proofs.Ytlkhgjgefhcicaa.LFanAny
