/- ValueOrder: which of any two values stands first; of three the first one stands ahead of the third, if it does of the second, and that of the third. No condition. -/
import Derived.Test.YtipggdjeejhecaaDoorLvo
namespace Go.Proofs.YtipggdjeejhecaaDoor.LValueOrder
open Go.RowKit Vi Hm

set_option maxRecDepth 100000 in
set_option maxHeartbeats 2000000 in
theorem walk_e (k1 n1 : Int) (t1 : ByteArray) (k2 n2 : Int) (t2 : ByteArray) (k3 n3 : Int) (t3 : ByteArray) (w : World) (h12 : vless k1 n1 t1 k2 n2 t2 = false) (h21 : vless k2 n2 t2 k1 n1 t1 = false) :
    Calls Tryd.prog 5 #[.agg #[.int .i64 k1, .int .i64 n1, .string t1], .agg #[.int .i64 k2, .int .i64 n2, .string t2], .agg #[.int .i64 k3, .int .i64 n3, .string t3]] w fun e w' => e = .returned (.bool true) ∧ Below w.heap.size w w' := by
  have L12 := Lib.hid (fun W : World => vless_any k1 n1 t1 k2 n2 t2 W)
  have L21 := Lib.hid (fun W : World => vless_any k2 n2 t2 k1 n1 t1 W)
  have C12 := Lib.hid (fun W : World => vcmp_any k1 n1 t1 k2 n2 t2 W)
  have C21 := Lib.hid (fun W : World => vcmp_any k2 n2 t2 k1 n1 t1 W)
  obtain ⟨e1, e2, e3⟩ := veq h12 h21
  have q12 : vcmp k1 n1 t1 k2 n2 t2 = 0 := by rw [vcmp_is, h12, h21]; rfl
  have q21 : vcmp k2 n2 t2 k1 n1 t1 = 0 := by rw [vcmp_is, h21, h12]; rfl
  rw [h12] at L12
  rw [h21] at L21
  rw [q12] at C12
  rw [q21] at C21
  have hq : (t1.toList == t2.toList) = true := by rw [beq_iff_eq]; exact e3
  obtain rfl : k2 = k1 := e1.symm
  obtain rfl : n2 = n1 := e2.symm
  clear q12 q21 h12 h21 e1 e2
  go_enter Tryd.func5, Tryd.ntmps5
  go_upto_region 1 with (fail)
  refine gen_worldW (ThreeV w k2 n2 t1 k2 n2 t2 k3 n3 t3) (threeV w k2 n2 t1 k2 n2 t2 k3 n3 t3) ?_
  intro W0 tv
  have TV := Lib.hid tv
  obtain ⟨c0, c1, c2, d0, d1, d2, e0, e1, e2, -⟩ := tv
  go_wp2_with fail
  clear c0 c1 c2 d0 d1 d2 e0 e1 e2
  refine (L12.out _).mono ?_
  rintro e V ⟨rfl, hb⟩
  have TV2 := Lib.hid (TV.out.later hb)
  obtain ⟨c0, c1, c2, d0, d1, d2, e0, e1, e2, -⟩ := TV2.out
  clear hb TV
  have TV := Lib.hid TV2.out
  clear TV2
  go_wp2_with fail
  clear c0 c1 c2 d0 d1 d2 e0 e1 e2
  refine (L21.out _).mono ?_
  rintro e V ⟨rfl, hb⟩
  have TV2 := Lib.hid (TV.out.later hb)
  obtain ⟨c0, c1, c2, d0, d1, d2, e0, e1, e2, -⟩ := TV2.out
  clear hb TV
  have TV := Lib.hid TV2.out
  clear TV2
  go_wp2_with fail
  clear c0 c1 c2 d0 d1 d2 e0 e1 e2
  refine (C12.out _).mono ?_
  rintro e V ⟨rfl, hb⟩
  have TV2 := Lib.hid (TV.out.later hb)
  obtain ⟨c0, c1, c2, d0, d1, d2, e0, e1, e2, -⟩ := TV2.out
  clear hb TV
  have TV := Lib.hid TV2.out
  clear TV2
  go_wp2_with fail
  clear c0 c1 c2 d0 d1 d2 e0 e1 e2
  refine (C21.out _).mono ?_
  rintro e V ⟨rfl, hb⟩
  have TV2 := Lib.hid (TV.out.later hb)
  obtain ⟨c0, c1, c2, d0, d1, d2, e0, e1, e2, -⟩ := TV2.out
  clear hb TV
  have TV := Lib.hid TV2.out
  clear TV2
  go_wp2_with fail
  all_goals
    clear c0 c1 c2 d0 d1 d2 e0 e1 e2
    subst_vars
    first
    | (exfalso; refine HS.out ⟨rfl, rfl, ?_⟩; assumption)
    | (refine (C12.out _).mono ?_
       rintro e V ⟨rfl, hb⟩
       have TV2 := Lib.hid (TV.out.later hb)
       obtain ⟨c0, c1, c2, d0, d1, d2, e0, e1, e2, -⟩ := TV2.out
       clear hb TV
       have TV := Lib.hid TV2.out
       clear TV2
       go_wp2_with fail
       clear c0 c1 c2 d0 d1 d2 e0 e1 e2
       refine (awake06 _).mono ?_
       rintro e V ⟨rfl, hb⟩
       have BF := Lib.hid (TV.out.old.trans (hb.mono TV.out.old.size))
       clear hb TV
       go_wp2_with fail
       go_ret
       exact ⟨rfl, BF.out⟩)
theorem walk (k1 n1 : Int) (t1 : ByteArray) (k2 n2 : Int) (t2 : ByteArray) (k3 n3 : Int) (t3 : ByteArray) (w : World) :
    Calls Tryd.prog 5 #[.agg #[.int .i64 k1, .int .i64 n1, .string t1], .agg #[.int .i64 k2, .int .i64 n2, .string t2], .agg #[.int .i64 k3, .int .i64 n3, .string t3]] w fun e w' => e = .returned (.bool true) ∧ Below w.heap.size w w' := by
  cases h12 : vless k1 n1 t1 k2 n2 t2 with
  | true =>
    cases h23 : vless k2 n2 t2 k3 n3 t3 with
    | true => exact walk_lt k1 n1 t1 k2 n2 t2 k3 n3 t3 w h12 h23
    | false => exact walk_lf k1 n1 t1 k2 n2 t2 k3 n3 t3 w h12 h23
  | false =>
    cases h21 : vless k2 n2 t2 k1 n1 t1 with
    | true => exact walk_g k1 n1 t1 k2 n2 t2 k3 n3 t3 w h12 h21
    | false => exact walk_e k1 n1 t1 k2 n2 t2 k3 n3 t3 w h12 h21
end Go.Proofs.YtipggdjeejhecaaDoor.LValueOrder
