/- Contracts of Scan.End, Byte and Text over this translation where there is no error yet. Conditions: texts of at most a million bytes. -/
import Derived.Test.YtiflieaemgamkaaGreatDoorSmore
import Derived.Test.YtiflieaemgamkaaGreatDoorSnum
import Derived.Test.YtiflieaemgamkaaGreatDoorSerr
import Derived.Lib.Split
namespace Go.Proofs.YtiflieaemgamkaaGreatDoor
open Go.RowKit Vi

set_option maxHeartbeats 800000 in
set_option maxRecDepth 100000 in
theorem end_yes (w : World) (B : Nat) (S : ByteArray) (h : Sc w B true S S.size 0) (hS : S.size ≤ 1000000) :
    Calls Tryz.prog 206 #[.pointer (some ⟨B, 0, none⟩)] w fun e w' => e = .returned (.int .i64 0) ∧ Sc w' B true S S.size 0 ∧ But B w w' := by
  have hlt := h.lt
  have c0 := h.c0
  have c1 := h.c1
  have c2 := h.c2
  have c3 := h.c3
  have f2 := h.f2
  go_enter Tryz.func206, Tryz.ntmps206
  go_wp2
  have hes : (S.extract S.size S.size).size = 0 := by rw [ByteArray.size_extract]; omega
  have HES := Lib.hid hes
  clear hes
  have g2 : 0 ≤ (S.size : Int) := by omega
  have g3 : (S.size : Int).toNat = S.size := by omega
  go_region_with (go_at_call 232; refine (end1_yes _ _ (by first | exact HES.out | rfl | simp)).mono ?_; rintro e w' ⟨rfl, rfl⟩)
  all_goals
    go_wp2
    go_ret
    exact ⟨rfl, (h.to S.size (by omega)).drew, ((But.refl B w).set 2 _).drew⟩

set_option maxHeartbeats 800000 in
set_option maxRecDepth 100000 in
theorem end_no (w : World) (B : Nat) (S : ByteArray) (q : Nat) (h : Sc w B true S q 0) (_hS : S.size ≤ 1000000) (hq : q < S.size) :
    Calls Tryz.prog 206 #[.pointer (some ⟨B, 0, none⟩)] w fun e w' => e = .returned (.int .i64 3) ∧ Sc w' B true S q 3 ∧ But B w w' := by
  have hlt := h.lt
  have c0 := h.c0
  have c1 := h.c1
  have c2 := h.c2
  have c3 := h.c3
  have f3 := h.f3
  go_enter Tryz.func206, Tryz.ntmps206
  go_wp2
  have hes : 0 < (S.extract q S.size).size := by rw [ByteArray.size_extract]; omega
  have HES := Lib.hid hes
  clear hes
  have g2 : 0 ≤ (q : Int) := by omega
  have g3 : (q : Int).toNat = q := by omega
  go_region_with (go_at_call 232; refine (end1_no _ _ HES.out).mono ?_; rintro e w' ⟨rfl, rfl⟩)
  all_goals
    go_wp2
    go_ret
    exact ⟨rfl, (h.fail 3).drew, ((But.refl B w).set 3 _).drew⟩



set_option maxHeartbeats 800000 in
set_option maxRecDepth 100000 in
theorem text_form (w : World) (B : Nat) (S : ByteArray) (q : Nat) (most : Int) (hS : S.size ≤ 1000000) (hq : q ≤ S.size) (h : Sc w B true S q 0) (hg : gb (S.data.toList.drop q) = false) :
    Calls Tryz.prog 205 #[.pointer (some ⟨B, 0, none⟩), .int .i64 most] w fun e w' => e = .returned (.string ⟨#[]⟩) ∧ Sc w' B true S q 3 ∧ But B w w' := by
  have HG := Lib.hid hg
  clear hg
  go_enter Tryz.func205, Tryz.ntmps205
  go_wp2_with fail
  refine (num_form w B S q most hS hq h HG.out).mono ?_
  rintro e w1 ⟨rfl, hs1, hb1⟩
  go_wp2_with fail
  refine (fix_err w1 B true S q 3 0 hs1 (Or.inr (by omega))).mono ?_
  rintro e w2 ⟨rfl, hs2, hb2⟩
  go_wp2_with fail
  go_ret
  exact ⟨rfl, hs2, hb1.trans hb2⟩

set_option maxHeartbeats 800000 in
set_option maxRecDepth 100000 in
theorem text_limit (w : World) (B : Nat) (S : ByteArray) (q : Nat) (most : Int) (hS : S.size ≤ 1000000) (hq : q ≤ S.size) (h : Sc w B true S q 0) (hg : gb (S.data.toList.drop q) = true) (hm1 : most ≤ 9223372036854775807) (hm : most < 0 ∨ most < gn (S.data.toList.drop q)) :
    Calls Tryz.prog 205 #[.pointer (some ⟨B, 0, none⟩), .int .i64 most] w fun e w' => e = .returned (.string ⟨#[]⟩) ∧ Sc w' B true S q 5 ∧ But B w w' := by
  have HG := Lib.hid hg
  have HM := Lib.hid hm
  clear hg hm
  go_enter Tryz.func205, Tryz.ntmps205
  go_wp2_with fail
  refine (num_limit w B S q most hS hq h HG.out hm1 HM.out).mono ?_
  rintro e w1 ⟨rfl, hs1, hb1⟩
  go_wp2_with fail
  refine (fix_err w1 B true S q 5 0 hs1 (Or.inr (by omega))).mono ?_
  rintro e w2 ⟨rfl, hs2, hb2⟩
  go_wp2_with fail
  go_ret
  exact ⟨rfl, hs2, hb1.trans hb2⟩

set_option maxHeartbeats 800000 in
set_option maxRecDepth 100000 in
theorem text_short (w : World) (B : Nat) (S : ByteArray) (q : Nat) (most : Int) (hS : S.size ≤ 1000000) (hq : q ≤ S.size) (h : Sc w B true S q 0) (hg : gb (S.data.toList.drop q) = true) (hm0 : 0 ≤ most) (hm1 : most ≤ 9223372036854775807) (hm : (gn (S.data.toList.drop q) : Int) ≤ most)
    (hr : S.size - (q + gk (S.data.toList.drop q)) < gn (S.data.toList.drop q)) :
    Calls Tryz.prog 205 #[.pointer (some ⟨B, 0, none⟩), .int .i64 most] w fun e w' => e = .returned (.string ⟨#[]⟩) ∧ Sc w' B true S (q + gk (S.data.toList.drop q)) 3 ∧ But B w w' := by
  have HG := Lib.hid hg
  have hkl := gk_le (S.data.toList.drop q)
  have hdl : (S.data.toList.drop q).length = S.size - q := by simp
  rw [hdl] at hkl
  clear hg hdl
  go_enter Tryz.func205, Tryz.ntmps205
  go_wp2_with fail
  refine (num_yes w B S q most hS hq h HG.out hm0 hm1 hm).mono ?_
  rintro e w1 ⟨rfl, hs1, hb1⟩
  go_wp2_with fail
  refine (fix_no w1 B S _ _ hS (by omega) hs1 (Or.inr (by omega))).mono ?_
  rintro e w2 ⟨rfl, hs2, hb2⟩
  go_wp2_with fail
  go_ret
  exact ⟨rfl, hs2, hb1.trans hb2⟩

set_option maxHeartbeats 800000 in
set_option maxRecDepth 100000 in
theorem text_yes (w : World) (B : Nat) (S : ByteArray) (q : Nat) (most : Int) (hS : S.size ≤ 1000000) (hq : q ≤ S.size) (h : Sc w B true S q 0) (hg : gb (S.data.toList.drop q) = true) (hm0 : 0 ≤ most) (hm1 : most ≤ 9223372036854775807) (hm : (gn (S.data.toList.drop q) : Int) ≤ most)
    (hr : gn (S.data.toList.drop q) ≤ S.size - (q + gk (S.data.toList.drop q))) :
    Calls Tryz.prog 205 #[.pointer (some ⟨B, 0, none⟩), .int .i64 most] w fun e w' => e = .returned (.string ((S.extract (q + gk (S.data.toList.drop q)) S.size).extract 0 (gn (S.data.toList.drop q)))) ∧ Sc w' B true S (q + gk (S.data.toList.drop q) + gn (S.data.toList.drop q)) 0 ∧ But B w w' := by
  have HG := Lib.hid hg
  have hkl := gk_le (S.data.toList.drop q)
  have hdl : (S.data.toList.drop q).length = S.size - q := by simp
  rw [hdl] at hkl
  clear hg hdl
  go_enter Tryz.func205, Tryz.ntmps205
  go_wp2_with fail
  refine (num_yes w B S q most hS hq h HG.out hm0 hm1 hm).mono ?_
  rintro e w1 ⟨rfl, hs1, hb1⟩
  go_wp2_with fail
  refine (fix_yes w1 B S _ _ hS (by omega) hs1 hr).mono ?_
  rintro e w2 ⟨rfl, hs2, hb2⟩
  go_wp2_with fail
  go_ret
  exact ⟨rfl, hs2, hb1.trans hb2⟩
end Go.Proofs.YtiflieaemgamkaaGreatDoor
