/- Contracts of Scan.End, Byte and Text over this translation where there is no error yet. Conditions: texts of at most a million bytes. -/
import Derived.Test.YtiflieaemgamkaaDoorSmore
import Derived.Test.YtiflieaemgamkaaDoorSnum
import Derived.Test.YtiflieaemgamkaaDoorSerr
import Derived.Lib.Split
namespace Go.Proofs.YtiflieaemgamkaaDoor
open Go.RowKit Vi





set_option maxHeartbeats 800000 in
set_option maxRecDepth 100000 in
theorem text_form (w : World) (B : Nat) (S : ByteArray) (q : Nat) (most : Int) (hS : S.size ≤ 1000000) (hq : q ≤ S.size) (h : Sc w B true S q 0) (hg : gb (S.data.toList.drop q) = false) :
    Calls Tryd.prog 57 #[.pointer (some ⟨B, 0, none⟩), .int .i64 most] w fun e w' => e = .returned (.string ⟨#[]⟩) ∧ Sc w' B true S q 3 ∧ But B w w' := by
  have HG := Lib.hid hg
  clear hg
  go_enter Tryd.func57, Tryd.ntmps57
  go_wp2_with fail
  refine (num_form w B S q most hS hq h HG.out).mono ?_
  rintro e w1 ⟨rfl, hs1, hb1⟩
  go_wp2_with fail
  refine (fix_err w1 B true S q 3 0 hs1 (Or.inr (by omega))).mono ?_
  rintro e w2 ⟨rfl, hs2, hb2⟩
  go_wp2_with fail
  go_ret
  exact ⟨rfl, hs2, hb1.trans hb2⟩

set_option maxHeartbeats 800000 in
set_option maxRecDepth 100000 in
theorem text_limit (w : World) (B : Nat) (S : ByteArray) (q : Nat) (most : Int) (hS : S.size ≤ 1000000) (hq : q ≤ S.size) (h : Sc w B true S q 0) (hg : gb (S.data.toList.drop q) = true) (hm1 : most ≤ 9223372036854775807) (hm : most < 0 ∨ most < gn (S.data.toList.drop q)) :
    Calls Tryd.prog 57 #[.pointer (some ⟨B, 0, none⟩), .int .i64 most] w fun e w' => e = .returned (.string ⟨#[]⟩) ∧ Sc w' B true S q 5 ∧ But B w w' := by
  have HG := Lib.hid hg
  have HM := Lib.hid hm
  clear hg hm
  go_enter Tryd.func57, Tryd.ntmps57
  go_wp2_with fail
  refine (num_limit w B S q most hS hq h HG.out hm1 HM.out).mono ?_
  rintro e w1 ⟨rfl, hs1, hb1⟩
  go_wp2_with fail
  refine (fix_err w1 B true S q 5 0 hs1 (Or.inr (by omega))).mono ?_
  rintro e w2 ⟨rfl, hs2, hb2⟩
  go_wp2_with fail
  go_ret
  exact ⟨rfl, hs2, hb1.trans hb2⟩

set_option maxHeartbeats 800000 in
set_option maxRecDepth 100000 in
theorem text_short (w : World) (B : Nat) (S : ByteArray) (q : Nat) (most : Int) (hS : S.size ≤ 1000000) (hq : q ≤ S.size) (h : Sc w B true S q 0) (hg : gb (S.data.toList.drop q) = true) (hm0 : 0 ≤ most) (hm1 : most ≤ 9223372036854775807) (hm : (gn (S.data.toList.drop q) : Int) ≤ most)
    (hr : S.size - (q + gk (S.data.toList.drop q)) < gn (S.data.toList.drop q)) :
    Calls Tryd.prog 57 #[.pointer (some ⟨B, 0, none⟩), .int .i64 most] w fun e w' => e = .returned (.string ⟨#[]⟩) ∧ Sc w' B true S (q + gk (S.data.toList.drop q)) 3 ∧ But B w w' := by
  have HG := Lib.hid hg
  have hkl := gk_le (S.data.toList.drop q)
  have hdl : (S.data.toList.drop q).length = S.size - q := by simp
  rw [hdl] at hkl
  clear hg hdl
  go_enter Tryd.func57, Tryd.ntmps57
  go_wp2_with fail
  refine (num_yes w B S q most hS hq h HG.out hm0 hm1 hm).mono ?_
  rintro e w1 ⟨rfl, hs1, hb1⟩
  go_wp2_with fail
  refine (fix_no w1 B S _ _ hS (by omega) hs1 (Or.inr (by omega))).mono ?_
  rintro e w2 ⟨rfl, hs2, hb2⟩
  go_wp2_with fail
  go_ret
  exact ⟨rfl, hs2, hb1.trans hb2⟩

set_option maxHeartbeats 800000 in
set_option maxRecDepth 100000 in
theorem text_yes (w : World) (B : Nat) (S : ByteArray) (q : Nat) (most : Int) (hS : S.size ≤ 1000000) (hq : q ≤ S.size) (h : Sc w B true S q 0) (hg : gb (S.data.toList.drop q) = true) (hm0 : 0 ≤ most) (hm1 : most ≤ 9223372036854775807) (hm : (gn (S.data.toList.drop q) : Int) ≤ most)
    (hr : gn (S.data.toList.drop q) ≤ S.size - (q + gk (S.data.toList.drop q))) :
    Calls Tryd.prog 57 #[.pointer (some ⟨B, 0, none⟩), .int .i64 most] w fun e w' => e = .returned (.string ((S.extract (q + gk (S.data.toList.drop q)) S.size).extract 0 (gn (S.data.toList.drop q)))) ∧ Sc w' B true S (q + gk (S.data.toList.drop q) + gn (S.data.toList.drop q)) 0 ∧ But B w w' := by
  have HG := Lib.hid hg
  have hkl := gk_le (S.data.toList.drop q)
  have hdl : (S.data.toList.drop q).length = S.size - q := by simp
  rw [hdl] at hkl
  clear hg hdl
  go_enter Tryd.func57, Tryd.ntmps57
  go_wp2_with fail
  refine (num_yes w B S q most hS hq h HG.out hm0 hm1 hm).mono ?_
  rintro e w1 ⟨rfl, hs1, hb1⟩
  go_wp2_with fail
  refine (fix_yes w1 B S _ _ hS (by omega) hs1 hr).mono ?_
  rintro e w2 ⟨rfl, hs2, hb2⟩
  go_wp2_with fail
  go_ret
  exact ⟨rfl, hs2, hb1.trans hb2⟩
end Go.Proofs.YtiflieaemgamkaaDoor
