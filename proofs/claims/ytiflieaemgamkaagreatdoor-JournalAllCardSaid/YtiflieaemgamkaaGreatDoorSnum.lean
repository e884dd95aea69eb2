/- Contracts of Scan.Byte, Num, Int, Text, Rest, Fail and End over this translation: what each piece answers, and how the Scan is then. Conditions: texts of at most a million bytes. -/
import Derived.Test.YtiflieaemgamkaaGreatDoorSfix
import Derived.Test.YtiflieaemgamkaaGreatDoorVget
namespace Go.Proofs.YtiflieaemgamkaaGreatDoor
open Go.RowKit Vi

theorem ext_data (s : ByteArray) (p : Nat) : (s.extract p s.size).data.toList = s.data.toList.drop p := by
  rw [ByteArray.data_extract, Array.toList_extract]
  simp only [List.extract]
  exact List.take_of_length_le (by simp)

set_option maxHeartbeats 400000 in
set_option maxRecDepth 100000 in
theorem num1_form (L : ByteArray) (b1 b2 : Nat) (w : World) (hL : L.size ≤ maxLen) (hg : gb L.data.toList = false) :
    Calls Tryz.prog 230 #[.string L, .pointer (some ⟨b1, 0, none⟩), .pointer (some ⟨b2, 0, none⟩)] w fun e w' => e = .returned (.tuple #[.int .i64 0, .int .i64 3]) ∧ w = w' := by
  go_enter Tryz.func230, Tryz.ntmps230
  go_wp2_with fail
  refine (get_any L _ hL).mono ?_
  rintro e w1 ⟨rfl, rfl⟩
  unfold gv
  rw [hg]
  clear hg
  go_wp2
  go_ret2
  exact ⟨rfl, rfl⟩
set_option maxHeartbeats 400000 in
set_option maxRecDepth 100000 in
theorem num1_limit (L : ByteArray) (most : Int) (b1 b2 : Nat) (w : World) (hL : L.size ≤ maxLen) (hg : gb L.data.toList = true) (hc1 : w.cell? ⟨b1, 0, none⟩ = some (.int .i64 most)) (hm1 : most ≤ 9223372036854775807) (hm : most < 0 ∨ most < gn L.data.toList) :
    Calls Tryz.prog 230 #[.string L, .pointer (some ⟨b1, 0, none⟩), .pointer (some ⟨b2, 0, none⟩)] w fun e w' => e = .returned (.tuple #[.int .i64 0, .int .i64 5]) ∧ w = w' := by
  have hgl := gn_lt L.data.toList
  by_cases h0 : most < 0
  · clear hm
    go_enter Tryz.func230, Tryz.ntmps230
    go_wp2_with fail
    refine (get_any L _ hL).mono ?_
    rintro e w1 ⟨rfl, rfl⟩
    unfold gv
    rw [hg]
    generalize gn L.data.toList = x1 at *
    generalize gk L.data.toList = x2 at *
    clear hg
    go_wp2
    go_ret2
    exact ⟨rfl, rfl⟩
  · have hm2 : most < gn L.data.toList := by omega
    clear hm
    go_enter Tryz.func230, Tryz.ntmps230
    go_wp2_with fail
    refine (get_any L _ hL).mono ?_
    rintro e w1 ⟨rfl, rfl⟩
    unfold gv
    rw [hg]
    generalize gn L.data.toList = x1 at *
    generalize gk L.data.toList = x2 at *
    clear hg
    go_wp2
    go_ret2
    exact ⟨rfl, rfl⟩
set_option maxHeartbeats 400000 in
set_option maxRecDepth 100000 in
theorem num1_yes (L : ByteArray) (most : Int) (b1 b2 : Nat) (s0 : Value) (w : World) (hL : L.size ≤ maxLen) (hg : gb L.data.toList = true) (hc1 : w.cell? ⟨b1, 0, none⟩ = some (.int .i64 most)) (hc2 : w.cell? ⟨b2, 0, none⟩ = some s0) (hf2 : w.frozen? ⟨b2, 0, none⟩ = false)
    (hm0 : 0 ≤ most) (hm1 : most ≤ 9223372036854775807) (hm : (gn L.data.toList : Int) ≤ most) :
    Calls Tryz.prog 230 #[.string L, .pointer (some ⟨b1, 0, none⟩), .pointer (some ⟨b2, 0, none⟩)] w fun e w' => e = .returned (.tuple #[.int .i64 (gk L.data.toList : Int), .int .i64 0]) ∧ w.setCell ⟨b2, 0, none⟩ (.int .i64 (gn L.data.toList : Int)) = w' := by
  go_enter Tryz.func230, Tryz.ntmps230
  go_wp2_with fail
  refine (get_any L _ hL).mono ?_
  rintro e w1 ⟨rfl, rfl⟩
  unfold gv
  rw [hg]
  have hkl := gk_le L.data.toList
  have hll : L.data.toList.length = L.size := by simp
  rw [hll] at hkl
  unfold maxLen at hL
  clear hg hll
  go_wp2
  go_ret2
  exact ⟨rfl, rfl⟩

set_option maxHeartbeats 800000 in
set_option maxRecDepth 100000 in
theorem num_form (w : World) (B : Nat) (S : ByteArray) (q : Nat) (most : Int) (hS : S.size ≤ 1000000) (hq : q ≤ S.size) (h : Sc w B true S q 0) (hg : gb (S.data.toList.drop q) = false) :
    Calls Tryz.prog 204 #[.pointer (some ⟨B, 0, none⟩), .int .i64 most] w fun e w' => e = .returned (.int .i64 0) ∧ Sc w' B true S q 3 ∧ But B w w' := by
  have hlt := h.lt
  have c0 := h.c0
  have c1 := h.c1
  have c2 := h.c2
  have c3 := h.c3
  have f2 := h.f2
  have f3 := h.f3
  have HG := Lib.hid hg
  clear hg
  go_enter Tryz.func204, Tryz.ntmps204
  go_wp2
  have hes : (S.extract q S.size).size = S.size - q := by rw [ByteArray.size_extract]; omega
  have hex : (S.extract q S.size).data.toList = S.data.toList.drop q := ext_data S q
  have HES := Lib.hid hes
  have HEX := Lib.hid hex
  clear hes hex
  have g2 : 0 ≤ (q : Int) := by omega
  have g3 : (q : Int).toNat = q := by omega
  go_region_with (go_at_call 230; refine (num1_form _ w.heap.size (w.heap.size + 1) _ (by rw [HES.out]; unfold maxLen; omega) (by rw [HEX.out]; exact HG.out)).mono ?_; rintro e w' ⟨rfl, rfl⟩)
  all_goals
    go_wp2
    go_ret
    exact ⟨rfl, (((h.fail 3).alloc _).alloc _).drew, ((((But.refl B w).set 3 _).alloc _).alloc _).drew⟩

set_option maxHeartbeats 800000 in
set_option maxRecDepth 100000 in
theorem num_limit (w : World) (B : Nat) (S : ByteArray) (q : Nat) (most : Int) (hS : S.size ≤ 1000000) (hq : q ≤ S.size) (h : Sc w B true S q 0) (hg : gb (S.data.toList.drop q) = true) (hm1 : most ≤ 9223372036854775807) (hm : most < 0 ∨ most < gn (S.data.toList.drop q)) :
    Calls Tryz.prog 204 #[.pointer (some ⟨B, 0, none⟩), .int .i64 most] w fun e w' => e = .returned (.int .i64 0) ∧ Sc w' B true S q 5 ∧ But B w w' := by
  have hlt := h.lt
  have c0 := h.c0
  have c1 := h.c1
  have c2 := h.c2
  have c3 := h.c3
  have f2 := h.f2
  have f3 := h.f3
  have HG := Lib.hid hg
  have HM := Lib.hid hm
  clear hg hm
  go_enter Tryz.func204, Tryz.ntmps204
  go_wp2
  have hes : (S.extract q S.size).size = S.size - q := by rw [ByteArray.size_extract]; omega
  have hex : (S.extract q S.size).data.toList = S.data.toList.drop q := ext_data S q
  have HES := Lib.hid hes
  have HEX := Lib.hid hex
  clear hes hex
  have g2 : 0 ≤ (q : Int) := by omega
  have g3 : (q : Int).toNat = q := by omega
  go_region_with (go_at_call 230; refine (num1_limit _ most w.heap.size (w.heap.size + 1) _ (by rw [HES.out]; unfold maxLen; omega) (by rw [HEX.out]; exact HG.out) (by simp) hm1 (by rw [HEX.out]; exact HM.out)).mono ?_; rintro e w' ⟨rfl, rfl⟩)
  all_goals
    go_wp2
    go_ret
    exact ⟨rfl, (((h.fail 5).alloc _).alloc _).drew, ((((But.refl B w).set 3 _).alloc _).alloc _).drew⟩

set_option maxHeartbeats 800000 in
set_option maxRecDepth 100000 in
theorem num_yes (w : World) (B : Nat) (S : ByteArray) (q : Nat) (most : Int) (hS : S.size ≤ 1000000) (hq : q ≤ S.size) (h : Sc w B true S q 0) (hg : gb (S.data.toList.drop q) = true) (hm0 : 0 ≤ most) (hm1 : most ≤ 9223372036854775807) (hm : (gn (S.data.toList.drop q) : Int) ≤ most) :
    Calls Tryz.prog 204 #[.pointer (some ⟨B, 0, none⟩), .int .i64 most] w fun e w' => e = .returned (.int .i64 (gn (S.data.toList.drop q) : Int)) ∧ Sc w' B true S (q + gk (S.data.toList.drop q)) 0 ∧ But B w w' := by
  have hlt := h.lt
  have c0 := h.c0
  have c1 := h.c1
  have c2 := h.c2
  have c3 := h.c3
  have f2 := h.f2
  have f3 := h.f3
  have hkl := gk_le (S.data.toList.drop q)
  have hdl : (S.data.toList.drop q).length = S.size - q := by simp
  rw [hdl] at hkl
  clear hdl
  have HG := Lib.hid hg
  clear hg
  go_enter Tryz.func204, Tryz.ntmps204
  go_wp2
  have hes : (S.extract q S.size).size = S.size - q := by rw [ByteArray.size_extract]; omega
  have hex : (S.extract q S.size).data.toList = S.data.toList.drop q := ext_data S q
  have HES := Lib.hid hes
  have HEX := Lib.hid hex
  clear hes hex
  have g2 : 0 ≤ (q : Int) := by omega
  have g3 : (q : Int).toNat = q := by omega
  go_region_with (go_at_call 230; refine (num1_yes _ most w.heap.size (w.heap.size + 1) (.int .i64 0) _ (by rw [HES.out]; unfold maxLen; omega) (by rw [HEX.out]; exact HG.out) (by simp) (by simp) (by simp) hm0 hm1 (by rw [HEX.out]; exact hm)).mono ?_; rw [HEX.out]; rintro e w' ⟨rfl, rfl⟩)
  all_goals
    go_wp2
    go_ret
    exact ⟨rfl, (((h.to (q + gk (S.data.toList.drop q)) (by omega)).alloc _).alloc _).drew, ((((But.refl B w).set 2 _).alloc _).alloc _).drew⟩
end Go.Proofs.YtiflieaemgamkaaGreatDoor
