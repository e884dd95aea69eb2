/- Contracts of Scan.Int, Rest, Fail and End over this translation: what each piece answers, and how the Scan is then. Conditions: texts of at most a million bytes. -/
import Derived.Test.YtagenkofoacajaaGreatSfix
import Derived.Test.YtagenkofoacajaaGreatVget
namespace Go.Proofs.YtagenkofoacajaaGreat
open Go.RowKit Vi

theorem ext_data2 (s : ByteArray) (p : Nat) : (s.extract p s.size).data.toList = s.data.toList.drop p := by
  rw [ByteArray.data_extract, Array.toList_extract]
  simp only [List.extract]
  exact List.take_of_length_le (by simp)

set_option maxHeartbeats 400000 in
set_option maxRecDepth 100000 in
theorem int1_no (L : ByteArray) (b2 : Nat) (w : World) (hL : L.size ≤ maxLen) (hg : gb L.data.toList = false) :
    Calls Tryz.prog 163 #[.string L, .pointer (some ⟨b2, 0, none⟩)] w fun e w' => e = .returned (.tuple #[.int .i64 0, .int .i64 3]) ∧ w = w' := by
  go_enter Tryz.func163, Tryz.ntmps163
  go_wp2_with fail
  refine (getInt_any L _ hL).mono ?_
  rintro e w1 ⟨rfl, rfl⟩
  rw [hg]
  clear hg
  go_wp2
  go_ret2
  exact ⟨rfl, rfl⟩
set_option maxHeartbeats 400000 in
set_option maxRecDepth 100000 in
theorem int1_yes (L : ByteArray) (b2 : Nat) (s0 : Value) (w : World) (hL : L.size ≤ maxLen) (hg : gb L.data.toList = true) (hc2 : w.cell? ⟨b2, 0, none⟩ = some s0) (hf2 : w.frozen? ⟨b2, 0, none⟩ = false) :
    Calls Tryz.prog 163 #[.string L, .pointer (some ⟨b2, 0, none⟩)] w fun e w' => e = .returned (.tuple #[.int .i64 (gk L.data.toList : Int), .int .i64 0]) ∧ w.setCell ⟨b2, 0, none⟩ (.int .i64 (zag (gn L.data.toList))) = w' := by
  go_enter Tryz.func163, Tryz.ntmps163
  go_wp2_with fail
  refine (getInt_any L _ hL).mono ?_
  rintro e w1 ⟨rfl, rfl⟩
  rw [hg]
  clear hg
  go_wp2
  go_ret2
  exact ⟨rfl, rfl⟩


set_option maxHeartbeats 400000 in
theorem end1_yes (L : ByteArray) (w : World) (h : L.size = 0) :
    Calls Tryz.prog 147 #[.string L] w fun e w' => e = .returned (.tuple #[.int .i64 0, .int .i64 0]) ∧ w = w' := by
  have hL : L = ⟨#[]⟩ := ByteArray.size_eq_zero_iff.1 h
  subst hL
  go_enter Tryz.func147, Tryz.ntmps147
  go_wp2
  go_ret2
  exact ⟨rfl, rfl⟩
set_option maxHeartbeats 400000 in
theorem end1_no (L : ByteArray) (w : World) (h : 0 < L.size) :
    Calls Tryz.prog 147 #[.string L] w fun e w' => e = .returned (.tuple #[.int .i64 0, .int .i64 3]) ∧ w = w' := by
  have h1 : L.toList ≠ [] := by
    rw [ByteArray.toList_eq]
    intro e
    have : L.size = 0 := by have := congrArg List.length e; simpa using this
    omega
  have h2 : L.toList.isEmpty = false := by simpa using h1
  have h3 : (!L.toList.isEmpty) = true := by rw [h2]; rfl
  go_enter Tryz.func147, Tryz.ntmps147
  go_wp2
  go_ret2
  exact ⟨rfl, rfl⟩

set_option maxHeartbeats 400000 in
theorem fail1_any (L : ByteArray) (er : Int) (b1 : Nat) (w : World) (hc1 : w.cell? ⟨b1, 0, none⟩ = some (.int .i64 er)) :
    Calls Tryz.prog 166 #[.string L, .pointer (some ⟨b1, 0, none⟩)] w fun e w' => e = .returned (.tuple #[.int .i64 0, .int .i64 er]) ∧ w.drew = w' := by
  go_enter Tryz.func166, Tryz.ntmps166
  go_wp2
  go_region
  all_goals
    go_wp2
    go_ret2
    exact ⟨rfl, rfl⟩

set_option maxHeartbeats 800000 in
set_option maxRecDepth 100000 in
theorem int_no (w : World) (B : Nat) (S : ByteArray) (q : Nat) (hS : S.size ≤ 1000000) (hq : q ≤ S.size) (h : Sc w B true S q 0) (hg : gb (S.data.toList.drop q) = false) :
    Calls Tryz.prog 142 #[.pointer (some ⟨B, 0, none⟩)] w fun e w' => e = .returned (.int .i64 0) ∧ Sc w' B true S q 3 ∧ But B w w' := by
  have hlt := h.lt
  have c0 := h.c0
  have c1 := h.c1
  have c2 := h.c2
  have c3 := h.c3
  have f2 := h.f2
  have f3 := h.f3
  have HG := Lib.hid hg
  clear hg
  go_enter Tryz.func142, Tryz.ntmps142
  go_wp2
  have hes : (S.extract q S.size).size = S.size - q := by rw [ByteArray.size_extract]; omega
  have hex : (S.extract q S.size).data.toList = S.data.toList.drop q := ext_data2 S q
  have HES := Lib.hid hes
  have HEX := Lib.hid hex
  clear hes hex
  have g2 : 0 ≤ (q : Int) := by omega
  have g3 : (q : Int).toNat = q := by omega
  go_region_with (go_at_call 163; refine (int1_no _ w.heap.size _ (by rw [HES.out]; unfold maxLen; omega) (by rw [HEX.out]; exact HG.out)).mono ?_; rintro e w' ⟨rfl, rfl⟩)
  all_goals
    go_wp2
    go_ret
    exact ⟨rfl, ((h.fail 3).alloc _).drew, (((But.refl B w).set 3 _).alloc _).drew⟩

set_option maxHeartbeats 800000 in
set_option maxRecDepth 100000 in
theorem int_yes (w : World) (B : Nat) (S : ByteArray) (q : Nat) (hS : S.size ≤ 1000000) (hq : q ≤ S.size) (h : Sc w B true S q 0) (hg : gb (S.data.toList.drop q) = true) :
    Calls Tryz.prog 142 #[.pointer (some ⟨B, 0, none⟩)] w fun e w' => e = .returned (.int .i64 (zag (gn (S.data.toList.drop q)))) ∧ Sc w' B true S (q + gk (S.data.toList.drop q)) 0 ∧ But B w w' := by
  have hlt := h.lt
  have c0 := h.c0
  have c1 := h.c1
  have c2 := h.c2
  have c3 := h.c3
  have f2 := h.f2
  have f3 := h.f3
  have hkl := gk_le (S.data.toList.drop q)
  have hdl : (S.data.toList.drop q).length = S.size - q := by simp
  rw [hdl] at hkl
  clear hdl
  have HG := Lib.hid hg
  clear hg
  go_enter Tryz.func142, Tryz.ntmps142
  go_wp2
  have hes : (S.extract q S.size).size = S.size - q := by rw [ByteArray.size_extract]; omega
  have hex : (S.extract q S.size).data.toList = S.data.toList.drop q := ext_data2 S q
  have HES := Lib.hid hes
  have HEX := Lib.hid hex
  clear hes hex
  have g2 : 0 ≤ (q : Int) := by omega
  have g3 : (q : Int).toNat = q := by omega
  go_region_with (go_at_call 163; refine (int1_yes _ w.heap.size (.int .i64 0) _ (by rw [HES.out]; unfold maxLen; omega) (by rw [HEX.out]; exact HG.out) (by simp) (by simp)).mono ?_; rw [HEX.out]; rintro e w' ⟨rfl, rfl⟩)
  all_goals
    go_wp2
    go_ret
    exact ⟨rfl, ((h.to (q + gk (S.data.toList.drop q)) (by omega)).alloc _).drew, (((But.refl B w).set 2 _).alloc _).drew⟩


set_option maxHeartbeats 800000 in
set_option maxRecDepth 100000 in
theorem fail_yes (w : World) (B : Nat) (S : ByteArray) (q : Nat) (er : Int) (_hS : S.size ≤ 1000000) (hq : q ≤ S.size) (h : Sc w B true S q 0) (hne : (er != 0) = true) (_hne2 : (er == 0) = false) :
    Calls Tryz.prog 144 #[.pointer (some ⟨B, 0, none⟩), .int .i64 er] w fun e w' => e = .returned (.tuple #[]) ∧ Sc w' B true S q er ∧ But B w w' := by
  have hlt := h.lt
  have c0 := h.c0
  have c1 := h.c1
  have c2 := h.c2
  have c3 := h.c3
  have f2 := h.f2
  have f3 := h.f3
  go_enter Tryz.func144, Tryz.ntmps144
  go_wp2
  have hes : (S.extract q S.size).size = S.size - q := by rw [ByteArray.size_extract]; omega
  have hex : (S.extract q S.size).data.toList = S.data.toList.drop q := ext_data2 S q
  have HES := Lib.hid hes
  have HEX := Lib.hid hex
  clear hes hex
  have g2 : 0 ≤ (q : Int) := by omega
  have g3 : (q : Int).toNat = q := by omega
  go_region_with (go_at_call 166; refine (fail1_any _ er w.heap.size _ (by simp)).mono ?_; rintro e w' ⟨rfl, rfl⟩)
  all_goals
    go_wp2
    go_returns
    exact ⟨rfl, ((h.fail er).alloc _).drew.drew, (((But.refl B w).set 3 _).alloc _).drew.drew⟩

set_option maxHeartbeats 800000 in
set_option maxRecDepth 100000 in
theorem fail_zero (w : World) (B : Nat) (S : ByteArray) (q : Nat) (_hS : S.size ≤ 1000000) (hq : q ≤ S.size) (h : Sc w B true S q 0) :
    Calls Tryz.prog 144 #[.pointer (some ⟨B, 0, none⟩), .int .i64 0] w fun e w' => e = .returned (.tuple #[]) ∧ Sc w' B true S q 0 ∧ But B w w' := by
  have hlt := h.lt
  have c0 := h.c0
  have c1 := h.c1
  have c2 := h.c2
  have c3 := h.c3
  have f2 := h.f2
  have f3 := h.f3
  go_enter Tryz.func144, Tryz.ntmps144
  go_wp2
  have hes : (S.extract q S.size).size = S.size - q := by rw [ByteArray.size_extract]; omega
  have hex : (S.extract q S.size).data.toList = S.data.toList.drop q := ext_data2 S q
  have HES := Lib.hid hes
  have HEX := Lib.hid hex
  clear hes hex
  have g2 : 0 ≤ (q : Int) := by omega
  have g3 : (q : Int).toNat = q := by omega
  go_region_with (go_at_call 166; refine (fail1_any _ 0 w.heap.size _ (by simp)).mono ?_; rintro e w' ⟨rfl, rfl⟩)
  all_goals
    go_wp2
    go_returns
    exact ⟨rfl, ((h.to q (by omega)).alloc _).drew.drew, (((But.refl B w).set 2 _).alloc _).drew.drew⟩
end Go.Proofs.YtagenkofoacajaaGreat
