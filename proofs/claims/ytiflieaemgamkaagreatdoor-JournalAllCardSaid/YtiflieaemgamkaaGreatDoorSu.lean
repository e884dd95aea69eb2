/- One contract for each method of a Scan that a call made, in every state: what is read is the plain functions'. Condition: texts of at most a million bytes. -/
import Derived.Test.YtiflieaemgamkaaGreatDoorSp
import Derived.Test.YtiflieaemgamkaaGreatDoorSend
namespace Go.Proofs.YtiflieaemgamkaaGreatDoor
open Go.RowKit Vi

theorem fixU (w : World) (B : Nat) (S : ByteArray) (q : Nat) (er n : Int) (hS : S.size ≤ 1000000) (hq : q ≤ S.size) (h : Sc w B true S q er) :
    Calls Tryz.prog 202 #[.pointer (some ⟨B, 0, none⟩), .int .i64 n] w fun e w' => e = .returned (.string (Rd.fix S q er n).1) ∧ Sc w' B true S (Rd.fix S q er n).2.1 (Rd.fix S q er n).2.2 ∧ But B w w' := by
  unfold Rd.fix
  by_cases he : er = 0
  · subst he
    rw [if_neg (by simp)]
    by_cases hn : n < 0 ∨ (S.size : Int) - q < n
    · rw [if_pos hn]; exact fix_no w B S q n hS hq h hn
    · rw [if_neg hn]
      obtain ⟨m, rfl⟩ := Int.eq_ofNat_of_zero_le (show 0 ≤ n by omega)
      exact fix_yes w B S q m hS hq h (by omega)
  · rw [if_pos he]; exact fix_err w B true S q er n h (Or.inr he)

theorem numU (w : World) (B : Nat) (S : ByteArray) (q : Nat) (er most : Int) (hS : S.size ≤ 1000000) (hq : q ≤ S.size) (h : Sc w B true S q er) (hm1 : most ≤ 9223372036854775807) :
    Calls Tryz.prog 204 #[.pointer (some ⟨B, 0, none⟩), .int .i64 most] w fun e w' => e = .returned (.int .i64 (Rd.num S q er most).1) ∧ Sc w' B true S (Rd.num S q er most).2.1 (Rd.num S q er most).2.2 ∧ But B w w' := by
  unfold Rd.num
  by_cases he : er = 0
  · subst he
    rw [if_neg (by simp)]
    cases hg : gb (S.data.toList.drop q) with
    | false => rw [if_pos rfl]; exact num_form w B S q most hS hq h hg
    | true =>
      rw [if_neg (by simp)]
      by_cases hm : most < 0 ∨ most < gn (S.data.toList.drop q)
      · rw [if_pos hm]; exact num_limit w B S q most hS hq h hg hm1 hm
      · rw [if_neg hm]; exact num_yes w B S q most hS hq h hg (by omega) hm1 (by omega)
  · rw [if_pos he]; exact num_err w B true S q er most h (Or.inr he)


theorem restU (w : World) (B : Nat) (S : ByteArray) (q : Nat) (er : Int) (hS : S.size ≤ 1000000) (hq : q ≤ S.size) (h : Sc w B true S q er) :
    Calls Tryz.prog 225 #[.pointer (some ⟨B, 0, none⟩)] w fun e w' => e = .returned (.string (Rd.rest S q er).1) ∧ Sc w' B true S (Rd.rest S q er).2.1 (Rd.rest S q er).2.2 ∧ But B w w' := by
  unfold Rd.rest
  by_cases he : er = 0
  · subst he
    rw [if_neg (by simp)]; exact rest_yes w B S q hS hq h
  · rw [if_pos he]; exact rest_err w B true S q er h (Or.inr he)



theorem finU (w : World) (B : Nat) (S : ByteArray) (q : Nat) (er : Int) (hS : S.size ≤ 1000000) (hq : q ≤ S.size) (h : Sc w B true S q er) :
    Calls Tryz.prog 206 #[.pointer (some ⟨B, 0, none⟩)] w fun e w' => e = .returned (.int .i64 (Rd.fin S q er)) ∧ Sc w' B true S q (Rd.fin S q er) ∧ But B w w' := by
  unfold Rd.fin
  by_cases he : er = 0
  · subst he
    rw [if_neg (by simp)]
    by_cases hl : q < S.size
    · rw [if_pos hl]; exact end_no w B S q h hS hl
    · rw [if_neg hl]
      obtain rfl : q = S.size := by omega
      exact end_yes w B S h hS
  · rw [if_pos he]; exact end_err w B true S q er h (Or.inr he)

theorem textU (w : World) (B : Nat) (S : ByteArray) (q : Nat) (er most : Int) (hS : S.size ≤ 1000000) (hq : q ≤ S.size) (h : Sc w B true S q er) (hm1 : most ≤ 9223372036854775807) :
    Calls Tryz.prog 205 #[.pointer (some ⟨B, 0, none⟩), .int .i64 most] w fun e w' => e = .returned (.string (Rd.text S q er most).1) ∧ Sc w' B true S (Rd.text S q er most).2.1 (Rd.text S q er most).2.2 ∧ But B w w' := by
  have hq1 := Rd.num_le S q er most hq
  have HT := Lib.hid (show Rd.text S q er most = Rd.fix S (Rd.num S q er most).2.1 (Rd.num S q er most).2.2 (Rd.num S q er most).1 from rfl)
  rw [HT.out]
  go_enter Tryz.func205, Tryz.ntmps205
  go_wp2_with fail
  refine (numU w B S q er most hS hq h hm1).mono ?_
  rintro e w1 ⟨rfl, hs1, hb1⟩
  go_wp2_with fail
  refine (fixU w1 B S _ _ _ hS hq1 hs1).mono ?_
  rintro e w2 ⟨rfl, hs2, hb2⟩
  have hb := hb1.trans hb2
  have HS := Lib.hid hs2
  clear hs1 hs2 hb1 hb2 HT
  go_wp2_with fail
  go_ret
  exact ⟨rfl, HS.out, hb⟩
end Go.Proofs.YtiflieaemgamkaaGreatDoor
