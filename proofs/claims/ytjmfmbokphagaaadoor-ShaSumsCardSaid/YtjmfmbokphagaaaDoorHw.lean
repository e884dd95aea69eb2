/- The chapter's example of layer 3 over this translation, and what a sum that no call began answers. Condition: the table that the program's text lays. -/
import Derived.Test.YtjmfmbokphagaaaDoorHd
import Derived.Test.YtjmfmbokphagaaaDoorHe
namespace Go.Proofs.YtjmfmbokphagaaaDoor
open Go.RowKit Hm

theorem sum_len (l : List UInt8) : (Hm.sum l).length = 32 := by
  unfold Hm.sum
  refine bytesOf_len _ ?_
  have : ∀ (q : Nat) (h : List Nat) (b : List UInt8), h.length = 8 → (blocks q h b).length = 8 := by
    intro q
    induction q with
    | zero => intro h b hl; exact hl
    | succ q ih => intro h b hl; exact ih _ _ (by unfold mix; rw [List.length_zipWith, hl]; rfl)
  exact this _ _ _ rfl
set_option maxRecDepth 100000 in
set_option maxHeartbeats 1000000 in
theorem awake3_any (w : World) (hT : HTab w) : Calls Tryd.prog 15 #[] w fun e w' => e = .returned (.bool true) ∧ Below w.heap.size w w' := by
  have HT := Lib.hid hT
  clear hT
  go_enter Tryd.func15, Tryd.ntmps15
  go_wp2_with fail
  have B0 := Lib.hid ((Below.refl _ w).alloc (Nat.le_refl _) (.cells #[.string ⟨#[97, 98, 99]⟩] 9))
  refine (sumP_any (some ⟨w.heap.size, 0, none⟩) 1 1 [⟨#[97, 98, 99]⟩] _ (HT.out.later B0.out) (str_one w _) (by decide) (by omega)).mono ?_
  rintro e w1 ⟨rfl, hb⟩
  have B1 := Lib.hid (B0.out.trans (hb.mono B0.out.size))
  clear hb
  obtain ⟨S, hS⟩ : ∃ S : ByteArray, S = ⟨(Hm.sum (catS [⟨#[97, 98, 99]⟩])).toArray⟩ := ⟨_, rfl⟩
  have hz : S.size = 32 := by
    rw [hS]
    show (Hm.sum _).toArray.size = 32
    rw [List.size_toArray, sum_len]
  have he : ((S.extract 0 4).toList == [186, 120, 22, 191]) = true := by
    rw [hS, show catS [⟨#[97, 98, 99]⟩] = [97, 98, 99] by rfl, sum_abc]
    decide +kernel
  rw [← hS]
  clear hS
  go_wp2_with fail
  refine (hex_any ⟨#[1, 97]⟩ w1 (by decide)).mono ?_
  rintro e w2 ⟨rfl, hb⟩
  have B2 := Lib.hid (B1.out.trans (hb.mono B1.out.size))
  clear hb
  have hx : (⟨(hexL (⟨#[1, 97]⟩ : ByteArray).data.toList).toArray⟩ : ByteArray) = ⟨#[48, 49, 54, 49]⟩ := by rfl
  rw [hx]
  clear hx
  go_wp2_with fail
  go_ret
  exact ⟨rfl, B2.out⟩
theorem hput_nil (t : ByteArray) (w : World) : Calls Tryd.prog 18 #[.pointer none, .string t] w fun e w' => e = .returned (.int .i64 1) ∧ w = w' := by
  go_enter Tryd.func18, Tryd.ntmps18
  go_wp2_with fail
  refine (is_nil w).mono ?_
  rintro e w1 ⟨rfl, rfl⟩
  go_wp2_with fail
  go_ret
  exact ⟨rfl, rfl⟩
theorem hput_not (B : Nat) (t : ByteArray) (w : World) (h : w.cell? ⟨B, 0, none⟩ = some (.bool false)) : Calls Tryd.prog 18 #[.pointer (some ⟨B, 0, none⟩), .string t] w fun e w' => e = .returned (.int .i64 1) ∧ w = w' := by
  go_enter Tryd.func18, Tryd.ntmps18
  go_wp2_with fail
  refine (is_made B false w h).mono ?_
  rintro e w1 ⟨rfl, rfl⟩
  go_wp2_with fail
  go_ret
  exact ⟨rfl, rfl⟩
theorem hsum_nil (w : World) : Calls Tryd.prog 19 #[.pointer none] w fun e w' => e = .returned (.string ⟨#[]⟩) ∧ w = w' := by
  go_enter Tryd.func19, Tryd.ntmps19
  go_wp2_with fail
  refine (is_nil w).mono ?_
  rintro e w1 ⟨rfl, rfl⟩
  go_wp2_with fail
  go_ret
  exact ⟨rfl, rfl⟩
theorem hsum_not (B : Nat) (w : World) (h : w.cell? ⟨B, 0, none⟩ = some (.bool false)) : Calls Tryd.prog 19 #[.pointer (some ⟨B, 0, none⟩)] w fun e w' => e = .returned (.string ⟨#[]⟩) ∧ w = w' := by
  go_enter Tryd.func19, Tryd.ntmps19
  go_wp2_with fail
  refine (is_made B false w h).mono ?_
  rintro e w1 ⟨rfl, rfl⟩
  go_wp2_with fail
  go_ret
  exact ⟨rfl, rfl⟩
theorem hlen_nil (w : World) : Calls Tryd.prog 20 #[.pointer none] w fun e w' => e = .returned (.int .i64 0) ∧ w = w' := by
  go_enter Tryd.func20, Tryd.ntmps20
  go_wp2_with fail
  refine (is_nil w).mono ?_
  rintro e w1 ⟨rfl, rfl⟩
  go_wp2_with fail
  go_ret
  exact ⟨rfl, rfl⟩
theorem hlen_not (B : Nat) (w : World) (h : w.cell? ⟨B, 0, none⟩ = some (.bool false)) : Calls Tryd.prog 20 #[.pointer (some ⟨B, 0, none⟩)] w fun e w' => e = .returned (.int .i64 0) ∧ w = w' := by
  go_enter Tryd.func20, Tryd.ntmps20
  go_wp2_with fail
  refine (is_made B false w h).mono ?_
  rintro e w1 ⟨rfl, rfl⟩
  go_wp2_with fail
  go_ret
  exact ⟨rfl, rfl⟩
end Go.Proofs.YtjmfmbokphagaaaDoor
