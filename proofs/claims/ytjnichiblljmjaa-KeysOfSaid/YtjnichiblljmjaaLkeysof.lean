/- KeysOf: the key of any edge at any node, and the node and the edge of any key, or that there are none, are the document's; each leads back. No condition. -/
import Derived.Test.YtjnichiblljmjaaRows
import Derived.Test.YtjnichiblljmjaaKEa
namespace Go.Proofs.Ytjnichiblljmjaa.LKeysOf
open Go.RowKit Vi

set_option maxRecDepth 100000 in
set_option maxHeartbeats 2000000 in
theorem walk (A B K : ByteArray) (w : World) :
    Calls Try.prog 3 #[.string A, .string B, .string K] w fun e w' => e = .returned (.bool true) ∧ Below w.heap.size w w' := by
  have HA := Lib.hid (fun W : World => awake31_any W)
  by_cases g1 : A.size ≤ 100
  rotate_left
  · have d1 : decide ((100 : Int) < (A.size : Int)) = true := decide_eq_true (by omega)
    go_enter Try.func3, Try.ntmps3
    go_wp2_with fail
    refine (HA.out _).mono ?_
    rintro e w1 ⟨rfl, hb1⟩
    go_wp2_with fail
    go_ret
    exact ⟨rfl, hb1⟩
  have d1 : decide ((100 : Int) < (A.size : Int)) = false := decide_eq_false (by omega)
  by_cases g2 : B.size ≤ 100
  rotate_left
  · have d2 : decide ((100 : Int) < (B.size : Int)) = true := decide_eq_true (by omega)
    go_enter Try.func3, Try.ntmps3
    go_wp2_with fail
    refine (HA.out _).mono ?_
    rintro e w1 ⟨rfl, hb1⟩
    go_wp2_with fail
    go_ret
    exact ⟨rfl, hb1⟩
  have d2 : decide ((100 : Int) < (B.size : Int)) = false := decide_eq_false (by omega)
  by_cases g3 : K.size ≤ 300
  rotate_left
  · have d3 : decide ((300 : Int) < (K.size : Int)) = true := decide_eq_true (by omega)
    go_enter Try.func3, Try.ntmps3
    go_wp2_with fail
    refine (HA.out _).mono ?_
    rintro e w1 ⟨rfl, hb1⟩
    go_wp2_with fail
    go_ret
    exact ⟨rfl, hb1⟩
  have d3 : decide ((300 : Int) < (K.size : Int)) = false := decide_eq_false (by omega)
  have HG := Lib.hid (fun W : World => kbegin_any A W (by omega))
  obtain ⟨x, y, z, zb, P, R, hz⟩ : ∃ (x y : ByteArray) (z : Int) (zb : Bool), Hid (∀ W : World, Calls Try.prog 14 #[.string K] W fun e w' => e = .returned (.tuple #[.string x, .string y, .int .i64 z]) ∧ Below W.heap.size W w') ∧ Hid (∀ W : World, Calls Try.prog 15 #[.string K] W fun e w' => e = .returned (.tuple #[.string x, .string y, .bool zb]) ∧ Below W.heap.size W w') ∧ (z = 0 ∧ zb = true ∨ z = 3 ∧ zb = false) := by
    cases hk : okK (partA K) (partB K) with
    | true => exact ⟨_, _, _, _, Lib.hid (fun W => kparted_yes K W (by omega) hk), Lib.hid (fun W => r31parted_yes K W (by omega) hk), Or.inl ⟨rfl, rfl⟩⟩
    | false => exact ⟨_, _, _, _, Lib.hid (fun W => kparted_no K W (by omega) hk), Lib.hid (fun W => r31parted_no K W (by omega) hk), Or.inr ⟨rfl, rfl⟩⟩
  have e1 : (x.toList != x.toList) = false := by simp
  have e2 : (y.toList != y.toList) = false := by simp
  have h1 : ¬ 9223372036854775807 < A.size + 1 := by omega
  obtain ⟨G, hG⟩ : ∃ G, G = A ++ ⟨#[0]⟩ := ⟨_, rfl⟩
  have hadd : ∀ W, (Op.stringOp .add A ⟨#[0]⟩).run Try.prog W = .ok (.string G) W := fun W => by rw [hG]; exact run_string_add_sum W _ _ (by have : (⟨#[0]⟩ : ByteArray).size = 1 := rfl; omega)
  rw [← hG] at HG
  have e3 : (G.toList != G.toList) = false := by simp
  clear hG
  cases hk : okK A B with
  | true =>
    have HO := Lib.hid (fun W : World => kof_yes A B W (by omega) (by omega) hk)
    have HR := Lib.hid (fun W : World => r31of_yes A B W (by omega) (by omega) hk)
    have hp := part_of A B (okK_l hk)
    have HP := Lib.hid (fun W : World => kparted_yes (A ++ ⟨#[0]⟩ ++ B) W (by simp only [ByteArray.size_append]; have : (⟨#[0]⟩ : ByteArray).size = 1 := rfl; omega) (by rw [hp.1, hp.2]; exact hk))
    rw [hp.1, hp.2] at HP
    clear hp hk
    obtain ⟨S, hS⟩ : ∃ S, S = A ++ ⟨#[0]⟩ ++ B := ⟨_, rfl⟩
    rw [← hS] at HO HR HP
    clear hS
    have e4 : (S.toList != S.toList) = false := by simp
    have e5 : (A.toList == A.toList) = true := by simp
    have e6 : (B.toList == B.toList) = true := by simp
    rcases hz with ⟨rfl, rfl⟩ | ⟨rfl, rfl⟩
    all_goals
      go_enter Try.func3, Try.ntmps3
      go_wp2_with fail
      refine (HO.out _).mono ?_
      rintro e w1 ⟨rfl, hb⟩
      have B1 := Lib.hid hb
      have z1 := hb.size
      clear hb
      go_wp2_with fail
      refine (HR.out _).mono ?_
      rintro e w' ⟨rfl, rfl⟩
      go_wp2_with fail
      refine (P.out _).mono ?_
      rintro e w2 ⟨rfl, hb⟩
      have B2 := Lib.hid (B1.out.trans (hb.mono z1))
      have z2 := Nat.le_trans z1 hb.size
      clear hb
      go_wp2_with fail
      refine (R.out _).mono ?_
      rintro e w3 ⟨rfl, hb⟩
      have B3 := Lib.hid (B2.out.trans (hb.mono z2))
      have z3 := Nat.le_trans z2 hb.size
      clear hb
      go_wp2_with fail
      refine (HG.out _).mono ?_
      rintro e w' ⟨rfl, rfl⟩
      go_wp2_with fail
      refine (HP.out _).mono ?_
      rintro e w4 ⟨rfl, hb⟩
      have B4 := Lib.hid (B3.out.trans (hb.mono z3))
      have z4 := Nat.le_trans z3 hb.size
      clear hb
      go_wp2_with fail
      refine (HA.out _).mono ?_
      rintro e w5 ⟨rfl, hb⟩
      have B5 := Lib.hid (B4.out.trans (hb.mono z4))
      clear hb
      go_wp2_with fail
      go_ret
      exact ⟨rfl, B5.out⟩
  | false =>
    have HO := Lib.hid (fun W : World => kof_no A B W (by omega) (by omega) hk)
    have HR := Lib.hid (fun W : World => r31of_no A B W (by omega) (by omega) hk)
    clear hk
    rcases hz with ⟨rfl, rfl⟩ | ⟨rfl, rfl⟩
    all_goals
      go_enter Try.func3, Try.ntmps3
      go_wp2_with fail
      refine (HO.out _).mono ?_
      rintro e w1 ⟨rfl, hb⟩
      have B1 := Lib.hid hb
      have z1 := hb.size
      clear hb
      go_wp2_with fail
      refine (HR.out _).mono ?_
      rintro e w' ⟨rfl, rfl⟩
      go_wp2_with fail
      refine (P.out _).mono ?_
      rintro e w2 ⟨rfl, hb⟩
      have B2 := Lib.hid (B1.out.trans (hb.mono z1))
      have z2 := Nat.le_trans z1 hb.size
      clear hb
      go_wp2_with fail
      refine (R.out _).mono ?_
      rintro e w3 ⟨rfl, hb⟩
      have B3 := Lib.hid (B2.out.trans (hb.mono z2))
      have z3 := Nat.le_trans z2 hb.size
      clear hb
      go_wp2_with fail
      refine (HG.out _).mono ?_
      rintro e w' ⟨rfl, rfl⟩
      go_wp2_with fail
      refine (HA.out _).mono ?_
      rintro e w5 ⟨rfl, hb⟩
      have B5 := Lib.hid (B3.out.trans (hb.mono z3))
      clear hb
      go_wp2_with fail
      go_ret
      exact ⟨rfl, B5.out⟩
end Go.Proofs.Ytjnichiblljmjaa.LKeysOf
