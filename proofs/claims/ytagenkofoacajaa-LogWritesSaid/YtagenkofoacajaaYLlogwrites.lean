/- P15.2: a Grow writes as many sectors as are told, and no more. No condition. -/
import Derived.Test.YtagenkofoacajaaG1
namespace Go.Proofs.Ytagenkofoacajaa
open Go.RowKit Vi Ar

set_option maxRecDepth 100000 in
set_option maxHeartbeats 4000000 in
theorem logwrites_any (a b : ByteArray) (m : Int) (w : World) :
    Calls Try.prog 4 #[.string a, .string b, .int .i64 m] w fun e w' => e = .returned (.bool true) ∧ Below w.heap.size w w' := by
  by_cases qa : 1000 < a.size
  · have t1 : decide ((a.size : Int) > 1000) = true := decide_eq_true (by omega)
    have t2 : decide (1000 < (a.size : Int)) = true := decide_eq_true (by omega)
    go_enter Try.func4, Try.ntmps4
    go_wp2_with fail
    refine (awake15_any _).mono ?_
    rintro e wz ⟨rfl, hbz⟩
    go_wp2_with fail
    go_ret
    exact ⟨rfl, hbz⟩
  have t1 : decide ((a.size : Int) > 1000) = false := decide_eq_false (by omega)
  have t2 : decide (1000 < (a.size : Int)) = false := decide_eq_false (by omega)
  by_cases qb : 1000 < b.size
  · have t3 : decide ((b.size : Int) > 1000) = true := decide_eq_true (by omega)
    have t4 : decide (1000 < (b.size : Int)) = true := decide_eq_true (by omega)
    go_enter Try.func4, Try.ntmps4
    go_wp2_with fail
    refine (awake15_any _).mono ?_
    rintro e wz ⟨rfl, hbz⟩
    go_wp2_with fail
    go_ret
    exact ⟨rfl, hbz⟩
  have t3 : decide ((b.size : Int) > 1000) = false := decide_eq_false (by omega)
  have t4 : decide (1000 < (b.size : Int)) = false := decide_eq_false (by omega)
  by_cases qm : m < 0
  · have t5 : decide (m < 0) = true := decide_eq_true qm
    go_enter Try.func4, Try.ntmps4
    go_wp2_with fail
    refine (awake15_any _).mono ?_
    rintro e wz ⟨rfl, hbz⟩
    go_wp2_with fail
    go_ret
    exact ⟨rfl, hbz⟩
  have t5 : decide (m < 0) = false := decide_eq_false qm
  by_cases ql : 14 < m
  · have t6 : decide (m > 14) = true := decide_eq_true ql
    have t7 : decide (14 < m) = true := decide_eq_true ql
    go_enter Try.func4, Try.ntmps4
    go_wp2_with fail
    refine (awake15_any _).mono ?_
    rintro e wz ⟨rfl, hbz⟩
    go_wp2_with fail
    go_ret
    exact ⟨rfl, hbz⟩
  have t6 : decide (m > 14) = false := decide_eq_false ql
  have t7 : decide (14 < m) = false := decide_eq_false ql
  have HN := Lib.hid (fun W : World => show Calls Try.prog 7 #[.int .i64 16] W (NewD (List.replicate 16 noZ) [] W) from dnew_yes 16 W (by decide) (by decide))
  have HD0 := Lib.hid (dsok_new 16 (by decide) (by decide))
  have hS : (List.replicate 16 noZ).length = 16 := List.length_replicate
  generalize List.replicate 16 noZ = S at HN HD0 hS
  have HS := Lib.hid hS
  have e128 : IntKind.i64.wrap (128 * m) = 128 * m := IntWalk.i64_in _ (by omega)
  clear hS
  go_enter Try.func4, Try.ntmps4
  go_wp2_with fail
  refine (HN.out _).mono ?_
  rintro e w1 ⟨D, rfl, hd, hi, hb⟩
  have HW1 : Hid (DW w.heap.size w D ⟨S, [], 0, false, 0⟩ w1) := Lib.hid ⟨hd, hi, hb, hb.size⟩
  clear hd hi hb HN
  go_wp2_with fail
  refine (lopen_any w.heap.size w D S [] 0 0 0 2 m 0 w1 HW1.out HD0.out (by decide) (by decide) (by omega) (by rw [HS.out]; omega) (by show ((scN 0 : Nat) : Int) ≤ m; show (0 : Int) ≤ m; omega) (fun j hj => absurd hj (by show ¬ j < scN 0; simp [scN]))).mono ?_
  rintro e w2 ⟨L, rfl, hl, _, _⟩
  have e0 : (0 : Int) + ((scN 0 : Nat) : Int) = 0 := by rfl
  rw [e0, lgT_zero] at hl
  have HL2 := Lib.hid hl
  clear hl e0 HW1
  by_cases ha : m * 128 < (a.size : Int)
  · have d1 : decide ((a.size : Int) > 128 * m) = true := decide_eq_true (by omega)
    have d2 : decide (128 * m < (a.size : Int)) = true := decide_eq_true (by omega)
    go_wp2_with fail
    refine (lgrow_full HL2.out (by omega) (by omega) (by decide) a (by show m * 128 - ((0 : Nat) : Int) < _; omega)).mono ?_
    rintro e w3 ⟨rfl, hl⟩
    have HL3 := Lib.hid hl
    clear hl HL2
    go_wp2_with fail
    refine (ltail_any HL3.out).mono ?_
    rintro e w' ⟨rfl, rfl⟩
    rw [show (((⟨#[]⟩ : ByteArray).size : Nat) : Int) = 0 from rfl]
    go_wp2_with fail
    refine (awake15_any _).mono ?_
    rintro e wz ⟨rfl, hbz⟩
    have HBZ := Lib.hid (HL3.out.dw.bel.trans (hbz.mono HL3.out.dw.bel.size))
    clear hbz
    go_wp2_with fail
    go_ret
    exact ⟨rfl, HBZ.out⟩
  · have d1 : decide ((a.size : Int) > 128 * m) = false := decide_eq_false (by omega)
    have d2 : decide (128 * m < (a.size : Int)) = false := decide_eq_false (by omega)
    go_wp2_with fail
    refine (lgrow_up HL2.out HD0.out (by decide) (by decide) (by omega) (by omega) (by rw [HS.out]; omega) (by decide) a (by omega) (by show ((0 : Nat) : Int) + _ ≤ _; omega) (by decide)).mono ?_
    rintro e w3 ⟨rfl, ho, hl⟩
    have e2 : (⟨#[]⟩ : ByteArray) ++ a = a := by apply ByteArray.ext; simp
    rw [e2] at hl
    have HO3 := Lib.hid ho
    have HL3 := Lib.hid hl
    clear ho hl e2 HL2 HD0
    generalize lgC [] 2 ⟨#[]⟩ a = C1 at *
    generalize (0 : Int) + lgN m ⟨#[]⟩ (a.size : Int) = op at *
    go_wp2_with fail
    refine (lwrites_any HL3.out (by omega) (by omega) (by omega) (b.size : Int) (by omega) (by omega)).mono ?_
    rintro e w4 ⟨rfl, hl⟩
    have HL4 := Lib.hid hl
    clear hl HL3
    go_wp2_with fail
    refine (HL4.out.dw.opsIs).mono ?_
    rintro e w' ⟨rfl, rfl⟩
    have eab : IntKind.i64.wrap ((a.size : Int) + (b.size : Int)) = (a.size : Int) + (b.size : Int) := IntWalk.i64_in _ (by omega)
    have ho1 : 0 ≤ op := HO3.out.o1
    have ho2 : op ≤ (320 : Int) := HO3.out.o2
    by_cases hb : (a.size : Int) + (b.size : Int) ≤ m * 128
    · have g1 : decide ((a.size : Int) + (b.size : Int) ≤ 128 * m) = true := decide_eq_true (by omega)
      have eln : 0 ≤ lgN m a (b.size : Int) ∧ lgN m a (b.size : Int) ≤ 1000 := by
        unfold lgN
        split
        · omega
        · rw [Int.toNat_natCast]; unfold scN; omega
      have eop : IntKind.i64.wrap (op + lgN m a (b.size : Int)) = op + lgN m a (b.size : Int) := IntWalk.i64_in _ (by omega)
      go_wp2_with fail
      refine (lgrow_up HL4.out HO3.out (by decide) (by decide) (by omega) (by omega) (by rw [HS.out]; omega) (by omega) b (by omega) (by omega) (by decide)).mono ?_
      rintro e w5 ⟨rfl, _, hl⟩
      have HL5 := Lib.hid hl
      clear hl HL4 HO3
      generalize lgN m a (b.size : Int) = z at *
      go_wp2_with fail
      refine (HL5.out.dw.opsIs).mono ?_
      rintro e w' ⟨rfl, rfl⟩
      dsimp only
      go_wp2_with fail
      refine (awake15_any _).mono ?_
      rintro e wz ⟨rfl, hbz⟩
      have HBZ := Lib.hid (HL5.out.dw.bel.trans (hbz.mono HL5.out.dw.bel.size))
      clear hbz
      go_wp2_with fail
      go_ret
      exact ⟨rfl, HBZ.out⟩
    · have g1 : decide ((a.size : Int) + (b.size : Int) ≤ 128 * m) = false := decide_eq_false (by omega)
      have eln : lgN m a (b.size : Int) = 0 := by unfold lgN; rw [if_pos (Or.inr (by omega))]
      rw [eln]
      have eop : IntKind.i64.wrap (op + 0) = op := by rw [Int.add_zero]; exact IntWalk.i64_in _ (by omega)
      have eop2 : IntKind.i64.wrap op = op := IntWalk.i64_in _ (by omega)
      clear eln
      go_wp2_with fail
      refine (lgrow_full HL4.out (by omega) (by omega) (by omega) b (by omega)).mono ?_
      rintro e w5 ⟨rfl, hl⟩
      have HL5 := Lib.hid hl
      clear hl HL4 HO3
      go_wp2_with fail
      refine (HL5.out.dw.opsIs).mono ?_
      rintro e w' ⟨rfl, rfl⟩
      dsimp only
      go_wp2_with fail
      refine (awake15_any _).mono ?_
      rintro e wz ⟨rfl, hbz⟩
      have HBZ := Lib.hid (HL5.out.dw.bel.trans (hbz.mono HL5.out.dw.bel.size))
      clear hbz
      go_wp2_with fail
      go_ret
      exact ⟨rfl, HBZ.out⟩
end Go.Proofs.Ytagenkofoacajaa
