/- The contracts of value's Show of a text and of the statements' awake of layer 6 over this translation. No condition. -/
import Derived.Test.YtpiafgdbjpfcaaaDoorWb
namespace Go.Proofs.YtpiafgdbjpfcaaaDoor
open Go.RowKit Vi Hm

theorem show_ab (w : World) : Calls Tryd.prog 14 #[.agg #[.int .i64 3, .int .i64 0, .string ⟨#[97, 32, 98]⟩]] w fun e w' => e = .returned (.string ⟨#[35, 54, 49, 50, 48, 54, 50]⟩) ∧ Below w.heap.size w w' := by
  have he : errV 3 0 ⟨#[97, 32, 98]⟩ = 0 := by decide
  have HCK := Lib.hid (fun W : World => vcheck_any 3 0 ⟨#[97, 32, 98]⟩ W)
  rw [he] at HCK
  have hp : plainB ([97, 32, 98] : List UInt8) = false := by decide
  have HP := Lib.hid (fun W : World => plain_any ⟨#[97, 32, 98]⟩ W (by show (3 : Nat) ≤ 1000000; omega))
  have hpl : (⟨#[97, 32, 98]⟩ : ByteArray).data.toList = [97, 32, 98] := rfl
  rw [hpl, hp] at HP
  have hx : (⟨(hexL ([97, 32, 98] : List UInt8)).toArray⟩ : ByteArray) = ⟨#[54, 49, 50, 48, 54, 50]⟩ := by decide
  have HX := Lib.hid (fun W : World => hex_any ⟨#[97, 32, 98]⟩ W (by show (3 : Nat) ≤ 1000000; omega))
  rw [hpl, hx] at HX
  clear he hp hpl hx
  go_enter Tryd.func14, Tryd.ntmps14
  go_wp2_with fail
  refine (HCK.out _).mono ?_
  rintro e w1 ⟨rfl, hb⟩
  have c0 := hb.cell (p := ⟨w.heap.size, 0, none⟩) (by simp)
  have c2 := hb.cell (p := ⟨w.heap.size, 2, none⟩) (by simp)
  simp at c0 c2
  have HB := Lib.hid (((Below.refl _ w).alloc (Nat.le_refl _) _).trans (hb.mono (by simp)))
  clear hb HCK
  go_wp2_with fail
  refine (HP.out _).mono ?_
  rintro e w2 ⟨rfl, rfl⟩
  go_wp2_with fail
  refine (HX.out _).mono ?_
  rintro e w2 ⟨rfl, hb⟩
  have HB2 := Lib.hid (HB.out.trans (hb.mono HB.out.size))
  clear hb
  go_wp2_with fail
  go_ret
  exact ⟨rfl, HB2.out⟩
theorem vput_m1 : VPut 2 (-1) ⟨#[]⟩ = .tuple #[.string ⟨#[2, 1]⟩, .int .i64 0] := by
  have h1 : vput 2 (-1) ⟨#[]⟩ = ⟨#[2, 1]⟩ := by decide +kernel
  have h2 : errV 2 (-1) ⟨#[]⟩ = 0 := by decide +kernel
  unfold VPut
  rw [h1, h2]
theorem awake06 (w : World) : Calls Tryd.prog 8 #[] w fun e w' => e = .returned (.bool true) ∧ Below w.heap.size w w' := by
  have HV := Lib.hid (fun W : World => vput_any 2 (-1) ⟨#[]⟩ W (by omega) (by omega) (by show (0 : Nat) ≤ 1000000; omega))
  rw [vput_m1] at HV
  go_enter Tryd.func8, Tryd.ntmps8
  go_wp2_with fail
  refine (HV.out _).mono ?_
  rintro e w1 ⟨rfl, hb⟩
  have HB := Lib.hid hb
  clear hb HV
  go_wp2_with fail
  refine (show_ab _).mono ?_
  rintro e w2 ⟨rfl, hb⟩
  have HB2 := Lib.hid (HB.out.trans (hb.mono HB.out.size))
  clear hb
  go_wp2_with fail
  go_ret
  exact ⟨rfl, HB2.out⟩
end Go.Proofs.YtpiafgdbjpfcaaaDoor
