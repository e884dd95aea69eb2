/- Arm and Over over this translation. No condition. -/
import Derived.Test.YtagenkofoacajaaDLc
namespace Go.Proofs.Ytagenkofoacajaa
open Go.RowKit Vi

theorem DK.made {D : Nat} {SS : List ByteArray} {CC : List Wr} {dn : Bool} {ops fu : Int} {w : World} (h : DK D SS CC dn ops fu w) : Calls Try.prog 47 #[.pointer (some ⟨D, 0, none⟩)] w fun e w' => e = .returned (.bool true) ∧ w = w' := by
  obtain ⟨⟨sa, sn, sc, ca, cn, cc, h1, h2, h3⟩, _⟩ := h
  exact dmade_any D sa sn sc ca cn cc true dn ops fu w h1
theorem DK.readyIs {D : Nat} {SS : List ByteArray} {CC : List Wr} {dn : Bool} {ops fu : Int} {w : World} (h : DK D SS CC dn ops fu w) : Calls Try.prog 42 #[.pointer (some ⟨D, 0, none⟩)] w fun e w' => e = .returned (.int .i64 (if dn = true then 7 else 0)) ∧ w = w' := by
  obtain ⟨⟨sa, sn, sc, ca, cn, cc, h1, h2, h3⟩, _⟩ := h
  exact dready_any D sa sn sc ca cn cc dn ops fu w h1
theorem DK.checkIs {D : Nat} {SS : List ByteArray} {CC : List Wr} {dn : Bool} {ops fu : Int} {w : World} (h : DK D SS CC dn ops fu w) (i : Int) (s : ByteArray) : Calls Try.prog 83 #[.pointer (some ⟨D, 0, none⟩), .int .i64 i, .string s] w fun e w' => e = .returned (.int .i64 (dckE SS.length i s)) ∧ w = w' := by
  obtain ⟨⟨sa, sn, sc, ca, cn, cc, h1, h2, h3⟩, _⟩ := h
  have hl : sn = SS.length := by
    obtain ⟨A, c, e, _, _, _⟩ := h2.rd stC_len
    injection e
  rw [← hl]
  exact dcheck_any D sa sn sc i s w (dk_cells h1).1
def armE (dn : Bool) (n : Int) : Int := if dn = true then 7 else if n < 0 then 2 else 0
/-- what is armed then -/
def armF (dn : Bool) (n fu : Int) : Int := if armE dn n = 0 then n else fu
set_option maxRecDepth 100000 in
theorem darm_any (D : Nat) (SS : List ByteArray) (CC : List Wr) (dn : Bool) (ops fu : Int) (n : Int) (w : World) (h : DK D SS CC dn ops fu w) :
    Calls Try.prog 11 #[.pointer (some ⟨D, 0, none⟩), .int .i64 n] w fun e w' => e = .returned (.int .i64 (armE dn n)) ∧ DK D SS CC dn ops (armF dn n fu) w' ∧ Kd D w w' := by
  have HR := Lib.hid h.readyIs
  cases dn with
  | true =>
    have H := Lib.hid h
    have HZ := Lib.hid (show armE true n = 7 from rfl)
    clear h
    go_enter Try.func11, Try.ntmps11
    go_wp2_with fail
    refine HR.out.mono ?_
    rintro e w' ⟨rfl, rfl⟩
    go_wp2_with fail
    go_ret
    exact ⟨dk_retI HZ.out.symm, by unfold armF; rw [HZ.out]; exact H.out, Kd.refl _ _⟩
  | false =>
    by_cases hn : n < 0
    · have d1 : decide (n < 0) = true := decide_eq_true hn
      have H := Lib.hid h
      have HZ := Lib.hid (show armE false n = 2 by unfold armE; rw [if_neg (by simp), if_pos hn])
      clear h hn
      go_enter Try.func11, Try.ntmps11
      go_wp2_with fail
      refine HR.out.mono ?_
      rintro e w' ⟨rfl, rfl⟩
      go_wp2_with fail
      go_ret
      exact ⟨dk_retI HZ.out.symm, by unfold armF; rw [HZ.out]; exact H.out, Kd.refl _ _⟩
    · have d1 : decide (n < 0) = false := decide_eq_false hn
      have HZ := Lib.hid (show armE false n = 0 by unfold armE; rw [if_neg (by simp), if_neg hn])
      obtain ⟨⟨sa, sn, sc, ca, cn, cc, h1, h2, h3⟩, h4⟩ := h
      have H1 := Lib.hid h1
      have H2 := Lib.hid h2
      have H3 := Lib.hid h3
      have H4 := Lib.hid h4
      have f5 : w.frozen? ⟨D, 5, none⟩ = false := frozen_of_row _ _ _ _ _ h1
      have c5 : w.cell? ⟨D, 5, none⟩ = some (.int .i64 fu) := (dk_cells h1).2.2.2.2.2
      clear h1 h2 h3 h4 hn
      go_enter Try.func11, Try.ntmps11
      go_wp2_with fail
      refine HR.out.mono ?_
      rintro e w' ⟨rfl, rfl⟩
      go_wp2_with fail
      have HK := Lib.hid ((KK.refl [D] w).set (b := D) (by simp) 5 (.int .i64 n))
      have HB := Lib.hid (show (w.setCell ⟨D, 5, none⟩ (.int .i64 n)).heap[D]? = some (dkO sa sn sc ca cn cc true false ops n) from heap_setCell_at (i := 5) (u := .int .i64 n) H1.out)
      have HO2 := Lib.hid (H2.out.kkD HK.out H1.out (by decide))
      have HO3 := Lib.hid (H3.out.kkD HK.out H1.out (by decide))
      go_ret
      exact ⟨dk_retI HZ.out.symm, by unfold armF; rw [HZ.out]; exact ⟨⟨sa, sn, sc, ca, cn, cc, HB.out, HO2.out, HO3.out⟩, H4.out⟩, Kd.of_same HK.out H1.out HB.out⟩
end Go.Proofs.Ytagenkofoacajaa
