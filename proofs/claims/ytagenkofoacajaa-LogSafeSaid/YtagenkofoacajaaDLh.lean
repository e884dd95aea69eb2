/- Flush over this translation. Condition: counts that aren't near an integer's end. -/
import Derived.Test.YtagenkofoacajaaDLg
namespace Go.Proofs.Ytagenkofoacajaa
open Go.RowKit Vi

set_option maxRecDepth 100000 in
theorem dflush_down (D : Nat) (SS : List ByteArray) (CC : List Wr) (ops fu : Int) (w : World) (h : DK D SS CC true ops fu w) :
    Calls Try.prog 10 #[.pointer (some ⟨D, 0, none⟩)] w fun e w' => e = .returned (.int .i64 7) ∧ DK D SS CC true ops fu w' ∧ Kd D w w' := by
  have HBn := Lib.hid ((Below.refl w.heap.size w).alloc (Nat.le_refl _) (.cells #[.pointer (some ⟨D, 0, none⟩)] 24 (0, 0)))
  have HL := Lib.hid h.lt
  have HD := Lib.hid (h.kept HBn.out)
  have HR := Lib.hid HD.out.readyIs
  have HX := Lib.hid (blk_new w (.cells #[.pointer (some ⟨D, 0, none⟩)] 24 (0, 0)))
  have x0 : (w.alloc (.cells #[.pointer (some ⟨D, 0, none⟩)] 24 (0, 0))).cell? ⟨w.heap.size, 0, none⟩ = some (.pointer (some ⟨D, 0, none⟩)) := (cell_of_row _ _ _ _ _ _ HX.out).trans rfl
  clear h
  go_enter Try.func10, Try.ntmps10
  go_wp2_with fail
  clear x0
  refine HR.out.mono ?_
  rintro e w' ⟨rfl, rfl⟩
  go_wp2_with fail
  go_ret
  exact ⟨rfl, HD.out, Kd.of_below HBn.out HL.out⟩
set_option maxRecDepth 100000 in
theorem dflush_up (D : Nat) (SS : List ByteArray) (CC : List Wr) (ops fu : Int) (w : World) (h : DK D SS CC false ops fu w) (ho : -1000000000 ≤ ops ∧ ops ≤ 1000000000) (hf : 0 ≤ fu ∧ fu ≤ 9223372036854775807) :
    Calls Try.prog 10 #[.pointer (some ⟨D, 0, none⟩)] w fun e w' => e = .returned (.int .i64 (stpE fu)) ∧ DK D (stpS fu SS CC) (stpC fu CC) (stpD fu) (stpO ops fu) (stpF fu) w' ∧ Kd D w w' := by
  have HBn := Lib.hid ((Below.refl w.heap.size w).alloc (Nat.le_refl _) (.cells #[.pointer (some ⟨D, 0, none⟩)] 24 (0, 0)))
  have HL := Lib.hid h.lt
  have HD := Lib.hid (h.kept HBn.out)
  have HR := Lib.hid HD.out.readyIs
  have HX := Lib.hid (blk_new w (.cells #[.pointer (some ⟨D, 0, none⟩)] 24 (0, 0)))
  have HS := Lib.hid (dstep_flush w.heap.size D SS CC ops fu _ HD.out HX.out ho hf)
  have x0 : (w.alloc (.cells #[.pointer (some ⟨D, 0, none⟩)] 24 (0, 0))).cell? ⟨w.heap.size, 0, none⟩ = some (.pointer (some ⟨D, 0, none⟩)) := (cell_of_row _ _ _ _ _ _ HX.out).trans rfl
  clear h
  go_enter Try.func10, Try.ntmps10
  go_wp2_with fail
  refine HR.out.mono ?_
  rintro e w' ⟨rfl, rfl⟩
  go_wp2_with fail
  clear x0
  refine HS.out.mono ?_
  rintro e w1 ⟨rfl, hd, hb⟩
  have HD1 := Lib.hid hd
  have HB1 := Lib.hid ((Kd.of_below HBn.out HL.out).trans hb)
  clear hd hb
  go_wp2_with fail
  go_ret
  exact ⟨rfl, HD1.out, HB1.out⟩
end Go.Proofs.Ytagenkofoacajaa
