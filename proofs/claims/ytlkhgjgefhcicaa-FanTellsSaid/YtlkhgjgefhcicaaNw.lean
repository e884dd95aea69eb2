/- The example of layer 5's chapter holds over this translation. No condition. -/
import Derived.Test.YtlkhgjgefhcicaaNf
namespace Go.Proofs.Ytlkhgjgefhcicaa
open Go.RowKit

abbrev ta : ByteArray := ⟨#[97]⟩
abbrev tb : ByteArray := ⟨#[98]⟩
abbrev tc : ByteArray := ⟨#[99]⟩
theorem lt_ab : Op.bytesLess ta.toList tb.toList = true := by rw [ByteArray.toList_eq, ByteArray.toList_eq]; rfl
theorem lt_cb : Op.bytesLess tc.toList tb.toList = false := by rw [ByteArray.toList_eq, ByteArray.toList_eq]; rfl
theorem cut_b : Cut [ta, tc] tb 1 := by
  refine ⟨by simp, fun t h h2 => ?_, fun t h h2 => ?_⟩
  · obtain rfl : t = 0 := by omega
    exact lt_ab
  · obtain rfl : t = 1 := by simp at h; omega
    exact lt_cb
theorem met_b : metB [ta, tc] tb 1 = false := by
  unfold metB
  rw [show ([ta, tc].getD 1 ⟨#[]⟩) = tc from rfl, ByteArray.toList_eq, ByteArray.toList_eq]; rfl
theorem nck_A : nck ⟨#[65]⟩ = 2 := by rfl
theorem SlN.of_block {w : World} {b : Nat} {t : TypeId} (ss : List ByteArray) (h : w.heap[b]? = some (.cells (ss.map stv).toArray t (0, 0))) : SlN w (some ⟨b, 0, none⟩) ss.length ss :=
  ⟨rfl, fun _ => ⟨b, 0, rfl, fun i hi => by rw [Nat.zero_add, cell_of h i (by simpa using hi)]; simp [stv]⟩⟩

set_option maxRecDepth 100000 in
set_option maxHeartbeats 800000 in
theorem nameAwake_any (w : World) : Calls Try.prog 12 #[] w fun e w' => e = .returned (.bool true) ∧ Below w.heap.size w w' := by
  have h0 : SlN (w.alloc (.cells #[.string ⟨#[97]⟩, .string ⟨#[99]⟩] 9)) (some ⟨w.heap.size, 0, none⟩) 2 [⟨#[97]⟩, ⟨#[99]⟩] := SlN.of_block [ta, tc] (MapKept.heap_alloc w (.cells #[.string ⟨#[97]⟩, .string ⟨#[99]⟩] 9)).1
  have H0 := Lib.hid h0
  clear h0
  go_enter Try.func12, Try.ntmps12
  go_wp2_with fail
  refine (withNew_any w.heap.size 0 2 2 [⟨#[97]⟩, ⟨#[99]⟩] ⟨#[98]⟩ 1 _ H0.out (by omega) (by omega) (by decide) cut_b met_b (by omega)).mono ?_
  rintro e w1 ⟨rfl, hg1, hb1⟩
  have hsz : (w.alloc (.cells #[.string ⟨#[97]⟩, .string ⟨#[99]⟩] 9)).heap.size = w.heap.size + 1 := by simp
  have h1 : SlN w1 (some ⟨w.heap.size + 1, 0, none⟩) 3 [ta, tb, tc] := hsz ▸ SlN.of_block [ta, tb, tc] hg1
  have h2 : SlN (w1.alloc (.cells #[.string ⟨#[97]⟩, .string ⟨#[98]⟩, .string ⟨#[99]⟩] 9)) (some ⟨w1.heap.size, 0, none⟩) 3 [ta, tb, tc] := SlN.of_block [ta, tb, tc] (MapKept.heap_alloc w1 (.cells #[.string ⟨#[97]⟩, .string ⟨#[98]⟩, .string ⟨#[99]⟩] 9)).1
  have h3 := h1.later ((Below.refl _ w1).alloc (Nat.le_refl _) (.cells #[.string ⟨#[97]⟩, .string ⟨#[98]⟩, .string ⟨#[99]⟩] 9))
  have HA := Lib.hid h2
  have HB := Lib.hid h3
  have hbb : Below w.heap.size w w1 := ((Below.refl _ w).alloc (Nat.le_refl _) (.cells #[.string ⟨#[97]⟩, .string ⟨#[99]⟩] 9)).trans (hb1.mono (by simp))
  clear h1 h2 h3 hg1 hb1 H0
  go_wp2_with fail
  refine (texts_same _ _ _ _ 3 [ta, tb, tc] _ HB.out HA.out (by omega)).mono ?_
  rintro e w2 ⟨rfl, q, rfl⟩
  go_wp2_with fail
  refine (ncheck_any ⟨#[65]⟩ _ (by decide)).mono ?_
  rintro e w3 ⟨rfl, rfl⟩
  rw [nck_A]
  go_wp2
  go_ret
  have hbe := hbb.alloc hbb.size (.cells #[.string ⟨#[97]⟩, .string ⟨#[98]⟩, .string ⟨#[99]⟩] 9)
  exact ⟨rfl, ⟨hbe.os, hbe.tape, hbe.output, hbe.size, hbe.block⟩⟩
end Go.Proofs.Ytlkhgjgefhcicaa
