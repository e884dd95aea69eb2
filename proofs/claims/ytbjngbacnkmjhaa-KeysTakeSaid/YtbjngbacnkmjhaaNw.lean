/- The example of layer 5's chapter holds over this translation. No condition. -/
import Derived.Test.YtbjngbacnkmjhaaNf
namespace Go.Proofs.Ytbjngbacnkmjhaa
open Go.RowKit

abbrev ta : ByteArray := ⟨#[97]⟩
abbrev tb : ByteArray := ⟨#[98]⟩
abbrev tc : ByteArray := ⟨#[99]⟩
theorem lt_ab : Op.bytesLess ta.toList tb.toList = true := by rw [ByteArray.toList_eq, ByteArray.toList_eq]; rfl
theorem lt_cb : Op.bytesLess tc.toList tb.toList = false := by rw [ByteArray.toList_eq, ByteArray.toList_eq]; rfl
theorem cut_b : Cut [ta, tc] tb 1 := by
  refine ⟨by simp, fun t h h2 => ?_, fun t h h2 => ?_⟩
  · obtain rfl : t = 0 := by omega
    exact lt_ab
  · obtain rfl : t = 1 := by simp at h; omega
    exact lt_cb
theorem met_b : metB [ta, tc] tb 1 = false := by
  unfold metB
  rw [show ([ta, tc].getD 1 ⟨#[]⟩) = tc from rfl, ByteArray.toList_eq, ByteArray.toList_eq]; rfl
theorem nck_A : nck ⟨#[65]⟩ = 2 := by rfl
theorem SlN.of_block {w : World} {b : Nat} {t : TypeId} (ss : List ByteArray) (h : w.heap[b]? = some (.cells (ss.map stv).toArray t (0, 0))) : SlN w (some ⟨b, 0, none⟩) ss.length ss :=
  ⟨rfl, fun _ => ⟨b, 0, rfl, fun i hi => by rw [Nat.zero_add, cell_of h i (by simpa using hi)]; simp [stv]⟩⟩

end Go.Proofs.Ytbjngbacnkmjhaa
