/- The contract of name.With where the name is not there, and of the statement's Texts on equal rows; the chapter's example of layer 5. -/
import Derived.Test.YtpjpegmjcgkonaaNe
import Derived.Deep.RegionWith
import Derived.RegionTactic
import Derived.Deep.QuietTactic
import Derived.BigQuiet
namespace Go.Proofs.Ytpjpegmjcgkonaa
open Go.RowKit

theorem SlN.take {w : World} {b off len : Nat} {ss : List ByteArray} (h : SlN w (some ⟨b, off, none⟩) len ss) (K : Nat) (hk : K ≤ len) : SlN w (some ⟨b, off, none⟩) K (ss.take K) := by
  have hl := h.1
  refine ⟨by simp; omega, fun hp => ?_⟩
  obtain ⟨b', off', e, hc⟩ := h.2 (by omega)
  cases e
  refine ⟨_, _, rfl, fun i hi => ?_⟩
  have hi2 : i < ss.length := by simp at hi; omega
  rw [hc i hi2]; simp
theorem SlN.drop {w : World} {b off len : Nat} {ss : List ByteArray} (h : SlN w (some ⟨b, off, none⟩) len ss) (K o : Nat) (ho : K < len → o = off + K) (hk : K ≤ len) : SlN w (some ⟨b, o, none⟩) (len - K) (ss.drop K) := by
  have hl := h.1
  refine ⟨by simp; omega, fun hp => ?_⟩
  obtain ⟨b', off', e, hc⟩ := h.2 (by omega)
  cases e
  refine ⟨_, _, rfl, fun i hi => ?_⟩
  have hi2 : K + i < ss.length := by simp at hi; omega
  rw [ho (by omega), Nat.add_assoc, hc (K + i) hi2]; simp
theorem SlN.later {w w' : World} {a : Option Addr} {len : Nat} {ss : List ByteArray} (h : SlN w a len ss) (hb : Below w.heap.size w w') : SlN w' a len ss :=
  ⟨h.1, fun hp => by
    obtain ⟨b, off, e, hc⟩ := h.2 hp
    exact ⟨b, off, e, fun i hi => by rw [hb.cell (p := ⟨b, off + i, none⟩) (World.block_lt_of_cell? w _ (hc i hi))]; exact hc i hi⟩⟩

end Go.Proofs.Ytpjpegmjcgkonaa
