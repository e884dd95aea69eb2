/- The contract of name.With where the name is not there, and of the statement's Texts on equal rows; the chapter's example of layer 5. -/
import Derived.Test.YtagenkofoacajaaGreatNe
import Derived.Deep.RegionWith
import Derived.RegionTactic
import Derived.Deep.QuietTactic
import Derived.BigQuiet
namespace Go.Proofs.YtagenkofoacajaaGreat
open Go.RowKit

theorem SlN.take {w : World} {b off len : Nat} {ss : List ByteArray} (h : SlN w (some ⟨b, off, none⟩) len ss) (K : Nat) (hk : K ≤ len) : SlN w (some ⟨b, off, none⟩) K (ss.take K) := by
  have hl := h.1
  refine ⟨by simp; omega, fun hp => ?_⟩
  obtain ⟨b', off', e, hc⟩ := h.2 (by omega)
  cases e
  refine ⟨_, _, rfl, fun i hi => ?_⟩
  have hi2 : i < ss.length := by simp at hi; omega
  rw [hc i hi2]; simp
theorem SlN.drop {w : World} {b off len : Nat} {ss : List ByteArray} (h : SlN w (some ⟨b, off, none⟩) len ss) (K o : Nat) (ho : K < len → o = off + K) (hk : K ≤ len) : SlN w (some ⟨b, o, none⟩) (len - K) (ss.drop K) := by
  have hl := h.1
  refine ⟨by simp; omega, fun hp => ?_⟩
  obtain ⟨b', off', e, hc⟩ := h.2 (by omega)
  cases e
  refine ⟨_, _, rfl, fun i hi => ?_⟩
  have hi2 : K + i < ss.length := by simp at hi; omega
  rw [ho (by omega), Nat.add_assoc, hc (K + i) hi2]; simp
theorem SlN.later {w w' : World} {a : Option Addr} {len : Nat} {ss : List ByteArray} (h : SlN w a len ss) (hb : Below w.heap.size w w') : SlN w' a len ss :=
  ⟨h.1, fun hp => by
    obtain ⟨b, off, e, hc⟩ := h.2 hp
    exact ⟨b, off, e, fun i hi => by rw [hb.cell (p := ⟨b, off + i, none⟩) (World.block_lt_of_cell? w _ (hc i hi))]; exact hc i hi⟩⟩

set_option maxRecDepth 100000 in
set_option maxHeartbeats 1600000 in
theorem withNew_any (b off len cap : Nat) (ss : List ByteArray) (x : ByteArray) (K : Nat) (w : World) (hsl : SlN w (some ⟨b, off, none⟩) len ss) (hlm : len ≤ 1000000) (hlc : len ≤ cap) (hcm : cap ≤ maxLen) (hK : Cut ss x K) (hm : metB ss x K = false) (hq : ¬ cap = K) :
    Calls Tryz.prog 156 #[.slice (some ⟨b, off, none⟩) len cap, .string x] w fun e w' => e = .returned (.tuple #[.slice (some ⟨w.heap.size, 0, none⟩) (len + 1) (len + 1), .bool true]) ∧ w'.heap[w.heap.size]? = some (.cells ((ss.take K ++ x :: ss.drop K).map stv).toArray 9 (0, 0)) ∧ Below w.heap.size w w' := by
  unfold maxLen at hcm
  have hkl : K ≤ len := by have := hK.1; rw [hsl.1] at this; exact this
  have HM := Lib.hid hm
  have HK := Lib.hid hK
  have HS := Lib.hid hsl
  clear hm hK hsl
  have hk0 : 0 ≤ (K : Int) := by omega
  have hk1 : (K : Int) ≤ (cap : Int) := by omega
  have hk2 : (K : Int) ≤ (len : Int) := by omega
  have hk3 : K + 1 + (len - K) = len + 1 := by omega
  have HK3 := Lib.hid hk3
  clear hk3
  go_enter Tryz.func156, Tryz.ntmps156
  go_wp2_with fail
  refine (find_any (some ⟨b, off, none⟩) len cap ss x K w HS.out hlm HK.out).mono ?_
  rintro e w' ⟨rfl, rfl⟩
  rw [HM.out]
  go_wp2_with fail
  go_region_with ((go_at_call 173; refine (join_any (some ⟨b, off, none⟩) K cap (ss.take K) x (some ⟨b, off + K, none⟩) (len - K) (cap - K) (ss.drop K) _ ?_ ?_ (by omega) (by omega)).mono ?_; (exact HS.out.take K hkl); (exact HS.out.drop K (off + K) (fun h => rfl) hkl); rintro e w2 ⟨rfl, hg, hb⟩))
  all_goals go_wp2
  all_goals go_ret2
  all_goals exact ⟨by rw [← HK3.out]; rfl, hg, ((Below.refl _ w).drew).trans hb⟩

end Go.Proofs.YtagenkofoacajaaGreat
