/- The contracts of (*sha.Hash).Sum and sha.Sum over this translation. Conditions: a sum that lies in a block of its own; the table that the program's text lays. -/
import Derived.Test.YtagenkofoacajaaDoorHc
import Derived.Test.YtagenkofoacajaaDoorT
namespace Go.Proofs.YtagenkofoacajaaDoor
open Go.RowKit Hm

set_option maxRecDepth 100000 in
set_option maxHeartbeats 1000000 in
theorem sumP_any (a : Option Addr) (len cap : Nat) (ss : List ByteArray) (w : World) (hT : HTab w) (hsl : StrS w a len ss) (hn : (catS ss).length ≤ 576460752303423488) (hle : len ≤ 1000000) :
    Calls Tryd.prog 80 #[.slice a len cap] w fun e w' => e = .returned (.string ⟨(Hm.sum (catS ss)).toArray⟩) ∧ Below w.heap.size w w' := by
  have HT := Lib.hid hT
  have HS := Lib.hid hsl
  have HN := Lib.hid hn
  clear hT hsl hn
  go_enter Tryd.func80, Tryd.ntmps80
  go_wp2_with fail
  refine (start_any w).mono ?_
  rintro e w0 ⟨rfl, hb⟩
  have B0 := Lib.hid hb
  clear hb
  go_wp2_with (refine wpList_store_row rfl 144 (.tmp 3) (.tmp 6) rfl w0.heap.size hc0 rfl rfl 144 _ (heap_alloc_new w0 _) (by kernel_rfl) (by kernel_rfl) (by kernel_rfl) ?_)
  obtain ⟨w1, hw1⟩ : ∃ w1, w1 = (w0.alloc (.cells Tryd.zeroCells144 144)).setRow w0.heap.size hc0 := ⟨_, rfl⟩
  obtain ⟨M, hM⟩ : ∃ M, M = w0.heap.size := ⟨_, rfl⟩
  have H1 := Lib.hid (show SL w1 M [] by rw [hw1, hM]; exact SL.start (setRow_heap _ w0.heap.size _ hc0 144 (0, 0) (heap_alloc_new w0 _)))
  have B1 := Lib.hid (show Below w.heap.size w w1 by rw [hw1]; exact below_setRow (B0.out.alloc B0.out.size _) B0.out.size hc0)
  have HM := Lib.hid (show w.heap.size ≤ M by rw [hM]; exact B0.out.size)
  rw [← hw1, ← hM]
  clear hw1 hM B0
  go_wp2_with fail
  go_loopw [5, 9] (fun _ i wr => ∃ (k : Nat), i = .int .i64 (k : Int) ∧ k ≤ len ∧ SL wr M (catS (ss.take k)) ∧ Below w.heap.size w wr) (fun _ i _ => len - (intOf i).toNat)
  case atStart => exact ⟨0, rfl, Nat.zero_le _, H1.out, B1.out⟩
  case round =>
    obtain ⟨k, rfl, hk, h1, hb⟩ := hrel
    have HR := Lib.hid h1
    have HB := Lib.hid hb
    clear h1 hb
    have hl := HS.out.1
    by_cases hlt2 : k < len
    · obtain ⟨b, off, ha, hc⟩ := HS.out.2 (by omega)
      subst ha
      have cK := (HB.out.cell (p := ⟨b, off + k, none⟩) (World.block_lt_of_cell? w _ (hc k (by omega)))).trans (hc k (by omega))
      obtain ⟨t, ht⟩ : ∃ t, t = ss[k]'(by omega) := ⟨_, rfl⟩
      rw [← ht] at cK
      have HK := Lib.hid (show catS (ss.take (k + 1)) = catS (ss.take k) ++ t.data.toList by rw [ht]; exact catS_take ss k (by omega))
      have HA := Lib.hid (add_any M (catS (ss.take k)) t wr HR.out (HT.out.later HB.out) (HT.out.ne HM.out) (by
        have h := catS_le ss k (by omega)
        rw [← ht] at h
        have := HN.out
        omega))
      clear hc ht hl
      go_wp2_with fail
      refine HA.out.mono ?_
      rintro e w2 ⟨rfl, h2, o2⟩
      have H2 := Lib.hid h2
      have B2 := Lib.hid (Only.below HB.out o2 HM.out HB.out.size)
      clear h2 o2
      go_wp2_with fail
      go_roundw
      case rel => exact ⟨k + 1, by go_num, by omega, by rw [HK.out]; exact H2.out, B2.out⟩
      case measure => simp [intOf]; omega
    · obtain rfl : k = len := by omega
      have HR2 := Lib.hid (show SL wr M (catS ss) by have h := HR.out; rw [List.take_of_length_le (by omega)] at h; exact h)
      clear hl
      go_wp2_with fail
      refine (finish_any M (catS ss) wr HR2.out (HT.out.later HB.out) (HT.out.ne HM.out) HN.out).mono ?_
      rintro e w2 ⟨rfl, h2, o2⟩
      have H2 := Lib.hid h2
      have B2 := Lib.hid (Only.below HB.out o2 HM.out HB.out.size)
      clear h2 o2
      go_wp2_with fail
      refine (done_bytes (catS ss) w2 M H2.out).mono ?_
      rintro e w3 ⟨rfl, hb3⟩
      have B3 := Lib.hid hb3
      clear hb3
      go_wp2_with fail
      go_ret
      exact ⟨rfl, B2.out.trans (B3.out.mono B2.out.size)⟩
end Go.Proofs.YtagenkofoacajaaDoor
