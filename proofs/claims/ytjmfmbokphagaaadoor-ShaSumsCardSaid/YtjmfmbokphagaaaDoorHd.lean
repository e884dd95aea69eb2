/- The contracts of (*sha.Hash).Sum and sha.Sum over this translation. Conditions: a sum that lies in a block of its own; the table that the program's text lays. -/
import Derived.Test.YtjmfmbokphagaaaDoorHc
import Derived.Test.YtjmfmbokphagaaaDoorT
namespace Go.Proofs.YtjmfmbokphagaaaDoor
open Go.RowKit Hm

set_option maxRecDepth 100000 in
set_option maxHeartbeats 1000000 in
theorem hsum_any (B : Nat) (l : List UInt8) (w : World) (H : SL w B l) (hT : HTab w) (hn : l.length ≤ 576460752303423488) :
    Calls Tryd.prog 19 #[.pointer (some ⟨B, 0, none⟩)] w fun e w' => e = .returned (.string ⟨(Hm.sum l).toArray⟩) ∧ Below w.heap.size w w' := by
  have hm := H.made
  obtain ⟨b, h1, h2⟩ := H
  obtain ⟨cs, hcs⟩ : ∃ cs, cs = (hcs (blk l) b l.length).toArray := ⟨_, rfl⟩
  have HBK := Lib.hid (show w.heap[B]? = some (.cells cs 42 (0, 0)) by rw [hcs]; exact h1.blk)
  have HIN := Lib.hid (show (Tryd.prog.info? 42).map (·.size) = some cs.size by rw [hcs]; exact hc_info _ _ _ h1.hl h1.bl)
  have HON := Lib.hid (show cs.all (·.oneCell') = true by rw [hcs]; exact hc_one _ _ _)
  have HSZ := Lib.hid (show cs.size = 74 by rw [hcs, List.size_toArray]; exact hcs_len _ _ _ h1.hl h1.bl)
  have HSL := Lib.hid (show ∀ (W : World) (M : Nat), W.heap[M]? = some (.cells cs 42 (0, 0)) → SL W M l from fun W M hW => ⟨b, ⟨h1.hl, h1.hlt, h1.bl, by rw [hW, hcs]⟩, h2⟩)
  have HT := Lib.hid hT
  have HN := Lib.hid hn
  clear h1 h2 hcs hT hn
  go_enter Tryd.func19, Tryd.ntmps19
  go_wp2_with fail
  refine (is_made B true w hm).mono ?_
  rintro e w1 ⟨rfl, rfl⟩
  clear hm
  go_wp2_with (first
    | refine wpList_load_row rfl 42 (.tmp 8) rfl B rfl 42 cs (0, 0) _ HBK.out Tryd.underlying42 rfl HIN.out ?_
    | refine wpList_store_row rfl 42 (.tmp 3) (.tmp 9) rfl w.heap.size cs rfl rfl 42 _ (heap_alloc_new w _) HIN.out (by rw [HSZ.out]; kernel_rfl) HON.out ?_)
  obtain ⟨w1, hw1⟩ : ∃ w1, w1 = (w.alloc (.cells Tryd.zeroCells42 42)).setRow w.heap.size cs := ⟨_, rfl⟩
  have H1 := Lib.hid (show SL w1 w.heap.size l by rw [hw1]; exact HSL.out _ w.heap.size (setRow_heap _ w.heap.size _ cs 42 (0, 0) (heap_alloc_new w _)))
  have B1 := Lib.hid (show Below w.heap.size w w1 by rw [hw1]; exact below_setRow ((Below.refl _ w).alloc (Nat.le_refl _) _) (Nat.le_refl _) cs)
  rw [← hw1]
  clear hw1
  refine (finish_any w.heap.size l w1 H1.out (HT.out.later B1.out) (HT.out.ne (Nat.le_refl _)) HN.out).mono ?_
  rintro e w2 ⟨rfl, h2, o2⟩
  have H2 := Lib.hid h2
  have B2 := Lib.hid (Only.below B1.out o2 (Nat.le_refl _) B1.out.size)
  clear h2 o2
  go_wp2_with fail
  refine (done_bytes l w2 w.heap.size H2.out).mono ?_
  rintro e w3 ⟨rfl, hb3⟩
  have B3 := Lib.hid hb3
  clear hb3
  go_wp2_with fail
  go_ret
  exact ⟨rfl, B2.out.trans (B3.out.mono B2.out.size)⟩

set_option maxRecDepth 100000 in
set_option maxHeartbeats 1000000 in
theorem sumP_any (a : Option Addr) (len cap : Nat) (ss : List ByteArray) (w : World) (hT : HTab w) (hsl : StrS w a len ss) (hn : (catS ss).length ≤ 576460752303423488) (hle : len ≤ 1000000) :
    Calls Tryd.prog 13 #[.slice a len cap] w fun e w' => e = .returned (.string ⟨(Hm.sum (catS ss)).toArray⟩) ∧ Below w.heap.size w w' := by
  have HT := Lib.hid hT
  have HS := Lib.hid hsl
  have HN := Lib.hid hn
  clear hT hsl hn
  go_enter Tryd.func13, Tryd.ntmps13
  go_wp2_with fail
  refine (start_any w).mono ?_
  rintro e w0 ⟨rfl, hb⟩
  have B0 := Lib.hid hb
  clear hb
  go_wp2_with (refine wpList_store_row rfl 42 (.tmp 3) (.tmp 6) rfl w0.heap.size hc0 rfl rfl 42 _ (heap_alloc_new w0 _) (by kernel_rfl) (by kernel_rfl) (by kernel_rfl) ?_)
  obtain ⟨w1, hw1⟩ : ∃ w1, w1 = (w0.alloc (.cells Tryd.zeroCells42 42)).setRow w0.heap.size hc0 := ⟨_, rfl⟩
  obtain ⟨M, hM⟩ : ∃ M, M = w0.heap.size := ⟨_, rfl⟩
  have H1 := Lib.hid (show SL w1 M [] by rw [hw1, hM]; exact SL.start (setRow_heap _ w0.heap.size _ hc0 42 (0, 0) (heap_alloc_new w0 _)))
  have B1 := Lib.hid (show Below w.heap.size w w1 by rw [hw1]; exact below_setRow (B0.out.alloc B0.out.size _) B0.out.size hc0)
  have HM := Lib.hid (show w.heap.size ≤ M by rw [hM]; exact B0.out.size)
  rw [← hw1, ← hM]
  clear hw1 hM B0
  go_wp2_with fail
  go_loopw [5, 9] (fun _ i wr => ∃ (k : Nat), i = .int .i64 (k : Int) ∧ k ≤ len ∧ SL wr M (catS (ss.take k)) ∧ Below w.heap.size w wr) (fun _ i _ => len - (intOf i).toNat)
  case atStart => exact ⟨0, rfl, Nat.zero_le _, H1.out, B1.out⟩
  case round =>
    obtain ⟨k, rfl, hk, h1, hb⟩ := hrel
    have HR := Lib.hid h1
    have HB := Lib.hid hb
    clear h1 hb
    have hl := HS.out.1
    by_cases hlt2 : k < len
    · obtain ⟨b, off, ha, hc⟩ := HS.out.2 (by omega)
      subst ha
      have cK := (HB.out.cell (p := ⟨b, off + k, none⟩) (World.block_lt_of_cell? w _ (hc k (by omega)))).trans (hc k (by omega))
      obtain ⟨t, ht⟩ : ∃ t, t = ss[k]'(by omega) := ⟨_, rfl⟩
      rw [← ht] at cK
      have HK := Lib.hid (show catS (ss.take (k + 1)) = catS (ss.take k) ++ t.data.toList by rw [ht]; exact catS_take ss k (by omega))
      have HA := Lib.hid (add_any M (catS (ss.take k)) t wr HR.out (HT.out.later HB.out) (HT.out.ne HM.out) (by
        have h := catS_le ss k (by omega)
        rw [← ht] at h
        have := HN.out
        omega))
      clear hc ht hl
      go_wp2_with fail
      refine HA.out.mono ?_
      rintro e w2 ⟨rfl, h2, o2⟩
      have H2 := Lib.hid h2
      have B2 := Lib.hid (Only.below HB.out o2 HM.out HB.out.size)
      clear h2 o2
      go_wp2_with fail
      go_roundw
      case rel => exact ⟨k + 1, by go_num, by omega, by rw [HK.out]; exact H2.out, B2.out⟩
      case measure => simp [intOf]; omega
    · obtain rfl : k = len := by omega
      have HR2 := Lib.hid (show SL wr M (catS ss) by have h := HR.out; rw [List.take_of_length_le (by omega)] at h; exact h)
      clear hl
      go_wp2_with fail
      refine (finish_any M (catS ss) wr HR2.out (HT.out.later HB.out) (HT.out.ne HM.out) HN.out).mono ?_
      rintro e w2 ⟨rfl, h2, o2⟩
      have H2 := Lib.hid h2
      have B2 := Lib.hid (Only.below HB.out o2 HM.out HB.out.size)
      clear h2 o2
      go_wp2_with fail
      refine (done_bytes (catS ss) w2 M H2.out).mono ?_
      rintro e w3 ⟨rfl, hb3⟩
      have B3 := Lib.hid hb3
      clear hb3
      go_wp2_with fail
      go_ret
      exact ⟨rfl, B2.out.trans (B3.out.mono B2.out.size)⟩
end Go.Proofs.YtjmfmbokphagaaaDoor
