/- ScanReads: whatever pieces are read of any bytes, in whatever order, the program reads as the document says. No condition. -/
import Derived.Test.YtgbagifmelkkhaaRows
import Derived.Test.YtgbagifmelkkhaaQs
import Derived.Test.YtgbagifmelkkhaaQt
import Derived.Test.YtgbagifmelkkhaaQw
import Derived.Test.YtgbagifmelkkhaaSawake
namespace Go.Proofs.Ytgbagifmelkkhaa.LScanReads
open Go.RowKit Vi

theorem reads_any (B : Nat) (S : ByteArray) (q : Nat) (er k n : Int) (w : World) (hS : S.size ≤ 1000000) (hq : q ≤ S.size) (hs : Sc w B true S q er) (hn0 : -9223372036854775808 ≤ n) (hn1 : n ≤ 9223372036854775807) :
    Calls Try.prog 56 #[.pointer (some ⟨B, 0, none⟩), .agg #[.string S, .int .i64 (q : Int), .int .i64 er], .agg #[.int .i64 k, .int .i64 n]] w (ReadsIs B S w) := by
  by_cases k1 : k = 1
  · subst k1; exact reads1 B S q er n w hS hq hs hn0 hn1
  by_cases k2 : k = 2
  · subst k2; exact reads2 B S q er n w hS hq hs
  by_cases k3 : k = 3
  · subst k3; exact reads3 B S q er n w hS hq hs hn0 hn1
  by_cases k4 : k = 4
  · subst k4; exact reads4 B S q er n w hS hq hs
  by_cases k5 : k = 5
  · subst k5; exact reads5 B S q er n w hS hq hs hn0 hn1
  by_cases k6 : k = 6
  · subst k6; exact reads6 B S q er n w hS hq hs
  by_cases k7 : k = 7
  · subst k7; exact reads7 B S q er n w hS hq hs
  by_cases k8 : k = 8
  · subst k8; exact reads8 B S q er n w hS hq hs
  exact reads0 B S q er k n w hq hs (by simpa using k1) (by simpa using k2) (by simpa using k3) (by simpa using k4) (by simpa using k5) (by simpa using k6) (by simpa using k7) (by simpa using k8)

/-- where a slice of acts lies -/
def SlA (w : World) (a : Option Addr) (len : Nat) : Prop := 0 < len → ∃ b off, a = some ⟨b, off, none⟩ ∧ ∀ i, i < len → ∃ k n : Int, w.cell? ⟨b, off + i * 2, none⟩ = some (.int .i64 k) ∧ w.cell? ⟨b, off + i * 2 + 1, none⟩ = some (.int .i64 n) ∧ -9223372036854775808 ≤ n ∧ n ≤ 9223372036854775807

/-- what holds at a round's head -/
def Rel (S : ByteArray) (w : World) (n6 : Nat) (wr : World) : Prop :=
  ∃ (q : Nat) (er : Int), q ≤ S.size ∧ Sc wr w.heap.size true S q er ∧ wr.cell? ⟨n6, 0, none⟩ = some (.string S) ∧ wr.cell? ⟨n6, 1, none⟩ = some (.int .i64 (q : Int)) ∧ wr.cell? ⟨n6, 2, none⟩ = some (.int .i64 er) ∧
    wr.frozen? ⟨n6, 0, none⟩ = false ∧ wr.frozen? ⟨n6, 1, none⟩ = false ∧ wr.frozen? ⟨n6, 2, none⟩ = false ∧ n6 < wr.heap.size ∧ Below w.heap.size w wr

set_option maxHeartbeats 1600000 in
set_option maxRecDepth 100000 in
theorem walk (S : ByteArray) (a : Option Addr) (len cap : Nat) (w : World) (hsl : SlA w a len) (hlm : len ≤ maxLen) (hSm : S.size ≤ maxLen) :
    Calls Try.prog 12 #[.string S, .slice a len cap] w fun e w' => e = .returned (.bool true) ∧ Below w.heap.size w w' := by
  unfold maxLen at hlm hSm
  by_cases g1 : 1000 < (S.size : Int)
  · go_enter Try.func12, Try.ntmps12
    go_wp2_with fail
    refine (awake4_any _).mono ?_
    rintro e w1 ⟨rfl, hb1⟩
    go_wp2_with fail
    go_ret
    exact ⟨rfl, hb1⟩
  by_cases g2 : 200 < (len : Int)
  · go_enter Try.func12, Try.ntmps12
    go_wp2_with fail
    refine (awake4_any _).mono ?_
    rintro e w1 ⟨rfl, hb1⟩
    go_wp2_with fail
    go_ret
    exact ⟨rfl, hb1⟩
  have hS : S.size ≤ 1000000 := by omega
  have HSL := Lib.hid hsl
  clear hsl
  go_enter Try.func12, Try.ntmps12
  go_wp2_with fail
  refine (new_any S w).mono ?_
  rintro e w1 ⟨rfl, hs1, hb1⟩
  have hlt1 := hs1.lt
  have HS1 := Lib.hid hs1
  have HB1 := Lib.hid hb1
  clear hs1 hb1
  go_wp2_with fail
  go_loopw [25] (fun i wr => ∃ k : Nat, k ≤ len ∧ i = .int .i64 (k : Int) ∧ Rel S w w1.heap.size wr) (fun i _ => len - (intOf i).toNat)
  case atStart =>
    have r := Below.refl (w1.alloc (.cells #[.string S, .int .i64 0, .int .i64 0] 60)).heap.size (w1.alloc (.cells #[.string S, .int .i64 0, .int .i64 0] 60))
    exact ⟨0, Nat.zero_le _, rfl, 0, 0, Nat.zero_le _, HS1.out.alloc _, box_at r rfl 0 rfl, box_at r rfl 1 rfl, box_at r rfl 2 rfl, box_free r rfl 0, box_free r rfl 1, box_free r rfl 2, by simp, HB1.out.alloc (by omega) _⟩
  case round =>
    obtain ⟨k, hk, rfl, q, er, hq, hs, c0, c1, c2, f0, f1, f2, hn6, hb⟩ := hrel
    by_cases hlt : k < len
    · obtain ⟨b, off, rfl, hcell⟩ := HSL.out (by omega)
      obtain ⟨kk, nn, hk0, hk1, hnn0, hnn1⟩ := hcell k hlt
      have hbw : b < w.heap.size := World.block_lt_of_cell? w _ hk0
      have e0 := (hb.cell (p := ⟨b, off + k * 2, none⟩) hbw).trans hk0
      have e1 := (hb.cell (p := ⟨b, off + k * 2 + 1, none⟩) hbw).trans hk1
      have HSc := Lib.hid hs
      clear hs hcell hk0 hk1
      go_wp2_with fail
      refine (reads_any w.heap.size S q er kk nn _ hS hq ?_ hnn0 hnn1).mono ?_
      exact HSc.out.alloc _
      rintro e w2 ⟨q', er', hq', rfl, hs2, hb2⟩
      have eb := (Below.refl wr.heap.size wr).alloc (Nat.le_refl _) (.cells #[.int .i64 kk, .int .i64 nn] 62)
      have x0 := (hb2.cellOf (b := w1.heap.size) (i := 0) (by simp; omega) (by omega)).trans ((eb.cell (p := ⟨w1.heap.size, 0, none⟩) hn6).trans c0)
      have x1 := (hb2.cellOf (b := w1.heap.size) (i := 1) (by simp; omega) (by omega)).trans ((eb.cell (p := ⟨w1.heap.size, 1, none⟩) hn6).trans c1)
      have x2 := (hb2.cellOf (b := w1.heap.size) (i := 2) (by simp; omega) (by omega)).trans ((eb.cell (p := ⟨w1.heap.size, 2, none⟩) hn6).trans c2)
      have y0 := (hb2.freeOf (b := w1.heap.size) (i := 0) (by simp; omega) (by omega)).trans ((eb.frozen (p := ⟨w1.heap.size, 0, none⟩) hn6).trans f0)
      have y1 := (hb2.freeOf (b := w1.heap.size) (i := 1) (by simp; omega) (by omega)).trans ((eb.frozen (p := ⟨w1.heap.size, 1, none⟩) hn6).trans f1)
      have y2 := (hb2.freeOf (b := w1.heap.size) (i := 2) (by simp; omega) (by omega)).trans ((eb.frozen (p := ⟨w1.heap.size, 2, none⟩) hn6).trans f2)
      have hb3 : Below w.heap.size w w2 := But.below (hb.alloc hb.size _) hb2 (Nat.le_refl _) (by have := hb.size; simp; omega)
      have hsz : w1.heap.size < w2.heap.size := by have := hb2.size; simp at this; omega
      obtain ⟨s0, s1, s2⟩ := read3 x0 x1 x2 (.string S) (.int .i64 (q' : Int)) (.int .i64 er')
      have HR : Rel S w w1.heap.size (((w2.setCell ⟨w1.heap.size, 0, none⟩ (.string S)).setCell ⟨w1.heap.size, 1, none⟩ (.int .i64 (q' : Int))).setCell ⟨w1.heap.size, 2, none⟩ (.int .i64 er')) := by
        refine ⟨q', er', hq', hs2.kept ?_, far_cell1 (far_cell1 s0 (by decide)) (by decide), far_cell1 s1 (by decide), s2, far_free (far_free (far_free y0)), far_free (far_free (far_free y1)), far_free (far_free (far_free y2)), by simpa using hsz, ?_⟩
        · rw [Below.heap_setCell _ _ _ _ (by simp; omega), Below.heap_setCell _ _ _ _ (by simp; omega), Below.heap_setCell _ _ _ _ (by simp; omega)]
        · exact ((hb3.setCell (by simp; omega) _).setCell (by simp; omega) _).setCell (by simp; omega) _
      have HRel := Lib.hid HR
      clear HR s0 s1 s2 hb3 hb2 hs2 eb c0 c1 c2 f0 f1 f2 e0 e1
      unfold sv
      go_wp2
      go_roundw
      case rel => exact ⟨k + 1, by omega, by go_num, HRel.out⟩
      case measure => simp [intOf]; omega
    · go_wp2_with fail
      refine (awake4_any _).mono ?_
      rintro e w2 ⟨rfl, hb2⟩
      go_wp2_with fail
      go_ret
      exact ⟨rfl, hb.trans (hb2.mono hb.size)⟩
end Go.Proofs.Ytgbagifmelkkhaa.LScanReads
