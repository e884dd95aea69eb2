/- AreaOf: for all numbers of 64 bits, for what a sector is, is as the document says. No condition. -/
import Derived.Test.YtgbagifmelkkhaaRows
import Derived.Test.YtgbagifmelkkhaaRw
import Derived.Test.YtgbagifmelkkhaaRo
import Derived.Below
import Derived.Deep.RegionWith
import Derived.RegionTactic
import Derived.Deep.QuietTactic
import Derived.BigQuiet
import Derived.Lib.QuietBelow
namespace Go.Proofs.Ytgbagifmelkkhaa.LAreaOf
open Go.RowKit Ar

theorem below_any {w w' : World} (h : ∃ p : Regrown, w' = Sort.grow (redrawn w p.d) p.os) : Below w.heap.size w w' := by
  obtain ⟨p, rfl⟩ := h
  exact below_regrown w p.d p.os
theorem awake_below (w : World) : Calls Try.prog 24 #[] w fun e w' => e = .returned (.bool true) ∧ Below w.heap.size w w' :=
  (areaAwake_any w).mono fun _ _ ⟨h1, h2⟩ => ⟨h1, h2 ▸ Below.refl _ _⟩

theorem box_cell (w : World) (a h p num : Int) (k : Nat) (v : Value) (hk : (#[Value.int .i64 a, .int .i64 h, .int .i64 p, .int .i64 num] : Array Value)[k]? = some v) :
    (w.alloc (.cells #[.int .i64 a, .int .i64 h, .int .i64 p, .int .i64 num] 32)).cell? ⟨w.heap.size, k, none⟩ = some v := by
  have e := (MapKept.heap_alloc w (.cells #[.int .i64 a, .int .i64 h, .int .i64 p, .int .i64 num] 32)).1
  simp only [World.cell?, e]
  exact hk

set_option maxHeartbeats 800000 in
theorem walk (n a h p num t r s : Int) (w : World) (hn0 : -9223372036854775808 ≤ n) (hn1 : n ≤ 9223372036854775807) (hp0 : -9223372036854775808 ≤ p) (hp1 : p ≤ 9223372036854775807) (ht0 : -9223372036854775808 ≤ t) (ht1 : t ≤ 9223372036854775807) (hr0 : -9223372036854775808 ≤ r) (hr1 : r ≤ 9223372036854775807) (hs0 : -9223372036854775808 ≤ s) (hs1 : s ≤ 9223372036854775807) :
    Calls Try.prog 5 #[.int .i64 n, .agg #[.int .i64 a, .int .i64 h, .int .i64 p, .int .i64 num], .int .i64 t, .int .i64 r, .int .i64 s] w fun e w' => e = .returned (.bool true) ∧ Below w.heap.size w w' := by
  have q : (ofv n h p t r s == ofv n h p t r s) = true := by simp
  go_enter Try.func5, Try.ntmps5
  go_wp2_with fail
  have l0 := fun d os => cell_regrown (box_cell w a h p num 0 (.int .i64 a) rfl) d os
  have l1 := fun d os => cell_regrown (box_cell w a h p num 1 (.int .i64 h) rfl) d os
  have l2 := fun d os => cell_regrown (box_cell w a h p num 2 (.int .i64 p) rfl) d os
  have l3 := fun d os => cell_regrown (box_cell w a h p num 3 (.int .i64 num) rfl) d os
  refine wp_region_quiet_below (by kernel_rfl) (by kernel_rfl) ?_
  repeat (any_goals (first | go_big_quiet_step ((first | (go_at_call 29; exact Calls.regrown_of (of_any n a h p num t r s _ hn0 hn1 hp0 hp1 ht0 ht1 hr0 hr1 hs0 hs1)) | (go_at_call 30; exact Calls.regrown_of (refOf_any n a h p num t r s _ hn0 hn1 hp0 hp1 ht0 ht1 hr0 hr1 hs0 hs1)) | (go_at_call 24; exact Calls.regrown_of (awake_below _)))) | quiet_step ((first | (go_at_call 29; exact Calls.regrown_of (of_any n a h p num t r s _ hn0 hn1 hp0 hp1 ht0 ht1 hr0 hr1 hs0 hs1)) | (go_at_call 30; exact Calls.regrown_of (refOf_any n a h p num t r s _ hn0 hn1 hp0 hp1 ht0 ht1 hr0 hr1 hs0 hs1)) | (go_at_call 24; exact Calls.regrown_of (awake_below _))))))
  refine wpQuiet_nil ?_
  intro w2 hw'
  have hb2 := below_any hw'
  clear hw'
  go_wp2
  go_ret
  exact ⟨rfl, ((Below.refl w.heap.size w).alloc (Nat.le_refl _) (.cells #[.int .i64 a, .int .i64 h, .int .i64 p, .int .i64 num] 32)).trans (hb2.mono (by simp))⟩
end Go.Proofs.Ytgbagifmelkkhaa.LAreaOf
