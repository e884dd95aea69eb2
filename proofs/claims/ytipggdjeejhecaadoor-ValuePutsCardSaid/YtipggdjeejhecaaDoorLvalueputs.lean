/- ValuePuts: whether any value may be, its bytes, and how it is shown, are the document's. Condition: the table of powers of ten holds what the library's text lays. -/
import Derived.Test.YtipggdjeejhecaaDoorRows
import Derived.Test.YtipggdjeejhecaaDoorWf
import Derived.Lib.QuietBelow
import Derived.BigQuiet
namespace Go.Proofs.YtipggdjeejhecaaDoor.LValuePuts
open Go.RowKit Vi Hm

theorem below_anyV {w w' : World} (h : ∃ p : Regrown, w' = Sort.grow (redrawn w p.d) p.os) : Below w.heap.size w w' := by
  obtain ⟨p, rfl⟩ := h
  exact below_regrown w p.d p.os
theorem powR {w : World} (h : PowT w) (d : Nat) (os : Array Obj) : PowT (Sort.grow (redrawn w d) os) := h.later (below_regrown w d os)
set_option maxRecDepth 100000 in
set_option maxHeartbeats 4000000 in
theorem walk_few (k n : Int) (t : ByteArray) (w : World) (hT : PowT w) (h0 : -9223372036854775808 ≤ n) (h1 : n ≤ 9223372036854775807) (hs : t.size ≤ 1000) :
    Calls Tryd.prog 3 #[.agg #[.int .i64 k, .int .i64 n, .string t]] w fun e w' => e = .returned (.bool true) ∧ Below w.heap.size w w' := by
  have HT := Lib.hid hT
  have hd : decide ((1000 : Int) < (t.size : Int)) = false := decide_eq_false (by omega)
  have HP := Lib.hid (fun W : World => vput_any k n t W h0 h1 (by omega))
  have HRP := Lib.hid (fun W : World => rputV_any k n t W h0 h1 (by omega))
  have HS := Lib.hid (fun (W : World) (h : PowT W) => vshow_any k n t W h0 h1 (by omega) h)
  have HRS := Lib.hid (fun W : World => rshow_any k n t W h0 h1 (by omega))
  have HCK := Lib.hid (fun W : World => vcheck_any k n t W)
  have HIS := Lib.hid (fun W : World => vis_any k n t W)
  unfold VPut at HP
  generalize vput k n t = P at HP HRP
  generalize vshow k n t = S at HS HRS
  have hE : errV k n t = if vok k n t = true then 0 else 2 := rfl
  rw [hE] at HP HCK
  clear hE hT h0 h1 hs
  cases hv : vok k n t
  all_goals
    rw [hv] at HP HCK HIS
    simp only [if_true, Bool.false_eq_true, if_false] at HP HCK
    clear hv
    go_enter Tryd.func3, Tryd.ntmps3
    go_wp2_with fail
    refine (HP.out _).mono ?_
    rintro e w1 ⟨rfl, hb⟩
    have c0 := hb.cell (p := ⟨w.heap.size, 0, none⟩) (by simp)
    have c1 := hb.cell (p := ⟨w.heap.size, 1, none⟩) (by simp)
    have c2 := hb.cell (p := ⟨w.heap.size, 2, none⟩) (by simp)
    simp at c0 c1 c2
    have HC := Lib.hid (And.intro c0 (And.intro c1 c2))
    have HB := Lib.hid (((Below.refl _ w).alloc (Nat.le_refl _) _).trans (hb.mono (by simp)))
    clear hb HP
    go_wp2_with fail
    clear c0 c1 c2
    refine (HIS.out _).mono ?_
    rintro e w2 ⟨rfl, hb⟩
    have c0 := (hb.cell (World.block_lt_of_cell? w1 _ HC.out.1)).trans HC.out.1
    have c1 := (hb.cell (World.block_lt_of_cell? w1 _ HC.out.2.1)).trans HC.out.2.1
    have c2 := (hb.cell (World.block_lt_of_cell? w1 _ HC.out.2.2)).trans HC.out.2.2
    have HB2 := Lib.hid (HB.out.trans (hb.mono HB.out.size))
    have HT2 := Lib.hid (HT.out.later HB2.out)
    clear hb HIS HC
    go_wp2_with fail
    have r0 := fun d os => cell_regrown c0 d os
    have r1 := fun d os => cell_regrown c1 d os
    have r2 := fun d os => cell_regrown c2 d os
    refine wp_region_quiet_below (by kernel_rfl) (by kernel_rfl) ?_
    repeat (any_goals (first | go_big_quiet_step ((first | (go_at_call 17; exact Calls.regrown_of (HRP.out _)) | (go_at_call 18; exact Calls.regrown_of (HCK.out _)) | (go_at_call 19; exact Calls.regrown_of (HS.out _ (powR HT2.out _ _))) | (go_at_call 20; exact Calls.regrown_of (HRS.out _)) | (go_at_call 14; exact Calls.regrown_of (awake06 _)))) | quiet_step ((first | (go_at_call 17; exact Calls.regrown_of (HRP.out _)) | (go_at_call 18; exact Calls.regrown_of (HCK.out _)) | (go_at_call 19; exact Calls.regrown_of (HS.out _ (powR HT2.out _ _))) | (go_at_call 20; exact Calls.regrown_of (HRS.out _)) | (go_at_call 14; exact Calls.regrown_of (awake06 _))))))
    refine wpQuiet_nil ?_
    intro w3 hw3
    have HB3 := Lib.hid (HB2.out.trans ((below_anyV hw3).mono HB2.out.size))
    clear hw3 c0 c1 c2 r0 r1 r2
    go_wp2_with fail
    go_ret
    exact ⟨rfl, HB3.out⟩
set_option maxRecDepth 100000 in
theorem walk (k n : Int) (t : ByteArray) (w : World) (hT : PowT w) (h0 : -9223372036854775808 ≤ n) (h1 : n ≤ 9223372036854775807) :
    Calls Tryd.prog 3 #[.agg #[.int .i64 k, .int .i64 n, .string t]] w fun e w' => e = .returned (.bool true) ∧ Below w.heap.size w w' := by
  by_cases hs : t.size ≤ 1000
  · exact walk_few k n t w hT h0 h1 hs
  · have hd : decide ((1000 : Int) < (t.size : Int)) = true := decide_eq_true (by omega)
    clear hs hT h0 h1
    go_enter Tryd.func3, Tryd.ntmps3
    go_wp2_with fail
    refine (awake06 _).mono ?_
    rintro e w1 ⟨rfl, hb⟩
    have HB := Lib.hid (((Below.refl _ w).alloc (Nat.le_refl _) _).trans (hb.mono (by simp)))
    clear hb
    go_wp2_with fail
    go_ret
    exact ⟨rfl, HB.out⟩
end Go.Proofs.YtipggdjeejhecaaDoor.LValuePuts
