/- chunk.Twig over this translation. Condition: slices of at most 2 to the 62nd. -/
import Derived.Test.YtdjjabjegmbmaaaMk
import Derived.Test.YtdjjabjegmbmaaaTq
import Derived.Test.YtdjjabjegmbmaaaZb
namespace Go.Proofs.Ytdjjabjegmbmaaa
open Go.RowKit Vi

theorem info_tw (a b c : Value) : (Try.prog.info? 39).map (·.size) = some (#[a, b, c] : Array Value).size := by kernel_rfl
theorem one_tw (a b : ByteArray) (c : Int) : (#[.string a, .string b, .int .i64 c] : Array Value).all (·.oneCell') = true := by simp [Value.oneCell']
set_option maxRecDepth 100000 in
set_option maxHeartbeats 2000000 in
theorem ctwig_any (lv : Int) (ea ca : Option Addr) (en ec cn cc : Nat) (es : List En) (cs : List Int) (w : World) (h : ChR w ea ca en cn es cs) (hn : (en : Int) ≤ 9223372036854775807) (hm : (cn : Int) ≤ 9223372036854775807) (x : ByteArray) :
    Calls Try.prog 22 #[.agg #[.int .i64 lv, .slice ea en ec, .slice ca cn cc], .string x] w fun e w' => e = .returned (.agg #[.string (lastK es), .string x, .int .i64 (totW lv en cs)]) ∧ Below w.heap.size w w' := by
  have H := Lib.hid h
  have HLA := Lib.hid (fun (W : World) (g : ChR W ea ca en cn es cs) => clast_any lv ea ca en ec cn cc es cs W g hn hm)
  have HTO := Lib.hid (fun (W : World) (g : ChR W ea ca en cn es cs) => ctotal_any lv ea ca en ec cn cc es cs W g hn hm)
  clear h
  generalize lastK es = L at *
  generalize totW lv en cs = V at *
  have HB1 := Lib.hid (Below.refl w.heap.size w)
  go_enter Try.func22, Try.ntmps22
  have HF2 := Lib.hid (blk_new w (.cells #[.int .i64 lv, .slice ea en ec, .slice ca cn cc] 26 (0, 0)))
  have HB3 := Lib.hid (HB1.out.alloc HB1.out.size (.cells #[.int .i64 lv, .slice ea en ec, .slice ca cn cc] 26 (0, 0)))
  clear HB1
  have HF4 := Lib.hid (blk_alloc HF2.out (.cells #[.string ⟨#[]⟩, .string ⟨#[]⟩, .int .i64 0] 39 (0, 0)))
  have HT4 := Lib.hid (two_blk w (.cells #[.int .i64 lv, .slice ea en ec, .slice ca cn cc] 26 (0, 0)) (.cells #[.string ⟨#[]⟩, .string ⟨#[]⟩, .int .i64 0] 39 (0, 0)))
  have HB5 := Lib.hid (HB3.out.alloc HB3.out.size (.cells #[.string ⟨#[]⟩, .string ⟨#[]⟩, .int .i64 0] 39 (0, 0)))
  have hc4 : ((w.alloc (.cells #[.int .i64 lv, .slice ea en ec, .slice ca cn cc] 26 (0, 0))).alloc (.cells #[.string ⟨#[]⟩, .string ⟨#[]⟩, .int .i64 0] 39 (0, 0))).cell? ⟨w.heap.size, 0, none⟩ = some (.int .i64 lv) := by rw [cell_of_row _ _ _ _ _ _ HF4.out]; rfl
  have hc5 : ((w.alloc (.cells #[.int .i64 lv, .slice ea en ec, .slice ca cn cc] 26 (0, 0))).alloc (.cells #[.string ⟨#[]⟩, .string ⟨#[]⟩, .int .i64 0] 39 (0, 0))).cell? ⟨w.heap.size, 1, none⟩ = some (.slice ea en ec) := by rw [cell_of_row _ _ _ _ _ _ HF4.out]; rfl
  have hc6 : ((w.alloc (.cells #[.int .i64 lv, .slice ea en ec, .slice ca cn cc] 26 (0, 0))).alloc (.cells #[.string ⟨#[]⟩, .string ⟨#[]⟩, .int .i64 0] 39 (0, 0))).cell? ⟨w.heap.size, 2, none⟩ = some (.slice ca cn cc) := by rw [cell_of_row _ _ _ _ _ _ HF4.out]; rfl
  clear HF2 HB3
  go_wp2_with fail
  have hr7 := fun d os => cell_regrown hc4 d os
  have hr8 := fun d os => cell_regrown hc5 d os
  have hr9 := fun d os => cell_regrown hc6 d os
  refine wp_region_quiet_tail 5 (by kernel_rfl) (by kernel_rfl) ?_
  simp only [List.take_succ_cons, List.take_zero, List.drop_succ_cons, List.drop_zero]
  repeat (any_goals (first | go_big_quiet_step ((first | (go_at_call 20; with_reducible exact Calls.regrown_of (HLA.out _ (H.out.below (HB5.out.trans ((below_regrown _ _ _).mono HB5.out.size))))) | (go_at_call 19; with_reducible exact Calls.regrown_of (HTO.out _ (H.out.below (HB5.out.trans ((below_regrown _ _ _).mono HB5.out.size))))))) | quiet_step ((first | (go_at_call 20; with_reducible exact Calls.regrown_of (HLA.out _ (H.out.below (HB5.out.trans ((below_regrown _ _ _).mono HB5.out.size))))) | (go_at_call 19; with_reducible exact Calls.regrown_of (HTO.out _ (H.out.below (HB5.out.trans ((below_regrown _ _ _).mono HB5.out.size)))))))))
  refine wpQuiet_nil ?_
  intro w1 hw1
  have hb1 := below_anyY hw1
  clear hw1 hr7 hr8 hr9
  clear hc4 hc5 hc6
  have HT6 := Lib.hid (blk_below HT4.out hb1)
  have HB6 := Lib.hid (HB5.out.trans (hb1.mono HB5.out.size))
  clear hb1 HB5 HF4 HT4
  have hlt6 : w.heap.size + 1 < w1.heap.size := lt_of_block HT6.out
  go_wp2_with (first
    | refine wpList_store_rowY rfl 39 (.tmp 4) (.tmp 10) rfl (w.heap.size + 1) #[.string L, .string x, .int .i64 V] rfl rfl 39 _ HT6.out (info_tw _ _ _) rfl (one_tw _ _ _) w.heap.size w HB6.out (by omega) ?_)
  intro W2 hbk hoth hbel _
  have HT7 := Lib.hid hbk.out
  have HB7 := Lib.hid hbel.out
  clear hbk hoth hbel HB6 HT6
  go_wp2_with fail
  refine bodyPost_ret (results_cY rfl _ _ (w.heap.size + 1) #[.string L, .string x, .int .i64 V] rfl (run_loadVar_row _ (w.heap.size + 1) 39 39 _ (0, 0) _ HT7.out Try.underlying39 rfl (info_tw _ _ _))) rfl ?_
  exact ⟨rfl, HB7.out⟩
end Go.Proofs.Ytdjjabjegmbmaaa
