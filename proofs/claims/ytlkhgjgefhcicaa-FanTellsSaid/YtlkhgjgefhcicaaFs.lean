/- The contract of (fan.Fan).Find on the fan of sums that rise; the chapter's example of layer 12. -/
import Derived.Test.YtlkhgjgefhcicaaFo
import Derived.Test.YtlkhgjgefhcicaaNs
import Derived.Deep.RegionHeld3
import Derived.Deep.MidRow
namespace Go.Proofs.Ytlkhgjgefhcicaa
open Go.RowKit

theorem slice_mid (a : Option Addr) (n c l h : Nat) (hl : l ≤ h) (hc : h ≤ c) (W : World) : (Instr.slice 22 (.slice a n c) (some (.int .i64 (l : Int))) (some (.int .i64 (h : Int))) none).run Try.prog W = .ok (.slice (cutA a c l) (h - l) (c - l)) W := by
  rw [run_slice_lh W _ a n c und_ss .i64 .i64 l h (by omega) (by omega) (by omega), elem_ss, size_of_str]
  simp [Result.andThen, sliced, cutA]
theorem SlN.mid {w : World} {a : Option Addr} {n : Nat} {ss : List ByteArray} (hs : SlN w a n ss) (c l h : Nat) (hl : l ≤ h) (hn : h ≤ n) (hc : n ≤ c) : SlN w (cutA a c l) (h - l) ((ss.drop l).take (h - l)) :=
  (hs.cut c l (by omega) hc).upto (h - l) (by omega)
theorem range_new (w : World) (cs : List Value) (t : TypeId) : (w.alloc (.cells cs.toArray t)).drew.rangeAt w.heap.size 0 cs := fun j v hv => by
  rw [Nat.zero_add]
  show (w.alloc (.cells cs.toArray t)).cell? _ = _
  rw [cell_of_row _ _ _ _ _ _ (MapKept.heap_alloc w (.cells cs.toArray t)).1]
  simpa using hv
theorem range_later {W w2 : World} {b o : Nat} {cs : List Value} (h : W.rangeAt b o cs) (hb : Below W.heap.size W w2) : w2.rangeAt b o cs := fun j v hv => by
  have := h j v hv
  rw [hb.cell (p := ⟨b, o + j, none⟩) (World.block_lt_of_cell? W _ this)]
  exact this
/-- what Find answers -/
def atF (ss : List ByteArray) (x : ByteArray) : Int := if inB ss x = true then (lessN ss x : Int) else 0
theorem atF_yes {ss : List ByteArray} {x : ByteArray} (h : inB ss x = true) : atF ss x = (lessN ss x : Int) := if_pos h
theorem atF_no {ss : List ByteArray} {x : ByteArray} (h : inB ss x = false) : atF ss x = 0 := if_neg (by rw [h]; simp)

set_option maxRecDepth 100000 in
set_option maxHeartbeats 3200000 in
theorem find_valid (a : Option Addr) (len cap : Nat) (ss : List ByteArray) (x : ByteArray) (w : World) (hsl : SlN w a len ss) (hlm : len ≤ 100000) (hlc : len ≤ cap) (hr : Rise ss) (hs : ∀ s ∈ ss, s.size = 32) :
    Calls Try.prog 35 #[.agg ((fanL ss).map i64v).toArray, .slice a len cap, .string x] w fun e w' => e = .returned (.tuple #[.int .i64 (atF ss x), .bool (inB ss x)]) ∧ Below w.heap.size w w' := by
  obtain ⟨cs, hcs⟩ : ∃ cs, cs = (fanL ss).map i64v := ⟨_, rfl⟩
  have HC := Lib.hid (show cs.toArray = ((fanL ss).map i64v).toArray by rw [hcs])
  have hcl : cs.length = 16 := by rw [hcs, List.length_map, fanL_len]
  have hone : ∀ v ∈ cs, v.oneCell' = true := by
    intro v hv
    rw [hcs] at hv
    obtain ⟨x, _, rfl⟩ := List.mem_map.1 hv
    rfl
  rw [← hcs]
  clear hcs
  by_cases h32 : x.size = 32
  · have hx0 : 0 < x.size := by omega
    have HX := Lib.hid h32
    obtain ⟨p, hp⟩ : ∃ p, p = prt x := ⟨_, rfl⟩
    have hp16 : p < 16 := by rw [hp]; exact prt_lt x
    have HP := Lib.hid hp
    have hy := getD_map (fanL ss) p (by rw [fanL_len]; exact hp16)
    rw [fanL_at ss p hp16, ← HC.out] at hy
    have hf : (p = 0 ∧ fromN ss p = 0) ∨ (0 < p ∧ cs.toArray[p - 1]? = some (.int .i64 (fromN ss p : Int))) := by
      rcases Nat.eq_zero_or_pos p with h0 | h0
      · exact .inl ⟨h0, by unfold fromN; rw [if_pos h0]⟩
      · refine .inr ⟨h0, ?_⟩
        have h1 := getD_map (fanL ss) (p - 1) (by rw [fanL_len]; omega)
        rw [fanL_at ss (p - 1) (by omega), ← HC.out] at h1
        rw [h1]
        unfold fromN
        rw [if_neg (by omega)]
    obtain ⟨f, hfe⟩ : ∃ f, f = fromN ss p := ⟨_, rfl⟩
    obtain ⟨t, hte⟩ : ∃ t, t = upto ss p := ⟨_, rfl⟩
    have hft : f ≤ t := by rw [hfe, hte]; exact from_le ss p
    have htl : t ≤ len := by rw [hte, ← hsl.1]; exact upto_le ss p
    rw [← hfe] at hf
    rw [← hte] at hy
    have HSP := Lib.hid (fun W => span_any cs.toArray p f t W hp16 hy hf)
    have HS := Lib.hid hsl
    have HSM := Lib.hid (show SlN w (cutA a cap f) (t - f) (pieceL ss p) by
      have := hsl.mid cap f t hft htl hlc
      unfold pieceL
      rw [← hfe, ← hte]
      exact this)
    have HR := Lib.hid (piece_rise p hr)
    have HPY := Lib.hid (fun h => piece_at (x := x) hr hs (mem_in.1 h))
    have HPN := Lib.hid (fun h => piece_no (ss := ss) (x := x) h)
    have e1 := slice_mid a len cap f t hft (by omega)
    have hu := Try.underlying38
    have hi : (Try.prog.info? 38).map (·.size) = some cs.length := by rw [hcl]; kernel_rfl
    have R0 := range_new w cs 38
    have HB1 := Lib.hid (show Below w.heap.size w (w.alloc (.cells cs.toArray 38)).drew from ((Below.refl _ w).alloc (Nat.le_refl _) _).drew)
    have f0 : 0 ≤ (f : Int) := by omega
    have f1 : (f : Int) ≤ (t : Int) := by omega
    have f2 : (t : Int) ≤ (len : Int) := by omega
    have f3 : (len : Int) ≤ 100000 := by omega
    have HFE := Lib.hid hfe
    have HTE := Lib.hid (show t ≤ 100000 ∧ upto ss p = t from ⟨by omega, hte.symm⟩)
    clear hy hf hp hfe hte h32 hsl hr hs
    cases hq : inB ss x with
    | false =>
      have HQ := Lib.hid hq
      clear hq
      go_enter Try.func35, Try.ntmps35
      go_wp2_with fail
      refine (isSum_yes x _ HX.out).mono ?_
      rintro e w' ⟨rfl, rfl⟩
      go_wp2_with fail
      go_region_held3 (fun w' => w'.rangeAt w.heap.size 0 cs) (first | go_keep_ranges | exact R0 | exact hk2) (first
        | (go_at_call 51; refine (partOf_any x _ hx0).mono ?_; rintro e w' ⟨rfl, rfl⟩; rw [← HP.out])
        | (go_at_call 33; refine (HSP.out _).mono ?_; rintro e w2 ⟨rfl, hb2⟩; have hk2 := range_later R0 hb2))
      all_goals
        go_wp2_with fail
        refine (bsearch_any (cutA a cap f) (t - f) (cap - f) (pieceL ss p) x (lessN (pieceL ss p) x) _ (HSM.out.later (HB1.out.trans (hb2.mono HB1.out.size))) (by omega) (cut_of _ x HR.out)).mono ?_
        rintro e w' ⟨rfl, rfl⟩
        rw [in_met HR.out]
        have hpn := HPN.out HQ.out
        rw [← HP.out] at hpn
        rw [hpn]
        clear hpn
        go_wp2
        go_ret2
        exact ⟨by rw [atF_no HQ.out]; rfl, HB1.out.trans (hb2.mono HB1.out.size)⟩
    | true =>
      have HQ := Lib.hid hq
      clear hq
      go_enter Try.func35, Try.ntmps35
      go_wp2_with fail
      refine (isSum_yes x _ HX.out).mono ?_
      rintro e w' ⟨rfl, rfl⟩
      go_wp2_with fail
      go_region_held3 (fun w' => w'.rangeAt w.heap.size 0 cs) (first | go_keep_ranges | exact R0 | exact hk2) (first
        | (go_at_call 51; refine (partOf_any x _ hx0).mono ?_; rintro e w' ⟨rfl, rfl⟩; rw [← HP.out])
        | (go_at_call 33; refine (HSP.out _).mono ?_; rintro e w2 ⟨rfl, hb2⟩; have hk2 := range_later R0 hb2))
      all_goals
        go_wp2_with fail
        refine (bsearch_any (cutA a cap f) (t - f) (cap - f) (pieceL ss p) x (lessN (pieceL ss p) x) _ (HSM.out.later (HB1.out.trans (hb2.mono HB1.out.size))) (by omega) (cut_of _ x HR.out)).mono ?_
        rintro e w' ⟨rfl, rfl⟩
        rw [in_met HR.out]
        have hpy := HPY.out HQ.out
        rw [← HP.out, ← HFE.out] at hpy
        obtain ⟨k, hk⟩ : ∃ k, k = lessN (pieceL ss p) x := ⟨_, rfl⟩
        have hkb : (k : Int) ≤ 100000 := by
          have h1 := lessN_le (pieceL ss p) x
          rw [piece_len, ← hk] at h1
          have h2 := HTE.out
          omega
        rw [hpy.1, ← hk]
        rw [← hk] at hpy
        have HE := Lib.hid hpy.2
        clear hpy hk
        go_wp2
        go_ret2
        exact ⟨by rw [atF_yes HQ.out, ← HE.out, Int.natCast_add]; rfl, HB1.out.trans (hb2.mono HB1.out.size)⟩
  · have hno : inB ss x = false := by
      cases hq : inB ss x with
      | false => rfl
      | true => exact absurd (hs x (mem_in.1 hq)) h32
    rw [hno, atF_no hno]
    have HX := Lib.hid h32
    clear hsl hr hs h32 hno
    go_enter Try.func35, Try.ntmps35
    go_wp2_with fail
    refine (isSum_no x _ HX.out).mono ?_
    rintro e w' ⟨rfl, rfl⟩
    go_wp2
    go_ret2
    exact ⟨rfl, (Below.refl _ w).alloc (Nat.le_refl _) _⟩
theorem wpList_store_rowN {ops : Array Oper} {rest : List Oper} {o : Oper} {a : Act} {w : World} {Q : Exit → Act → World → Prop} (hgd : o.guard = none) (ty : TypeId) (x y : Operand) (ho : o.op = .store ty x y)
    (g : Nat) (cells : Array Value) (hx : a.eval x = .pointer (some ⟨g, 0, none⟩)) (hy : a.eval y = .agg cells)
    (t : TypeId) (old : Array Value) (hg : w.heap[g]? = some (.cells old t (0, 0))) (hi : (Try.prog.info? ty).map (·.size) = some cells.size)
    (hold : old.size = cells.size) (h1 : cells.all (·.oneCell') = true) (n : Nat) (w0 : World) (hb : Below n w0 w) (hn : n ≤ g)
    (h : ∀ w', Hid (w'.heap[g]? = some (.cells cells t (0, 0))) → Hid (Below n w0 w') → wpList Try.prog ops Q rest (a.put o.dst undef) w') : wpList Try.prog ops Q (o :: rest) a w :=
  wpList_store_row hgd ty x y ho g cells hx hy t old hg hi hold h1 (h _ (setRow_heap w g old cells t (0, 0) hg) (below_setRow hb hn cells))
/-- the cells of a fan -/
theorem fan_cells (ss : List ByteArray) : ∃ cs : Array Value, Hid (cs = ((fanL ss).map i64v).toArray) ∧ Hid ((Try.prog.info? 38).map (·.size) = some cs.size) ∧ Hid (cs.size = 16) ∧ Hid (cs.all (·.oneCell') = true) ∧ Hid (∀ j, j < 16 → cs[j]? = some (.int .i64 (upto ss j : Int))) := by
  have hsz : (((fanL ss).map i64v).toArray).size = 16 := by simp [fanL_len]
  refine ⟨_, rfl, ?_, hsz, ?_, ?_⟩
  · show _ = _
    rw [hsz]
    kernel_rfl
  · show _ = _
    rw [Array.all_eq_true_iff_forall_mem]
    intro v hv
    simp at hv
    obtain ⟨x, _, rfl⟩ := hv
    rfl
  · intro j hj
    rw [getD_map _ _ (by rw [fanL_len]; exact hj), fanL_at _ _ hj]

set_option maxRecDepth 100000 in
set_option maxHeartbeats 1600000 in
theorem fanAwake_any (w : World) : Calls Try.prog 27 #[] w fun e w' => e = .returned (.bool true) ∧ Below w.heap.size w w' := by
  have HN := noughts31_any w
  obtain ⟨z, hz⟩ : ∃ z : ByteArray, z = ⟨(zs 31).toArray⟩ := ⟨_, rfl⟩
  rw [← hz] at HN
  have hzs : z.size = 31 := by rw [hz]; rfl
  have hzb : (z.size : Int) ≤ 31 := by omega
  obtain ⟨T, hT⟩ : ∃ T : ByteArray, T = ⟨#[31]⟩ ++ z := ⟨_, rfl⟩
  have hTz : T.size = 32 := by rw [hT, hz]; rfl
  have hTp : prt T = 1 := by rw [hT, hz]; rfl
  have HW := Lib.hid (show wR ⟨#[]⟩ [T] = 0 by rw [wR_first T [] hTz]; rfl)
  have u0 : upto [T] 0 = 0 := by simp [upto, hTp]
  have u1 : upto [T] 1 = 1 := by simp [upto, hTp]
  have u15 : upto [T] 15 = 1 := by simp [upto, hTp]
  obtain ⟨cs, HC, HI, HZ, HO, HA⟩ := fan_cells [T]
  have A0 := HA.out 0 (by omega)
  have A1 := HA.out 1 (by omega)
  have A15 := HA.out 15 (by omega)
  rw [u0] at A0
  rw [u1] at A1
  rw [u15] at A15
  have B0 := Lib.hid (show cs[0]? = some (.int .i64 0) from A0)
  have B1 := Lib.hid (show cs[1]? = some (.int .i64 1) from A1)
  have B15 := Lib.hid (show cs[15]? = some (.int .i64 1) from A15)
  have HTT := Lib.hid hT
  have HNN := Lib.hid HN
  clear hz hzs hT hTz hTp u0 u1 u15 A0 A1 A15 HN HA
  go_enter Try.func27, Try.ntmps27
  go_wp2_with fail
  refine HNN.out.mono ?_
  rintro e w1 ⟨rfl, hb1⟩
  have HB1 := Lib.hid hb1
  clear hb1
  go_wp2_with fail
  rw [← HTT.out]
  refine (of_valid _ 1 1 [T] _ (sl_one w1 T) (by omega) HW.out).mono ?_
  rintro e w2 ⟨rfl, hb2⟩
  have HB2 := Lib.hid ((HB1.out.alloc HB1.out.size (.cells #[.string T] 9)).trans (hb2.mono (by have := HB1.out.size; simp; omega)))
  clear hb2
  rw [← HC.out]
  go_wp2_with ((refine wpList_store_rowN rfl 38 (.tmp 1) (.tmp 8) rfl w2.heap.size cs rfl rfl 38 _ (heap_alloc_new w2 _) HI.out (by rw [HZ.out]; simp) HO.out w.heap.size w (HB2.out.alloc HB2.out.size _) HB2.out.size ?_); intro w3 HC3 HB3; have k0 := (cell_of_row _ _ 0 _ _ _ HC3.out).trans B0.out; have k1 := (cell_of_row _ _ 1 _ _ _ HC3.out).trans B1.out; have k15 := (cell_of_row _ _ 15 _ _ _ HC3.out).trans B15.out)
  go_ret
  exact ⟨rfl, HB3.out⟩
end Go.Proofs.Ytlkhgjgefhcicaa
