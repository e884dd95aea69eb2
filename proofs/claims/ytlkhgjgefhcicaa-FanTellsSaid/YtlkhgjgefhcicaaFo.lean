/- Contracts of fan.Of on sums that rise, and of (fan.Fan).Span. -/
import Derived.Test.YtlkhgjgefhcicaaFa
import Derived.Test.YtlkhgjgefhcicaaNq
import Derived.Laws.Rows
import Derived.Laws.Tables
import Derived.RegionTactic
namespace Go.Proofs.Ytlkhgjgefhcicaa
open Go.RowKit

def i64v (n : Nat) : Value := .int .i64 (n : Int)
theorem results_cell_tmp {fn : Func} {p t : Tmp} {ty : TypeId} (h : fn.results = #[.cell p ty, .tmp t]) (tmps : Array Value) (w : World) (g : Nat) (cs : Array Value)
    (hp : tmps.getD p undef = .pointer (some ⟨g, 0, none⟩)) (hr : (loadVar ty ⟨g, 0, none⟩).run Try.prog w = .ok (.agg cs) w) :
    (results fn tmps).run Try.prog w = .ok (.tuple #[.agg cs, tmps.getD t undef]) w := by
  have hp' : tmps[p]?.getD undef = .pointer (some ⟨g, 0, none⟩) := by simpa using hp
  simp [results, h, hp', asAddr, hr]
theorem getD_map (c : List Nat) (j : Nat) (h : j < c.length) : (c.map i64v).toArray[j]? = some (.int .i64 (c.getD j 0 : Int)) := by
  rw [List.getElem?_toArray, List.getElem?_map, List.getD_eq_getElem?_getD, List.getElem?_eq_getElem h]
  rfl
/-- a fan on its way, beside the one that will be answered -/
structure FanR (N : Nat) (w wr : World) (c : List Nat) : Prop where
  len : c.length = 16
  blk : wr.heap[N + 1]? = some (.cells (c.map i64v).toArray 38 (0, 0))
  res : wr.heap[N]? = some (.cells (Array.replicate 16 (.int .i64 0)) 38 (0, 0))
  old : Below N w wr
theorem FanR.cell {N : Nat} {w wr : World} {c : List Nat} (h : FanR N w wr c) (j : Nat) (hj : j < 16) : wr.cell? ⟨N + 1, j, none⟩ = some (.int .i64 (c.getD j 0 : Int)) := by
  rw [cell_of_row _ _ _ _ _ _ h.blk, getD_map c j (by rw [h.len]; exact hj)]
theorem FanR.free {N : Nat} {w wr : World} {c : List Nat} (h : FanR N w wr c) (j : Nat) : wr.frozen? ⟨N + 1, j, none⟩ = false := frozen_of_row _ _ _ _ _ h.blk
theorem FanR.set {N : Nat} {w wr : World} {c : List Nat} (h : FanR N w wr c) (j x : Nat) (v : Int) (hv : v = (x : Int)) : FanR N w (wr.setCell ⟨N + 1, j, none⟩ (.int .i64 v)) (c.set j x) := by
  subst hv
  refine ⟨by rw [List.length_set]; exact h.len, ?_, ?_, h.old.setCell (by show N ≤ N + 1; omega) _⟩
  · rw [heap_setCell_same _ _ _ _ _ _ h.blk, List.map_set]
    simp [i64v]
  · rw [heap_setCell_other _ _ _ _ (by show N ≠ N + 1; omega)]
    exact h.res
theorem FanR.drew {N : Nat} {w wr : World} {c : List Nat} (h : FanR N w wr c) : FanR N w wr.drew c := ⟨h.len, h.blk, h.res, h.old.drew⟩
theorem fan_start (w W : World) (h0 : W.heap[w.heap.size]? = some (.cells (Array.replicate 16 (.int .i64 0)) 38 (0, 0))) (h1 : W.heap[w.heap.size + 1]? = some (.cells (Array.replicate 16 (.int .i64 0)) 38 (0, 0))) (hb : Below w.heap.size w W) : FanR w.heap.size w W (cnt []) :=
  ⟨rfl, by rw [h1]; rfl, h0, hb⟩
theorem new_both (w : World) (o p : Obj) : ((w.alloc o).alloc p).heap[w.heap.size]? = some o ∧ ((w.alloc o).alloc p).heap[w.heap.size + 1]? = some p := ⟨heap_alloc2_old w o p, heap_alloc2_new w o p⟩
theorem bel_both (w : World) (o p : Obj) : Below w.heap.size w ((w.alloc o).alloc p) := ((Below.refl _ w).alloc (Nat.le_refl _) o).alloc (by simp) p

theorem bel_drewN2 {B : Nat} {a w : World} (h : Below B a w) (n : Nat) : Below B a (w.drewN n) := ⟨h.os, h.tape, h.output, h.size, h.block⟩
set_option maxRecDepth 100000 in
set_option maxHeartbeats 3200000 in
theorem of_valid (a : Option Addr) (len cap : Nat) (ss : List ByteArray) (w : World) (hsl : SlN w a len ss) (hlm : len ≤ 100000) (hok : wR ⟨#[]⟩ ss = 0) :
    Calls Try.prog 28 #[.slice a len cap] w fun e w' => e = .returned (.tuple #[.agg ((fanL ss).map i64v).toArray, .int .i64 0]) ∧ Below w.heap.size w w' := by
  have HSL := Lib.hid hsl
  have HL := Lib.hid hsl.1
  have HW := Lib.hid hok
  have HS := Lib.hid (sum0_ok ss hok).1
  clear hsl hok
  go_enter Try.func28, Try.ntmps28
  go_wp2_with fail
  refine (fcheck_any a len cap ss _ (HSL.out.later ((Below.refl _ w).alloc (Nat.le_refl _) _)) (by unfold maxLen; omega)).mono ?_
  rintro e w' ⟨rfl, rfl⟩
  rw [HW.out]
  go_wp2_with fail
  go_loopw [7, 17] (fun _ i wr => ∃ (k : Nat), k ≤ len ∧ i = .int .i64 (k : Int) ∧ FanR w.heap.size w wr (cnt (ss.take k))) (fun _ i _ => len - (intOf i).toNat)
  case atStart => exact ⟨0, Nat.zero_le _, rfl, fan_start w _ (new_both w _ _).1 (new_both w _ _).2 (bel_both w _ _)⟩
  case round =>
    obtain ⟨k, hk, rfl, hfr⟩ := hrel
    have FR := Lib.hid hfr
    clear hfr
    by_cases hlt : k < len
    · have hkn : k < ss.length := by rw [HL.out]; exact hlt
      obtain ⟨b, off, rfl, hcell⟩ := (HSL.out.later FR.out.old).2 (by omega)
      have hc := hcell k hkn
      have HT := Lib.hid (cnt_take ss k hkn)
      have h32 := HS.out ss[k] (List.getElem_mem hkn)
      clear hcell
      generalize ss[k] = s at hc HT h32
      have hs0 : 0 < s.size := by omega
      obtain ⟨p, hp⟩ : ∃ p, p = prt s := ⟨_, rfl⟩
      have hp16 : p < 16 := by rw [hp]; exact prt_lt s
      rw [← hp] at HT
      have HP := Lib.hid hp
      have cp := FR.out.cell p hp16
      have fp := FR.out.free p
      obtain ⟨x, hx⟩ : ∃ x, x = (cnt (ss.take k)).getD p 0 := ⟨_, rfl⟩
      have hxb : (x : Int) ≤ 100000 := by
        have h1 := cnt_all (ss.take k) p hp16
        have h2 := inPart_le (ss.take k) p
        rw [← h1, ← hx, List.length_take, HL.out] at h2
        omega
      rw [← hx] at cp HT
      have HN := Lib.hid (fun (v : Int) (hv : v = ((x + 1 : Nat) : Int)) => FR.out.set p (x + 1) v hv)
      rw [← HT.out] at HN
      have HH := Lib.hid h32
      have hp0 : 0 ≤ (p : Int) := by omega
      have hp1 : (p : Int) < 16 := by omega
      clear hp hx h32
      go_wp2_with fail
      refine (partOf_any s _ hs0).mono ?_
      rintro e w' ⟨rfl, rfl⟩
      rw [← HP.out]
      go_wp2_with fail
      go_roundw
      case rel => exact ⟨k + 1, by omega, by go_num, HN.out _ (by omega)⟩
      case measure => simp [intOf]; omega
    · have hf : ss.take k = ss := List.take_of_length_le (by rw [HL.out]; omega)
      have FR2 := Lib.hid (hf ▸ FR.out)
      clear hf FR
      go_wp2_with fail
      go_loopw [8, 28] (fun _ i wr => ∃ (k : Nat), k ≤ 15 ∧ i = .int .i64 (k : Int) ∧ FanR w.heap.size w wr (preL (cnt ss) k)) (fun _ i _ => 15 - (intOf i).toNat)
      case atStart => exact ⟨0, Nat.zero_le _, rfl, FR2.out⟩
      case round =>
        clear FR2
        obtain ⟨k, hk, rfl, hfr⟩ := hrel
        have FR := Lib.hid hfr
        clear hfr
        by_cases hlt : k < 15
        · have c0 := FR.out.cell k (by omega)
          have c1 := FR.out.cell (k + 1) (by omega)
          have f1 := FR.out.free (k + 1)
          obtain ⟨x, hx⟩ : ∃ x, x = (preL (cnt ss) k).getD k 0 := ⟨_, rfl⟩
          obtain ⟨y, hy⟩ : ∃ y, y = (preL (cnt ss) k).getD (k + 1) 0 := ⟨_, rfl⟩
          have hxb : (x : Int) ≤ 100000 := by
            have h2 := preL_le ss k (by omega) k (by omega)
            rw [← hx, HL.out] at h2
            omega
          have hyb : (y : Int) ≤ 100000 := by
            have h2 := preL_le ss k (by omega) (k + 1) (by omega)
            rw [← hy, HL.out] at h2
            omega
          have HN := Lib.hid (fun (v : Int) (hv : v = ((y + x : Nat) : Int)) => (FR.out.set (k + 1) (y + x) v hv).drew)
          have hpl : (preL (cnt ss) k).set (k + 1) (y + x) = preL (cnt ss) (k + 1) := by rw [hx, hy]; rfl
          rw [hpl] at HN
          rw [← hx] at c0
          rw [← hy] at c1
          have i0 : 0 ≤ (k : Int) := by omega
          have i1 : (k : Int) + 1 < 16 := by omega
          have i2 : (k : Int) < 16 := by omega
          clear hx hy hpl FR
          go_wp2_with fail
          go_region
          all_goals
            go_wp2_with fail
            go_roundw
            case rel => exact ⟨k + 1, by omega, by go_num, HN.out _ (by omega)⟩
            case measure => simp [intOf]; omega
        · obtain rfl : k = 15 := by omega
          obtain ⟨cs, hcs⟩ : ∃ cs, cs = ((fanL ss).map i64v).toArray := ⟨_, rfl⟩
          have hsz : cs.size = 16 := by rw [hcs]; simp [fanL_len]
          have hbk : wr.heap[w.heap.size + 1]? = some (.cells cs 38 (0, 0)) := by rw [hcs]; exact FR.out.blk
          have HBK := Lib.hid hbk
          have HRS := Lib.hid FR.out.res
          have HBL := Lib.hid FR.out.old
          have HCS := Lib.hid hcs
          have HSZ := Lib.hid hsz
          have HON := Lib.hid (show cs.all (·.oneCell') = true by
            rw [hcs, Array.all_eq_true_iff_forall_mem]
            intro v hv
            simp at hv
            obtain ⟨x, _, rfl⟩ := hv
            rfl)
          have HIN := Lib.hid (show (Try.prog.info? 38).map (·.size) = some cs.size by rw [hsz]; kernel_rfl)
          clear hbk hcs hsz FR
          go_wp2_with (first
            | refine wpList_load_row rfl 38 (.tmp 5) rfl (w.heap.size + 1) rfl 38 cs (0, 0) _ HBK.out Try.underlying38 rfl HIN.out ?_
            | refine wpList_store_row rfl 38 (.tmp 2) (.tmp 41) rfl w.heap.size cs rfl rfl 38 _ HRS.out HIN.out (by rw [HSZ.out]; simp) HON.out ?_)
          refine bodyPost_ret (results_cell_tmp rfl _ _ w.heap.size cs rfl (run_loadVar_row _ w.heap.size 38 38 cs (0, 0) _ (setRow_heap wr w.heap.size _ cs 38 (0, 0) HRS.out) Try.underlying38 rfl HIN.out)) rfl ?_
          exact ⟨by rw [HCS.out]; rfl, below_setRow HBL.out (Nat.le_refl _) cs⟩

set_option maxRecDepth 100000 in
set_option maxHeartbeats 800000 in
theorem span_any (cs : Array Value) (p x y : Nat) (w : World) (hp : p < 16) (hy : cs[p]? = some (.int .i64 (y : Int))) (hx : (p = 0 ∧ x = 0) ∨ (0 < p ∧ cs[p - 1]? = some (.int .i64 (x : Int)))) :
    Calls Try.prog 33 #[.agg cs, .int .i64 (p : Int)] w fun e w' => e = .returned (.tuple #[.int .i64 (x : Int), .int .i64 (y : Int)]) ∧ Below w.heap.size w w' := by
  have cy : (w.alloc (.cells cs 38)).cell? ⟨w.heap.size, p, none⟩ = some (.int .i64 (y : Int)) := by
    rw [cell_of_row _ _ _ _ _ _ (MapKept.heap_alloc w (.cells cs 38)).1]
    exact hy
  have hp0 : 0 ≤ (p : Int) := by omega
  have hp1 : (p : Int) < 16 := by omega
  rcases hx with ⟨rfl, rfl⟩ | ⟨h0, hx⟩
  · clear hy
    go_enter Try.func33, Try.ntmps33
    go_wp2_with fail
    go_quiet (fail)
    go_wp2
    go_ret2
    exact ⟨rfl, bel_drewN2 ((Below.refl _ w).alloc (Nat.le_refl _) _) _⟩
  · obtain ⟨m, rfl⟩ : ∃ m, p = m + 1 := ⟨p - 1, by omega⟩
    rw [Nat.add_sub_cancel] at hx
    have cx : (w.alloc (.cells cs 38)).cell? ⟨w.heap.size, m, none⟩ = some (.int .i64 (x : Int)) := by
      rw [cell_of_row _ _ _ _ _ _ (MapKept.heap_alloc w (.cells cs 38)).1]
      exact hx
    have m0 : 0 ≤ (m : Int) := by omega
    have m1 : (m : Int) < 16 := by omega
    clear hy hx
    go_enter Try.func33, Try.ntmps33
    go_wp2_with fail
    go_quiet (fail)
    go_wp2
    go_ret2
    exact ⟨rfl, bel_drewN2 ((Below.refl _ w).alloc (Nat.le_refl _) _) _⟩
end Go.Proofs.Ytlkhgjgefhcicaa
