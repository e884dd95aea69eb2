/- step of a flush, and Flush, over this translation. No condition. -/
import Derived.Test.YtagenkofoacajaaDLf
import Derived.Lib.MinMax
namespace Go.Proofs.Ytagenkofoacajaa
open Go.RowKit Vi

set_option maxRecDepth 100000 in
theorem dflush1 (X D : Nat) (SS : List ByteArray) (CC : List Wr) (dn : Bool) (ops fu : Int) (w : World) (h : DK D SS CC dn ops fu w) (hx : w.heap[X]? = some (.cells #[.pointer (some ⟨D, 0, none⟩)] 24 (0, 0))) :
    Calls Try.prog 44 #[.pointer (some ⟨X, 0, none⟩)] w fun e w' => e = .returned (.tuple #[]) ∧ DK D (safeW SS CC) [] dn ops fu w' ∧ Kd D w w' := by
  have HS := Lib.hid (dsettle_all D SS CC dn ops fu w h)
  have x0 : w.cell? ⟨X, 0, none⟩ = some (.pointer (some ⟨D, 0, none⟩)) := (cell_of_row _ _ _ _ _ _ hx).trans rfl
  clear h hx
  go_enter Try.func44, Try.ntmps44
  go_wp2_with fail
  refine HS.out.mono ?_
  rintro e w1 ⟨rfl, hd, hb⟩
  have HD := Lib.hid hd
  have HB := Lib.hid hb
  clear hd hb x0
  go_wp2_with fail
  refine bodyPost_end (results_none rfl _ _ _) rfl ?_
  exact ⟨rfl, HD.out, HB.out⟩
/-- why a step isn't done -/
def stpE (fu : Int) : Int := if fu = 1 then 7 else 0
def stpD (fu : Int) : Bool := decide (fu = 1)
def stpO (ops fu : Int) : Int := if fu = 1 then ops else ops + 1
def stpS (fu : Int) (SS : List ByteArray) (CC : List Wr) : List ByteArray := if fu = 1 then SS else safeW SS CC
def stpC (fu : Int) (CC : List Wr) : List Wr := if fu = 1 then CC else []
def stpF (fu : Int) : Int := if fu = 1 then 0 else max (fu - 1) 0
set_option maxRecDepth 100000 in
set_option maxHeartbeats 2000000 in
theorem dstep_flush (X D : Nat) (SS : List ByteArray) (CC : List Wr) (ops fu : Int) (w : World) (h : DK D SS CC false ops fu w) (hx : w.heap[X]? = some (.cells #[.pointer (some ⟨D, 0, none⟩)] 24 (0, 0))) (ho : -1000000000 ≤ ops ∧ ops ≤ 1000000000) (hf : 0 ≤ fu ∧ fu ≤ 9223372036854775807) :
    Calls Try.prog 43 #[.pointer (some ⟨D, 0, none⟩), .func (.func 44) #[] #[.pointer (some ⟨X, 0, none⟩)]] w fun e w' => e = .returned (.int .i64 (stpE fu)) ∧ DK D (stpS fu SS CC) (stpC fu CC) (stpD fu) (stpO ops fu) (stpF fu) w' ∧ Kd D w w' := by
  obtain ⟨⟨sa, sn, sc, ca, cn, cc, h1, h2, h3⟩, h4⟩ := h
  have hne : X ≠ D := fun e => by subst e; rw [h1] at hx; cases hx
  have H1 := Lib.hid h1
  have H2 := Lib.hid h2
  have H3 := Lib.hid h3
  have H4 := Lib.hid h4
  obtain ⟨c0, c1, c2, c3, c4, c5⟩ := dk_cells h1
  by_cases hq : fu = 1
  · subst hq
    have HT := Lib.hid (dturn_any D sa sn sc ca cn cc true false ops 1 true w h1)
    clear h1 h2 h3 h4 hx
    go_enter Try.func43, Try.ntmps43
    go_wp2_with fail
    clear c0 c1 c2 c3 c4 c5
    refine HT.out.mono ?_
    rintro e w1 ⟨rfl, hb, hk⟩
    have HB := Lib.hid hb
    have HK := Lib.hid hk
    clear hb hk
    have HO2 := Lib.hid (H2.out.kkD HK.out H1.out (by decide))
    have HO3 := Lib.hid (H3.out.kkD HK.out H1.out (by decide))
    have HBl := Lib.hid (Kd.of_same HK.out H1.out HB.out)
    go_wp2_with fail
    go_ret
    exact ⟨rfl, ⟨⟨sa, sn, sc, ca, cn, cc, HB.out, HO2.out, HO3.out⟩, H4.out⟩, HBl.out⟩
  · have d1 : (fu == 1) = false := by rw [beq_eq_false_iff_ne]; exact hq
    have w1 : IntKind.i64.wrap (fu - 1) = fu - 1 := IntWalk.i64_in _ (by omega)
    have w2 : IntKind.i64.wrap (ops + 1) = ops + 1 := IntWalk.i64_in _ (by omega)
    have f4 : w.frozen? ⟨D, 4, none⟩ = false := frozen_of_row _ _ _ _ _ h1
    have f5 : w.frozen? ⟨D, 5, none⟩ = false := frozen_of_row _ _ _ _ _ h1
    have HQ := Lib.hid hq
    have HX := Lib.hid hx
    clear h1 h2 h3 h4 hx hq
    go_enter Try.func43, Try.ntmps43
    go_wp2_with fail
    have HK := Lib.hid (((KK.refl [D] w).set (b := D) (by simp) 5 (.int .i64 (max (fu - 1) 0))).set (b := D) (by simp) 4 (.int .i64 (ops + 1)))
    have HB := Lib.hid (show ((w.setCell ⟨D, 5, none⟩ (.int .i64 (max (fu - 1) 0))).setCell ⟨D, 4, none⟩ (.int .i64 (ops + 1))).heap[D]? = some (dkO sa sn sc ca cn cc true false (ops + 1) (max (fu - 1) 0)) by have q := heap_setCell_at (i := 4) (u := .int .i64 (ops + 1)) (heap_setCell_at (i := 5) (u := .int .i64 (max (fu - 1) 0)) H1.out); exact q)
    have HX2 := Lib.hid (HK.out.blk HX.out (by simpa using hne))
    have HO2 := Lib.hid (H2.out.kkD HK.out H1.out (by decide))
    have HO3 := Lib.hid (H3.out.kkD HK.out H1.out (by decide))
    have HBl := Lib.hid (Kd.of_same HK.out H1.out HB.out)
    clear c0 c1 c2 c3 c4 c5 f4 f5 w1 w2 d1
    generalize ((w.setCell ⟨D, 5, none⟩ (.int .i64 (max (fu - 1) 0))).setCell ⟨D, 4, none⟩ (.int .i64 (ops + 1))) = v at *
    have HF := Lib.hid (dflush1 X D SS CC false (ops + 1) (max (fu - 1) 0) v ⟨⟨sa, sn, sc, ca, cn, cc, HB.out, HO2.out, HO3.out⟩, H4.out⟩ HX2.out)
    refine HF.out.mono ?_
    rintro e w1 ⟨rfl, hd, hb⟩
    have HD := Lib.hid hd
    have HB2 := Lib.hid (HBl.out.trans hb)
    clear hd hb
    go_wp2_with fail
    go_ret
    exact ⟨dk_retI (by unfold stpE; rw [if_neg HQ.out]), by unfold stpS stpC stpD stpO stpF; rw [if_neg HQ.out, if_neg HQ.out, if_neg HQ.out, if_neg HQ.out, decide_eq_false HQ.out]; exact HD.out, HB2.out⟩
end Go.Proofs.Ytagenkofoacajaa
