/- The plain methods of a disk over this translation: isSector, isSize, has, check, isMade, ready, Down, Size, Ops, turn, all, none. No condition. -/
import Derived.Test.YtagenkofoacajaaDoorPx
import Derived.Deep.DeepCutAuto
namespace Go.Proofs.YtagenkofoacajaaDoor
open Go.RowKit Vi

/-- a disk's box -/
def dkO (sa : Option Addr) (sn sc : Nat) (ca : Option Addr) (cn cc : Nat) (mk dn : Bool) (ops fu : Int) : Obj := .cells #[.slice sa sn sc, .slice ca cn cc, .bool mk, .bool dn, .int .i64 ops, .int .i64 fu] 99 (0, 0)
theorem dk_retB {a b : Bool} (h : a = b) : Ending.returned (.bool a) = .returned (.bool b) := by rw [h]
theorem dk_retI {a b : Int} (h : a = b) : Ending.returned (.int .i64 a) = .returned (.int .i64 b) := by rw [h]
section
variable {D : Nat} {sa : Option Addr} {sn sc : Nat} {ca : Option Addr} {cn cc : Nat} {mk dn : Bool} {ops fu : Int} {w : World}
theorem dk_cells (h : w.heap[D]? = some (dkO sa sn sc ca cn cc mk dn ops fu)) : w.cell? ⟨D, 0, none⟩ = some (.slice sa sn sc) ∧ w.cell? ⟨D, 1, none⟩ = some (.slice ca cn cc) ∧ w.cell? ⟨D, 2, none⟩ = some (.bool mk) ∧ w.cell? ⟨D, 3, none⟩ = some (.bool dn) ∧ w.cell? ⟨D, 4, none⟩ = some (.int .i64 ops) ∧ w.cell? ⟨D, 5, none⟩ = some (.int .i64 fu) :=
  ⟨(cell_of_row _ _ _ _ _ _ h).trans rfl, (cell_of_row _ _ _ _ _ _ h).trans rfl, (cell_of_row _ _ _ _ _ _ h).trans rfl, (cell_of_row _ _ _ _ _ _ h).trans rfl, (cell_of_row _ _ _ _ _ _ h).trans rfl, (cell_of_row _ _ _ _ _ _ h).trans rfl⟩
end
theorem dsec_any (s : ByteArray) (w : World) : Calls Tryd.prog 100 #[.string s] w fun e w' => e = .returned (.bool (decide (s.size = 128))) ∧ w = w' := by
  by_cases h : s.size = 128
  · have d1 : ((s.size : Int) == 128) = true := by simp; omega
    have HR := Lib.hid (show true = decide (s.size = 128) from (decide_eq_true h).symm)
    clear h
    go_enter Tryd.func100, Tryd.ntmps100
    go_wp2_with fail
    go_ret
    exact ⟨dk_retB HR.out, rfl⟩
  · have d1 : ((s.size : Int) == 128) = false := by rw [beq_eq_false_iff_ne]; omega
    have HR := Lib.hid (show false = decide (s.size = 128) from (decide_eq_false h).symm)
    clear h
    go_enter Tryd.func100, Tryd.ntmps100
    go_wp2_with fail
    go_ret
    exact ⟨dk_retB HR.out, rfl⟩
theorem dsize_any (n : Int) (w : World) : Calls Tryd.prog 62 #[.int .i64 n] w fun e w' => e = .returned (.bool (decide (16 ≤ n ∧ n ≤ 4096))) ∧ w = w' := by
  by_cases h : 16 ≤ n
  · have d1 : decide ((16 : Int) ≤ n) = true := decide_eq_true h
    have d1' : decide (n ≥ (16 : Int)) = true := decide_eq_true h
    by_cases k : n ≤ 4096
    · have d2 : decide (n ≤ (4096 : Int)) = true := decide_eq_true k
      have HR := Lib.hid (show true = decide (16 ≤ n ∧ n ≤ 4096) from (decide_eq_true ⟨h, k⟩).symm)
      clear h k
      go_enter Tryd.func62, Tryd.ntmps62
      go_wp2_with fail
      go_ret
      exact ⟨dk_retB HR.out, rfl⟩
    · have d2 : decide (n ≤ (4096 : Int)) = false := decide_eq_false k
      have HR := Lib.hid (show false = decide (16 ≤ n ∧ n ≤ 4096) from (decide_eq_false fun q => k q.2).symm)
      clear h k
      go_enter Tryd.func62, Tryd.ntmps62
      go_wp2_with fail
      go_ret
      exact ⟨dk_retB HR.out, rfl⟩
  · have d1 : decide ((16 : Int) ≤ n) = false := decide_eq_false h
    have d1' : decide (n ≥ (16 : Int)) = false := decide_eq_false h
    have HR := Lib.hid (show false = decide (16 ≤ n ∧ n ≤ 4096) from (decide_eq_false fun q => h q.1).symm)
    clear h
    go_enter Tryd.func62, Tryd.ntmps62
    go_wp2_with fail
    go_ret
    exact ⟨dk_retB HR.out, rfl⟩
theorem dhas_any (D : Nat) (sa : Option Addr) (sn sc : Nat) (i : Int) (w : World) (h : w.cell? ⟨D, 0, none⟩ = some (.slice sa sn sc)) : Calls Tryd.prog 71 #[.pointer (some ⟨D, 0, none⟩), .int .i64 i] w fun e w' => e = .returned (.bool (decide (0 ≤ i ∧ i < (sn : Int)))) ∧ w = w' := by
  by_cases q : 0 ≤ i
  · have d1 : decide ((0 : Int) ≤ i) = true := decide_eq_true q
    have d1' : decide (i ≥ (0 : Int)) = true := decide_eq_true q
    by_cases k : i < (sn : Int)
    · have d2 : decide (i < (sn : Int)) = true := decide_eq_true k
      have HR := Lib.hid (show true = decide (0 ≤ i ∧ i < (sn : Int)) from (decide_eq_true ⟨q, k⟩).symm)
      clear q k
      go_enter Tryd.func71, Tryd.ntmps71
      go_wp2_with fail
      go_ret
      exact ⟨dk_retB HR.out, rfl⟩
    · have d2 : decide (i < (sn : Int)) = false := decide_eq_false k
      have HR := Lib.hid (show false = decide (0 ≤ i ∧ i < (sn : Int)) from (decide_eq_false fun z => k z.2).symm)
      clear q k
      go_enter Tryd.func71, Tryd.ntmps71
      go_wp2_with fail
      go_ret
      exact ⟨dk_retB HR.out, rfl⟩
  · have d1 : decide ((0 : Int) ≤ i) = false := decide_eq_false q
    have d1' : decide (i ≥ (0 : Int)) = false := decide_eq_false q
    have HR := Lib.hid (show false = decide (0 ≤ i ∧ i < (sn : Int)) from (decide_eq_false fun z => q z.1).symm)
    clear q
    go_enter Tryd.func71, Tryd.ntmps71
    go_wp2_with fail
    go_ret
    exact ⟨dk_retB HR.out, rfl⟩
/-- why a text can't be written to a sector -/
def dckE (sn : Nat) (i : Int) (s : ByteArray) : Int := if 0 ≤ i ∧ i < (sn : Int) then (if s.size = 128 then 0 else 2) else 8
theorem dcheck_any (D : Nat) (sa : Option Addr) (sn sc : Nat) (i : Int) (s : ByteArray) (w : World) (h : w.cell? ⟨D, 0, none⟩ = some (.slice sa sn sc)) : Calls Tryd.prog 74 #[.pointer (some ⟨D, 0, none⟩), .int .i64 i, .string s] w fun e w' => e = .returned (.int .i64 (dckE sn i s)) ∧ w = w' := by
  have H1 := Lib.hid (dhas_any D sa sn sc i w h)
  have H2 := Lib.hid (dsec_any s w)
  by_cases q : 0 ≤ i ∧ i < (sn : Int)
  · rw [decide_eq_true q] at H1
    by_cases k : s.size = 128
    · rw [decide_eq_true k] at H2
      have HR := Lib.hid (show (0 : Int) = dckE sn i s by unfold dckE; rw [if_pos q, if_pos k])
      clear q k
      go_enter Tryd.func74, Tryd.ntmps74
      go_wp2_with fail
      refine H1.out.mono ?_
      rintro e w' ⟨rfl, rfl⟩
      go_wp2_with fail
      refine H2.out.mono ?_
      rintro e w' ⟨rfl, rfl⟩
      go_wp2_with fail
      go_ret
      exact ⟨dk_retI HR.out, rfl⟩
    · rw [decide_eq_false k] at H2
      have HR := Lib.hid (show (2 : Int) = dckE sn i s by unfold dckE; rw [if_pos q, if_neg k])
      clear q k
      go_enter Tryd.func74, Tryd.ntmps74
      go_wp2_with fail
      refine H1.out.mono ?_
      rintro e w' ⟨rfl, rfl⟩
      go_wp2_with fail
      refine H2.out.mono ?_
      rintro e w' ⟨rfl, rfl⟩
      go_wp2_with fail
      go_ret
      exact ⟨dk_retI HR.out, rfl⟩
  · rw [decide_eq_false q] at H1
    have HR := Lib.hid (show (8 : Int) = dckE sn i s by unfold dckE; rw [if_neg q])
    clear q
    go_enter Tryd.func74, Tryd.ntmps74
    go_wp2_with fail
    refine H1.out.mono ?_
    rintro e w' ⟨rfl, rfl⟩
    go_wp2_with fail
    go_ret
    exact ⟨dk_retI HR.out, rfl⟩
theorem dmade_nil (w : World) : Calls Tryd.prog 66 #[.pointer none] w fun e w' => e = .returned (.bool false) ∧ w = w' := by
  go_enter Tryd.func66, Tryd.ntmps66
  go_wp2_with fail
  go_ret
  exact ⟨rfl, rfl⟩
theorem dmade_any (D : Nat) (sa : Option Addr) (sn sc : Nat) (ca : Option Addr) (cn cc : Nat) (mk dn : Bool) (ops fu : Int) (w : World) (h : w.heap[D]? = some (dkO sa sn sc ca cn cc mk dn ops fu)) : Calls Tryd.prog 66 #[.pointer (some ⟨D, 0, none⟩)] w fun e w' => e = .returned (.bool mk) ∧ w = w' := by
  obtain ⟨c0, c1, c2, c3, c4, c5⟩ := dk_cells h
  clear h c0 c1 c3 c4 c5
  go_enter Tryd.func66, Tryd.ntmps66
  cases mk
  all_goals
    go_wp2_with fail
    go_ret
    exact ⟨rfl, rfl⟩
theorem dready_nil (w : World) : Calls Tryd.prog 70 #[.pointer none] w fun e w' => e = .returned (.int .i64 1) ∧ w = w' := by
  have HM := Lib.hid (dmade_nil w)
  go_enter Tryd.func70, Tryd.ntmps70
  go_wp2_with fail
  refine HM.out.mono ?_
  rintro e w' ⟨rfl, rfl⟩
  go_wp2_with fail
  go_ret
  exact ⟨rfl, rfl⟩
theorem dready_no (D : Nat) (sa : Option Addr) (sn sc : Nat) (ca : Option Addr) (cn cc : Nat) (dn : Bool) (ops fu : Int) (w : World) (h : w.heap[D]? = some (dkO sa sn sc ca cn cc false dn ops fu)) : Calls Tryd.prog 70 #[.pointer (some ⟨D, 0, none⟩)] w fun e w' => e = .returned (.int .i64 1) ∧ w = w' := by
  have HM := Lib.hid (dmade_any D sa sn sc ca cn cc false dn ops fu w h)
  clear h
  go_enter Tryd.func70, Tryd.ntmps70
  go_wp2_with fail
  refine HM.out.mono ?_
  rintro e w' ⟨rfl, rfl⟩
  go_wp2_with fail
  go_ret
  exact ⟨rfl, rfl⟩
theorem dready_any (D : Nat) (sa : Option Addr) (sn sc : Nat) (ca : Option Addr) (cn cc : Nat) (dn : Bool) (ops fu : Int) (w : World) (h : w.heap[D]? = some (dkO sa sn sc ca cn cc true dn ops fu)) : Calls Tryd.prog 70 #[.pointer (some ⟨D, 0, none⟩)] w fun e w' => e = .returned (.int .i64 (if dn = true then 7 else 0)) ∧ w = w' := by
  have HM := Lib.hid (dmade_any D sa sn sc ca cn cc true dn ops fu w h)
  obtain ⟨c0, c1, c2, c3, c4, c5⟩ := dk_cells h
  clear h
  cases dn
  all_goals
    go_enter Tryd.func70, Tryd.ntmps70
    go_wp2_with fail
    refine HM.out.mono ?_
    rintro e w' ⟨rfl, rfl⟩
    go_wp2_with fail
    go_ret
    exact ⟨rfl, rfl⟩
theorem dszz_nil (w : World) : Calls Tryd.prog 35 #[.pointer none] w fun e w' => e = .returned (.int .i64 0) ∧ w = w' := by
  have HM := Lib.hid (dmade_nil w)
  go_enter Tryd.func35, Tryd.ntmps35
  go_wp2_with fail
  refine HM.out.mono ?_
  rintro e w' ⟨rfl, rfl⟩
  go_wp2_with fail
  go_ret
  exact ⟨rfl, rfl⟩
theorem dszz_no (D : Nat) (sa : Option Addr) (sn sc : Nat) (ca : Option Addr) (cn cc : Nat) (dn : Bool) (ops fu : Int) (w : World) (h : w.heap[D]? = some (dkO sa sn sc ca cn cc false dn ops fu)) : Calls Tryd.prog 35 #[.pointer (some ⟨D, 0, none⟩)] w fun e w' => e = .returned (.int .i64 0) ∧ w = w' := by
  have HM := Lib.hid (dmade_any D sa sn sc ca cn cc false dn ops fu w h)
  clear h
  go_enter Tryd.func35, Tryd.ntmps35
  go_wp2_with fail
  refine HM.out.mono ?_
  rintro e w' ⟨rfl, rfl⟩
  go_wp2_with fail
  go_ret
  exact ⟨rfl, rfl⟩
theorem dszz_any (D : Nat) (sa : Option Addr) (sn sc : Nat) (ca : Option Addr) (cn cc : Nat) (dn : Bool) (ops fu : Int) (w : World) (h : w.heap[D]? = some (dkO sa sn sc ca cn cc true dn ops fu)) : Calls Tryd.prog 35 #[.pointer (some ⟨D, 0, none⟩)] w fun e w' => e = .returned (.int .i64 (sn : Int)) ∧ w = w' := by
  have HM := Lib.hid (dmade_any D sa sn sc ca cn cc true dn ops fu w h)
  obtain ⟨c0, c1, c2, c3, c4, c5⟩ := dk_cells h
  clear h
  go_enter Tryd.func35, Tryd.ntmps35
  go_wp2_with fail
  refine HM.out.mono ?_
  rintro e w' ⟨rfl, rfl⟩
  go_wp2_with fail
  go_ret
  exact ⟨rfl, rfl⟩
theorem dops_nil (w : World) : Calls Tryd.prog 32 #[.pointer none] w fun e w' => e = .returned (.int .i64 0) ∧ w = w' := by
  have HM := Lib.hid (dmade_nil w)
  go_enter Tryd.func32, Tryd.ntmps32
  go_wp2_with fail
  refine HM.out.mono ?_
  rintro e w' ⟨rfl, rfl⟩
  go_wp2_with fail
  go_ret
  exact ⟨rfl, rfl⟩
theorem dops_no (D : Nat) (sa : Option Addr) (sn sc : Nat) (ca : Option Addr) (cn cc : Nat) (dn : Bool) (ops fu : Int) (w : World) (h : w.heap[D]? = some (dkO sa sn sc ca cn cc false dn ops fu)) : Calls Tryd.prog 32 #[.pointer (some ⟨D, 0, none⟩)] w fun e w' => e = .returned (.int .i64 0) ∧ w = w' := by
  have HM := Lib.hid (dmade_any D sa sn sc ca cn cc false dn ops fu w h)
  clear h
  go_enter Tryd.func32, Tryd.ntmps32
  go_wp2_with fail
  refine HM.out.mono ?_
  rintro e w' ⟨rfl, rfl⟩
  go_wp2_with fail
  go_ret
  exact ⟨rfl, rfl⟩
theorem dops_any (D : Nat) (sa : Option Addr) (sn sc : Nat) (ca : Option Addr) (cn cc : Nat) (dn : Bool) (ops fu : Int) (w : World) (h : w.heap[D]? = some (dkO sa sn sc ca cn cc true dn ops fu)) : Calls Tryd.prog 32 #[.pointer (some ⟨D, 0, none⟩)] w fun e w' => e = .returned (.int .i64 ops) ∧ w = w' := by
  have HM := Lib.hid (dmade_any D sa sn sc ca cn cc true dn ops fu w h)
  obtain ⟨c0, c1, c2, c3, c4, c5⟩ := dk_cells h
  clear h
  go_enter Tryd.func32, Tryd.ntmps32
  go_wp2_with fail
  refine HM.out.mono ?_
  rintro e w' ⟨rfl, rfl⟩
  go_wp2_with fail
  go_ret
  exact ⟨rfl, rfl⟩
/-- the power goes, or comes back -/
theorem dturn_any (D : Nat) (sa : Option Addr) (sn sc : Nat) (ca : Option Addr) (cn cc : Nat) (mk dn : Bool) (ops fu : Int) (b : Bool) (w : World) (h : w.heap[D]? = some (dkO sa sn sc ca cn cc mk dn ops fu)) : Calls Tryd.prog 101 #[.pointer (some ⟨D, 0, none⟩), .bool b] w fun e w' => e = .returned (.tuple #[]) ∧ w'.heap[D]? = some (dkO sa sn sc ca cn cc mk b ops 0) ∧ KK [D] w w' := by
  have H := Lib.hid h
  obtain ⟨c0, c1, c2, c3, c4, c5⟩ := dk_cells h
  have f3 : w.frozen? ⟨D, 3, none⟩ = false := frozen_of_row _ _ _ _ _ h
  have f5 : w.frozen? ⟨D, 5, none⟩ = false := frozen_of_row _ _ _ _ _ h
  clear h
  go_enter Tryd.func101, Tryd.ntmps101
  go_wp2_with fail
  have HR : Hid (((w.setCell ⟨D, 3, none⟩ (.bool b)).setCell ⟨D, 5, none⟩ (.int .i64 0)).heap[D]? = some (dkO sa sn sc ca cn cc mk b ops 0)) := Lib.hid (by have q := heap_setCell_at (i := 5) (u := .int .i64 0) (heap_setCell_at (i := 3) (u := .bool b) H.out); exact q)
  have HK := Lib.hid (((KK.refl [D] w).set (b := D) (by simp) 3 (.bool b)).set (b := D) (by simp) 5 (.int .i64 0))
  refine bodyPost_end (results_none rfl _ _ _) rfl ?_
  exact ⟨rfl, HR.out, HK.out⟩
end Go.Proofs.YtagenkofoacajaaDoor
