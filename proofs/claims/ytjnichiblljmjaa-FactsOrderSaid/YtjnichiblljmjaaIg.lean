/- facts.Of of a graph of one node; awake27. -/
import Derived.Test.YtjnichiblljmjaaIc
import Derived.Test.YtjnichiblljmjaaIb
import Derived.Test.YtjnichiblljmjaaIe
import Derived.Deep.DeepCutAuto
import Derived.Deep.RegionHeld3
import Derived.Deep.RegionLaw
namespace Go.Proofs.Ytjnichiblljmjaa
open Go.RowKit Vi

abbrev f1 : Fc := (1, ⟨#[97]⟩, ⟨#[]⟩, ⟨#[]⟩)
def bkO (v : Value) : Obj := .cells #[.slice none 0 0, v, .slice none 0 0, .slice none 0 0, .slice none 0 0, .slice none 0 0, .slice none 0 0] 133 (0, 0)
def AddP (B : Nat) (w : World) (e : Ending) (w' : World) : Prop := e = .returned (.tuple #[]) ∧ ∃ v, OwX fcC 4 73 w' w.heap.size v [f1] ∧ w'.heap[B]? = some (bkO v) ∧ KK [B] w w'
set_option maxRecDepth 100000 in
set_option maxHeartbeats 2000000 in
theorem fadd1 (B : Nat) (w : World) (h : w.heap[B]? = some (bkO (.slice none 0 0))) :
    Calls Try.prog 87 #[.pointer (some ⟨B, 0, none⟩), .agg #[.int .i64 1, .string ⟨#[97]⟩, .string ⟨#[]⟩, .string ⟨#[]⟩]] w (AddP B w) := by
  unfold bkO at h
  have hBl := lt_of_block h
  have HB := Lib.hid (blk_alloc h (.cells #[.int .i64 1, .string ⟨#[97]⟩, .string ⟨#[]⟩, .string ⟨#[]⟩] 73 (0, 0)))
  have HX := Lib.hid (blk_new w (.cells #[.int .i64 1, .string ⟨#[97]⟩, .string ⟨#[]⟩, .string ⟨#[]⟩] 73 (0, 0)))
  have HL := Lib.hid ((Below.refl w.heap.size w).alloc (Nat.le_refl _) (.cells #[.int .i64 1, .string ⟨#[97]⟩, .string ⟨#[]⟩, .string ⟨#[]⟩] 73 (0, 0)))
  clear h
  go_enter Try.func87, Try.ntmps87
  go_upto_region 1 with (fail)
  obtain ⟨v, hv⟩ : ∃ v, v = w.alloc (.cells #[.int .i64 1, .string ⟨#[97]⟩, .string ⟨#[]⟩, .string ⟨#[]⟩] 73 (0, 0)) := ⟨_, rfl⟩
  rw [← hv] at HB HX HL
  rw [← hv]
  clear hv
  have hXl := lt_of_block HX.out
  have hne : ¬ w.heap.size = B := by omega
  have b1 : v.cell? ⟨B, 1, none⟩ = some (.slice none 0 0) := by rw [cell_of_row _ _ _ _ _ _ HB.out]; rfl
  have x0 : v.cell? ⟨w.heap.size, 0, none⟩ = some (.int .i64 1) := by rw [cell_of_row _ _ _ _ _ _ HX.out]; rfl
  have x1 : v.cell? ⟨w.heap.size, 1, none⟩ = some (.string ⟨#[97]⟩) := by rw [cell_of_row _ _ _ _ _ _ HX.out]; rfl
  have x2 : v.cell? ⟨w.heap.size, 2, none⟩ = some (.string ⟨#[]⟩) := by rw [cell_of_row _ _ _ _ _ _ HX.out]; rfl
  have x3 : v.cell? ⟨w.heap.size, 3, none⟩ = some (.string ⟨#[]⟩) := by rw [cell_of_row _ _ _ _ _ _ HX.out]; rfl
  have b1A : (v.alloc (.cells #[.int .i64 1, .string ⟨#[97]⟩, .string ⟨#[]⟩, .string ⟨#[]⟩] 73 (0, 0))).cell? ⟨B, 1, none⟩ = some (.slice none 0 0) := by rw [cell_of_row _ _ _ _ _ _ (blk_alloc HB.out (.cells #[.int .i64 1, .string ⟨#[97]⟩, .string ⟨#[]⟩, .string ⟨#[]⟩] 73 (0, 0)))]; rfl
  have x0A : (v.alloc (.cells #[.int .i64 1, .string ⟨#[97]⟩, .string ⟨#[]⟩, .string ⟨#[]⟩] 73 (0, 0))).cell? ⟨w.heap.size, 0, none⟩ = some (.int .i64 1) := by rw [cell_of_row _ _ _ _ _ _ (blk_alloc HX.out (.cells #[.int .i64 1, .string ⟨#[97]⟩, .string ⟨#[]⟩, .string ⟨#[]⟩] 73 (0, 0)))]; rfl
  go_region_law (first
    | (refine step_appX ?_ (.tmp 12) (.tmp 14) 69 73 _ 56 ?_ Try.underlying69 info_fcB ?_ ?_ ?_ fcC_len fcC_one v.heap.size v ?_ ?_ (.slice none 0 0) [] ?_ (OwX.nil _) v.heap.size 1 f1 #[.int .i64 1, .string ⟨#[97]⟩, .string ⟨#[]⟩, .string ⟨#[]⟩] 73 (0, 0) ?_ (heap_alloc_new v _) ?_ ?_ ?_; (rfl); (rfl); (rfl); (omega); (omega); (exact ((Below.refl _ v).alloc (Nat.le_refl _) _).drew); (simp); (rfl); (rfl); (rfl); (simp); intro v7 w7 HO7 HB7 HZ7 HG7; have z7 : w7.frozen? ⟨B, 1, none⟩ = false := frozen_of_row _ _ _ _ _ ((HB7.out.block B (by omega)).trans HB.out); have q7 : w7.cell? ⟨B, 1, none⟩ = some (.slice none 0 0) := (cell_of_row _ _ _ _ _ _ ((HB7.out.block B (by omega)).trans HB.out)).trans rfl; have y7 : w7.cell? ⟨w.heap.size, 0, none⟩ = some (.int .i64 1) := (cell_of_row _ _ _ _ _ _ ((HB7.out.block w.heap.size (by omega)).trans HX.out)).trans rfl; obtain ⟨A7, n7, c7, rfl⟩ := HO7.out.sl3))
  all_goals
    have HK := Lib.hid ((HB7.out.block B (by omega)).trans HB.out)
    have HR : Hid ((w7.setCell ⟨B, 1, none⟩ (.slice A7 n7 c7)).heap[B]? = some (bkO (.slice A7 n7 c7))) := Lib.hid (by have h := heap_setCell_at (i := 1) (u := .slice A7 n7 c7) HK.out; exact h)
    have HKK := Lib.hid ((KK.refl [B] w7).set (b := B) (by simp) 1 (.slice A7 n7 c7))
    have HO := Lib.hid (HO7.out.kk (m := [B]) HKK.out (by simp; omega))
    have HBn := Lib.hid (((KK.of_below (l := [B]) HL.out).trans (KK.of_below HB7.out)).trans HKK.out)
    refine bodyPost_ret (v := .tuple #[]) (by simp [results, Try.results87, go_sem]) rfl ?_
    exact ⟨rfl, .slice A7 n7 c7, HO.out.mono (by omega), HR.out, HBn.out⟩
end Go.Proofs.Ytjnichiblljmjaa
