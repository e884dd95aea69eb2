/- graph.Check of a graph of one node. -/
import Derived.Test.YtjnichiblljmjaaAb
import Derived.Carry
import Derived.Maps.Own
import Derived.StringKeys
import Derived.Deep.DeepCutAuto
namespace Go.Proofs.Ytjnichiblljmjaa
open Go.RowKit Vi Go.WideMaps Go.Maps

set_option maxRecDepth 100000 in
theorem gedges0 (m : Value) (w : World) : Calls Try.prog 105 #[.slice none 0 0, m] w fun e w' => e = .returned (.int .i64 0) ∧ w = w' := by
  go_enter Try.func105, Try.ntmps105
  go_wp2_with fail
  go_loop [15] (fun i => i = .int .i64 0) (fun _ => 0)
  case atStart => rfl
  case round =>
    subst hrel
    go_wp2_with fail
    go_ret
    exact ⟨rfl, rfl⟩
theorem cn1 (w : World) : Calls Try.prog 130 #[.agg #[.string ⟨#[97]⟩, .slice none 0 0, .slice none 0 0]] w fun e w' => e = .returned (.int .i64 0) ∧ Below w.heap.size w w' := by
  have h := cnode_any ⟨#[97]⟩ none none 0 0 0 0 [] [] w ⟨⟨rfl, fun h => by omega⟩, RdX.nil⟩ ⟨by decide, by decide, by simp, by simp⟩ (by decide)
  exact h
set_option maxRecDepth 100000 in
set_option maxHeartbeats 1000000 in
theorem gnodes1 (g B n : Nat) (w : World) (T : TypeId) (fr : Nat × Nat) (h : w.heap[g]? = some (.cells #[.string ⟨#[97]⟩, .slice none 0 0, .slice none 0 0] T fr)) (hm : w.heap[B]? = some (.map #[] 0)) (hn : n ≤ B) :
    Calls Try.prog 104 #[.slice (some ⟨g, 0, none⟩) 1 1, .map (some B)] w fun e w' => e = .returned (.int .i64 0) ∧ Below n w w' := by
  have H := Lib.hid h
  have HM := Lib.hid hm
  have hgl := lt_of_block h
  have a0 : w.cell? ⟨g, 0, none⟩ = some (.string ⟨#[97]⟩) := by rw [cell_of_row _ _ _ _ _ _ h]; rfl
  have a1 : w.cell? ⟨g, 1, none⟩ = some (.slice none 0 0) := by rw [cell_of_row _ _ _ _ _ _ h]; rfl
  have a2 : w.cell? ⟨g, 2, none⟩ = some (.slice none 0 0) := by rw [cell_of_row _ _ _ _ _ _ h]; rfl
  clear h hm
  have HC := Lib.hid (fun W : World => cn1 W)
  have HB1 := Lib.hid (Below.refl n w)
  go_enter Try.func104, Try.ntmps104
  go_wp2_with fail
  go_loopw [5, 11] (fun s i wr => (s = .string ⟨#[]⟩ ∧ i = .int .i64 0 ∧ wr = w) ∨ (s = .string ⟨#[97]⟩ ∧ i = .int .i64 1 ∧ Below n w wr)) (fun _ i _ => 1 - (intOf i).toNat)
  case atStart => exact Or.inl ⟨rfl, rfl, rfl⟩
  case round =>
    rcases hrel with ⟨rfl, rfl, rfl⟩ | ⟨rfl, rfl, hb⟩
    · go_wp2_with fail
      refine (HC.out _).mono ?_
      rintro e w1 ⟨rfl, hb1⟩
      have hsz := hb1.size
      have hF := blk_below (blk_new wr (.cells #[.string ⟨#[97]⟩, .slice none 0 0, .slice none 0 0] 45 (0, 0))) hb1
      have HM1 := Lib.hid (blk_below (blk_alloc HM.out (.cells #[.string ⟨#[97]⟩, .slice none 0 0, .slice none 0 0] 45 (0, 0))) hb1)
      have c0 : w1.cell? ⟨wr.heap.size, 0, none⟩ = some (.string ⟨#[97]⟩) := by rw [cell_of_row _ _ _ _ _ _ hF]; rfl
      have lt1 : Op.bytesLess [] [(97 : UInt8)] = true := by decide
      have lt2 : Op.bytesLess [(97 : UInt8)] [] = false := by decide
      have hj0 : 0 < maxLen := by unfold maxLen; omega
      have hXs : (⟨#[97]⟩ : ByteArray).size ≤ maxLen := by show 1 ≤ maxLen; unfold maxLen; omega
      have hBw : B < w1.heap.size := lt_of_block HM1.out
      have HOW : w1.ownsMap Try.prog 9 (fun _ => some ((.nil : DataW Nat), ([] : List MemPlace))) B 0 (.map []) := ⟨#[], 0, HM1.out, ⟨by simp, MapKept.stamped_empty 0, by simp⟩, Nat.le_refl _, rfl⟩
      have HBW := Lib.hid (((HB1.out.alloc (Nat.le_trans hn (Nat.le_of_lt (lt_of_block HM.out))) (.cells #[.string ⟨#[97]⟩, .slice none 0 0, .slice none 0 0] 45 (0, 0))).trans (hb1.mono (by simp; have := lt_of_block HM.out; omega))))
      clear hF hb1
      obtain ⟨w2, hrun, hown2, hgrow2⟩ := HOW.update (string_keyed Try.underlying9) Try.underlying157 hj0 (key := .string ⟨#[97]⟩) (val := .agg #[]) (keyOf_string_mk Try.underlying9 hXs) (d := .nil) (ps := []) rfl
      have HB2 := Lib.hid (HBW.out.grown hgrow2 (by omega) (fun k hk => by injection hk with hk; omega))
      clear hown2 HOW hgrow2
      go_wp2_with fail
      go_roundw
      case rel => exact Or.inr ⟨rfl, rfl, HB2.out⟩
      case measure => simp [intOf] <;> omega
    · go_wp2_with fail
      go_ret
      exact ⟨rfl, hb⟩
set_option maxRecDepth 100000 in
set_option maxHeartbeats 1000000 in
theorem gcheck1 (g : Nat) (w : World) (T : TypeId) (fr : Nat × Nat) (h : w.heap[g]? = some (.cells #[.string ⟨#[97]⟩, .slice none 0 0, .slice none 0 0] T fr)) :
    Calls Try.prog 54 #[.agg #[.slice (some ⟨g, 0, none⟩) 1 1, .slice none 0 0]] w fun e w' => e = .returned (.int .i64 0) ∧ Below w.heap.size w w' := by
  have HG := Lib.hid (blk_alloc (blk_alloc h (.cells #[.slice (some ⟨g, 0, none⟩) 1 1, .slice none 0 0] 39 (0, 0))) (.map #[] 0))
  have HM := Lib.hid (two_blk w (.cells #[.slice (some ⟨g, 0, none⟩) 1 1, .slice none 0 0] 39 (0, 0)) (.map #[] 0))
  have HF := Lib.hid (blk_alloc (blk_new w (.cells #[.slice (some ⟨g, 0, none⟩) 1 1, .slice none 0 0] 39 (0, 0))) (.map #[] 0))
  have HN := Lib.hid (gnodes1 g (w.heap.size + 1) (w.heap.size + 1) _ T fr HG.out HM.out (Nat.le_refl _))
  have HB0 := (Below.refl w.heap.size w).alloc (Nat.le_refl _) (.cells #[.slice (some ⟨g, 0, none⟩) 1 1, .slice none 0 0] 39 (0, 0))
  have HB := Lib.hid (HB0.alloc HB0.size (.map #[] 0))
  clear HB0 h
  have hmm := fun W : World => run_makeMap (P := Try.prog) 157 W
  go_enter Try.func54, Try.ntmps54
  go_wp2_with fail
  refine HN.out.mono ?_
  rintro e w1 ⟨rfl, hb1⟩
  have HF1 := (hb1.block w.heap.size (by omega)).trans HF.out
  have c1 : w1.cell? ⟨w.heap.size, 1, none⟩ = some (.slice none 0 0) := by rw [cell_of_row _ _ _ _ _ _ HF1]; rfl
  have HB1 := Lib.hid (HB.out.trans (hb1.mono (by omega)))
  clear hb1 HF1
  go_wp2_with fail
  refine (gedges0 _ w1).mono ?_
  rintro e w2 ⟨rfl, rfl⟩
  go_wp2_with fail
  go_ret
  exact ⟨rfl, HB1.out⟩
end Go.Proofs.Ytjnichiblljmjaa
