/- The example of layer 27, in one. Conditions: as in the texts it is made of. -/
import Derived.Test.YtbjngbacnkmjhaaOpa
import Derived.Carry
import Derived.Maps.Own
import Derived.StringKeys
import Derived.Deep.DeepCutAuto
import Derived.Test.YtbjngbacnkmjhaaIMa
import Derived.Deep.RegionHeld3
import Derived.Deep.RegionLaw
import Derived.IntWalk
namespace Go.Proofs.Ytbjngbacnkmjhaa
open Go.RowKit Vi Go.WideMaps Go.Maps

set_option maxRecDepth 100000 in
theorem gedges0 (m : Value) (w : World) : Calls Try.prog 112 #[.slice none 0 0, m] w fun e w' => e = .returned (.int .i64 0) ∧ w = w' := by
  go_enter Try.func112, Try.ntmps112
  go_wp2_with fail
  go_loop [15] (fun i => i = .int .i64 0) (fun _ => 0)
  case atStart => rfl
  case round =>
    subst hrel
    go_wp2_with fail
    go_ret
    exact ⟨rfl, rfl⟩
theorem cn1 (w : World) : Calls Try.prog 183 #[.agg #[.string ⟨#[97]⟩, .slice none 0 0, .slice none 0 0]] w fun e w' => e = .returned (.int .i64 0) ∧ Below w.heap.size w w' := by
  have h := cnode_any ⟨#[97]⟩ none none 0 0 0 0 [] [] w ⟨⟨rfl, fun h => by omega⟩, RdX.nil⟩ ⟨by decide, by decide, by simp, by simp⟩ (by decide)
  exact h
set_option maxRecDepth 100000 in
set_option maxHeartbeats 1000000 in
theorem gnodes1 (g B n : Nat) (w : World) (T : TypeId) (fr : Nat × Nat) (h : w.heap[g]? = some (.cells #[.string ⟨#[97]⟩, .slice none 0 0, .slice none 0 0] T fr)) (hm : w.heap[B]? = some (.map #[] 0)) (hn : n ≤ B) :
    Calls Try.prog 111 #[.slice (some ⟨g, 0, none⟩) 1 1, .map (some B)] w fun e w' => e = .returned (.int .i64 0) ∧ Below n w w' := by
  have H := Lib.hid h
  have HM := Lib.hid hm
  have hgl := lt_of_block h
  have a0 : w.cell? ⟨g, 0, none⟩ = some (.string ⟨#[97]⟩) := by rw [cell_of_row _ _ _ _ _ _ h]; rfl
  have a1 : w.cell? ⟨g, 1, none⟩ = some (.slice none 0 0) := by rw [cell_of_row _ _ _ _ _ _ h]; rfl
  have a2 : w.cell? ⟨g, 2, none⟩ = some (.slice none 0 0) := by rw [cell_of_row _ _ _ _ _ _ h]; rfl
  clear h hm
  have HC := Lib.hid (fun W : World => cn1 W)
  have HB1 := Lib.hid (Below.refl n w)
  go_enter Try.func111, Try.ntmps111
  go_wp2_with fail
  go_loopw [5, 11] (fun s i wr => (s = .string ⟨#[]⟩ ∧ i = .int .i64 0 ∧ wr = w) ∨ (s = .string ⟨#[97]⟩ ∧ i = .int .i64 1 ∧ Below n w wr)) (fun _ i _ => 1 - (intOf i).toNat)
  case atStart => exact Or.inl ⟨rfl, rfl, rfl⟩
  case round =>
    rcases hrel with ⟨rfl, rfl, rfl⟩ | ⟨rfl, rfl, hb⟩
    · go_wp2_with fail
      refine (HC.out _).mono ?_
      rintro e w1 ⟨rfl, hb1⟩
      have hsz := hb1.size
      have hF := blk_below (blk_new wr (.cells #[.string ⟨#[97]⟩, .slice none 0 0, .slice none 0 0] 81 (0, 0))) hb1
      have HM1 := Lib.hid (blk_below (blk_alloc HM.out (.cells #[.string ⟨#[97]⟩, .slice none 0 0, .slice none 0 0] 81 (0, 0))) hb1)
      have c0 : w1.cell? ⟨wr.heap.size, 0, none⟩ = some (.string ⟨#[97]⟩) := by rw [cell_of_row _ _ _ _ _ _ hF]; rfl
      have lt1 : Op.bytesLess [] [(97 : UInt8)] = true := by decide
      have lt2 : Op.bytesLess [(97 : UInt8)] [] = false := by decide
      have hj0 : 0 < maxLen := by unfold maxLen; omega
      have hXs : (⟨#[97]⟩ : ByteArray).size ≤ maxLen := by show 1 ≤ maxLen; unfold maxLen; omega
      have hBw : B < w1.heap.size := lt_of_block HM1.out
      have HOW : w1.ownsMap Try.prog 9 (fun _ => some ((.nil : DataW Nat), ([] : List MemPlace))) B 0 (.map []) := ⟨#[], 0, HM1.out, ⟨by simp, MapKept.stamped_empty 0, by simp⟩, Nat.le_refl _, rfl⟩
      have HBW := Lib.hid (((HB1.out.alloc (Nat.le_trans hn (Nat.le_of_lt (lt_of_block HM.out))) (.cells #[.string ⟨#[97]⟩, .slice none 0 0, .slice none 0 0] 81 (0, 0))).trans (hb1.mono (by simp; have := lt_of_block HM.out; omega))))
      clear hF hb1
      obtain ⟨w2, hrun, hown2, hgrow2⟩ := HOW.update (string_keyed Try.underlying9) Try.underlying161 hj0 (key := .string ⟨#[97]⟩) (val := .agg #[]) (keyOf_string_mk Try.underlying9 hXs) (d := .nil) (ps := []) rfl
      have HB2 := Lib.hid (HBW.out.grown hgrow2 (by omega) (fun k hk => by injection hk with hk; omega))
      clear hown2 HOW hgrow2
      go_wp2_with fail
      go_roundw
      case rel => exact Or.inr ⟨rfl, rfl, HB2.out⟩
      case measure => simp [intOf] <;> omega
    · go_wp2_with fail
      go_ret
      exact ⟨rfl, hb⟩
set_option maxRecDepth 100000 in
set_option maxHeartbeats 1000000 in
theorem gcheck1 (g : Nat) (w : World) (T : TypeId) (fr : Nat × Nat) (h : w.heap[g]? = some (.cells #[.string ⟨#[97]⟩, .slice none 0 0, .slice none 0 0] T fr)) :
    Calls Try.prog 38 #[.agg #[.slice (some ⟨g, 0, none⟩) 1 1, .slice none 0 0]] w fun e w' => e = .returned (.int .i64 0) ∧ Below w.heap.size w w' := by
  have HG := Lib.hid (blk_alloc (blk_alloc h (.cells #[.slice (some ⟨g, 0, none⟩) 1 1, .slice none 0 0] 65 (0, 0))) (.map #[] 0))
  have HM := Lib.hid (two_blk w (.cells #[.slice (some ⟨g, 0, none⟩) 1 1, .slice none 0 0] 65 (0, 0)) (.map #[] 0))
  have HF := Lib.hid (blk_alloc (blk_new w (.cells #[.slice (some ⟨g, 0, none⟩) 1 1, .slice none 0 0] 65 (0, 0))) (.map #[] 0))
  have HN := Lib.hid (gnodes1 g (w.heap.size + 1) (w.heap.size + 1) _ T fr HG.out HM.out (Nat.le_refl _))
  have HB0 := (Below.refl w.heap.size w).alloc (Nat.le_refl _) (.cells #[.slice (some ⟨g, 0, none⟩) 1 1, .slice none 0 0] 65 (0, 0))
  have HB := Lib.hid (HB0.alloc HB0.size (.map #[] 0))
  clear HB0 h
  have hmm := fun W : World => run_makeMap (P := Try.prog) 161 W
  go_enter Try.func38, Try.ntmps38
  go_wp2_with fail
  refine HN.out.mono ?_
  rintro e w1 ⟨rfl, hb1⟩
  have HF1 := (hb1.block w.heap.size (by omega)).trans HF.out
  have c1 : w1.cell? ⟨w.heap.size, 1, none⟩ = some (.slice none 0 0) := by rw [cell_of_row _ _ _ _ _ _ HF1]; rfl
  have HB1 := Lib.hid (HB.out.trans (hb1.mono (by omega)))
  clear hb1 HF1
  go_wp2_with fail
  refine (gedges0 _ w1).mono ?_
  rintro e w2 ⟨rfl, rfl⟩
  go_wp2_with fail
  go_ret
  exact ⟨rfl, HB1.out⟩
end Go.Proofs.Ytbjngbacnkmjhaa
namespace Go.Proofs.Ytbjngbacnkmjhaa
open Go.RowKit Vi

abbrev f1 : Fc := (1, ⟨#[97]⟩, ⟨#[]⟩, ⟨#[]⟩)
def bkO (v : Value) : Obj := .cells #[.slice none 0 0, v, .slice none 0 0, .slice none 0 0, .slice none 0 0, .slice none 0 0, .slice none 0 0] 180 (0, 0)
def AddP (B : Nat) (w : World) (e : Ending) (w' : World) : Prop := e = .returned (.tuple #[]) ∧ ∃ v, OwX fcC 4 178 w' w.heap.size v [f1] ∧ w'.heap[B]? = some (bkO v) ∧ KK [B] w w'
set_option maxRecDepth 100000 in
set_option maxHeartbeats 2000000 in
theorem fadd1 (B : Nat) (w : World) (h : w.heap[B]? = some (bkO (.slice none 0 0))) :
    Calls Try.prog 128 #[.pointer (some ⟨B, 0, none⟩), .agg #[.int .i64 1, .string ⟨#[97]⟩, .string ⟨#[]⟩, .string ⟨#[]⟩]] w (AddP B w) := by
  unfold bkO at h
  have hBl := lt_of_block h
  have HB := Lib.hid (blk_alloc h (.cells #[.int .i64 1, .string ⟨#[97]⟩, .string ⟨#[]⟩, .string ⟨#[]⟩] 178 (0, 0)))
  have HX := Lib.hid (blk_new w (.cells #[.int .i64 1, .string ⟨#[97]⟩, .string ⟨#[]⟩, .string ⟨#[]⟩] 178 (0, 0)))
  have HL := Lib.hid ((Below.refl w.heap.size w).alloc (Nat.le_refl _) (.cells #[.int .i64 1, .string ⟨#[97]⟩, .string ⟨#[]⟩, .string ⟨#[]⟩] 178 (0, 0)))
  clear h
  go_enter Try.func128, Try.ntmps128
  go_upto_region 1 with (fail)
  obtain ⟨v, hv⟩ : ∃ v, v = w.alloc (.cells #[.int .i64 1, .string ⟨#[97]⟩, .string ⟨#[]⟩, .string ⟨#[]⟩] 178 (0, 0)) := ⟨_, rfl⟩
  rw [← hv] at HB HX HL
  rw [← hv]
  clear hv
  have hXl := lt_of_block HX.out
  have hne : ¬ w.heap.size = B := by omega
  have b1 : v.cell? ⟨B, 1, none⟩ = some (.slice none 0 0) := by rw [cell_of_row _ _ _ _ _ _ HB.out]; rfl
  have x0 : v.cell? ⟨w.heap.size, 0, none⟩ = some (.int .i64 1) := by rw [cell_of_row _ _ _ _ _ _ HX.out]; rfl
  have x1 : v.cell? ⟨w.heap.size, 1, none⟩ = some (.string ⟨#[97]⟩) := by rw [cell_of_row _ _ _ _ _ _ HX.out]; rfl
  have x2 : v.cell? ⟨w.heap.size, 2, none⟩ = some (.string ⟨#[]⟩) := by rw [cell_of_row _ _ _ _ _ _ HX.out]; rfl
  have x3 : v.cell? ⟨w.heap.size, 3, none⟩ = some (.string ⟨#[]⟩) := by rw [cell_of_row _ _ _ _ _ _ HX.out]; rfl
  have b1A : (v.alloc (.cells #[.int .i64 1, .string ⟨#[97]⟩, .string ⟨#[]⟩, .string ⟨#[]⟩] 178 (0, 0))).cell? ⟨B, 1, none⟩ = some (.slice none 0 0) := by rw [cell_of_row _ _ _ _ _ _ (blk_alloc HB.out (.cells #[.int .i64 1, .string ⟨#[97]⟩, .string ⟨#[]⟩, .string ⟨#[]⟩] 178 (0, 0)))]; rfl
  have x0A : (v.alloc (.cells #[.int .i64 1, .string ⟨#[97]⟩, .string ⟨#[]⟩, .string ⟨#[]⟩] 178 (0, 0))).cell? ⟨w.heap.size, 0, none⟩ = some (.int .i64 1) := by rw [cell_of_row _ _ _ _ _ _ (blk_alloc HX.out (.cells #[.int .i64 1, .string ⟨#[97]⟩, .string ⟨#[]⟩, .string ⟨#[]⟩] 178 (0, 0)))]; rfl
  go_region_law (first
    | (refine step_appX ?_ (.tmp 12) (.tmp 14) 71 178 _ 56 ?_ Try.underlying71 info_fcB ?_ ?_ ?_ fcC_len fcC_one v.heap.size v ?_ ?_ (.slice none 0 0) [] ?_ (OwX.nil _) v.heap.size 1 f1 #[.int .i64 1, .string ⟨#[97]⟩, .string ⟨#[]⟩, .string ⟨#[]⟩] 178 (0, 0) ?_ (heap_alloc_new v _) ?_ ?_ ?_; (rfl); (rfl); (rfl); (omega); (omega); (exact ((Below.refl _ v).alloc (Nat.le_refl _) _).drew); (simp); (rfl); (rfl); (rfl); (simp); intro v7 w7 HO7 HB7 HZ7 HG7; have z7 : w7.frozen? ⟨B, 1, none⟩ = false := frozen_of_row _ _ _ _ _ ((HB7.out.block B (by omega)).trans HB.out); have q7 : w7.cell? ⟨B, 1, none⟩ = some (.slice none 0 0) := (cell_of_row _ _ _ _ _ _ ((HB7.out.block B (by omega)).trans HB.out)).trans rfl; have y7 : w7.cell? ⟨w.heap.size, 0, none⟩ = some (.int .i64 1) := (cell_of_row _ _ _ _ _ _ ((HB7.out.block w.heap.size (by omega)).trans HX.out)).trans rfl; obtain ⟨A7, n7, c7, rfl⟩ := HO7.out.sl3))
  all_goals
    have HK := Lib.hid ((HB7.out.block B (by omega)).trans HB.out)
    have HR : Hid ((w7.setCell ⟨B, 1, none⟩ (.slice A7 n7 c7)).heap[B]? = some (bkO (.slice A7 n7 c7))) := Lib.hid (by have h := heap_setCell_at (i := 1) (u := .slice A7 n7 c7) HK.out; exact h)
    have HKK := Lib.hid ((KK.refl [B] w7).set (b := B) (by simp) 1 (.slice A7 n7 c7))
    have HO := Lib.hid (HO7.out.kk (m := [B]) HKK.out (by simp; omega))
    have HBn := Lib.hid (((KK.of_below (l := [B]) HL.out).trans (KK.of_below HB7.out)).trans HKK.out)
    refine bodyPost_ret (v := .tuple #[]) (by simp [results, Try.results128, go_sem]) rfl ?_
    exact ⟨rfl, .slice A7 n7 c7, HO.out.mono (by omega), HR.out, HBn.out⟩
end Go.Proofs.Ytbjngbacnkmjhaa
namespace Go.Proofs.Ytbjngbacnkmjhaa
open Go.RowKit Vi

set_option maxRecDepth 100000 in
theorem fparts0 (p : Value) (x : ByteArray) (a b : Int) (w : World) : Calls Try.prog 129 #[p, .string x, .int .i64 a, .slice none 0 0, .int .i64 b, .slice none 0 0] w fun e w' => e = .returned (.tuple #[]) ∧ w = w' := by
  go_enter Try.func129, Try.ntmps129
  go_wp2_with fail
  go_loop [20] (fun i => i = .int .i64 0) (fun _ => 0)
  case atStart => rfl
  case round =>
    subst hrel
    go_wp2_with fail
    go_loop [33] (fun i => i = .int .i64 0) (fun _ => 0)
    case atStart => rfl
    case round =>
      subst hrel
      go_wp2_with fail
      exact ⟨rfl, .tuple #[], by simp [results, go_sem], rfl, rfl⟩
end Go.Proofs.Ytbjngbacnkmjhaa
namespace Go.Proofs.Ytbjngbacnkmjhaa
open Go.RowKit Vi

def RetOne (w : World) (e : Ending) (w' : World) : Prop := ∃ b off c, e = .returned (.slice (some ⟨b, off, none⟩) 1 c) ∧ RdX fcC 4 w' (some ⟨b, off, none⟩) 1 [f1] ∧ Below w.heap.size w w'
theorem RetF0.one {W w : World} {e : Ending} {w' : World} (h : RetF0 W [f1] e w') (hb : Below w.heap.size w W) : RetOne w e w' := by
  obtain ⟨v, rfl, hox, hb2⟩ := h
  obtain ⟨A, c, rfl, hrd, _, _⟩ := hox.rd fcC_len
  obtain ⟨b, off, rfl, _, _⟩ := hrd.2 (by decide)
  exact ⟨b, off, c, rfl, hrd, hb.trans (hb2.mono hb.size)⟩
def OfR (B : Nat) (V : World) (i : Value) (wr : World) : Prop := Below B V wr ∧ V.heap.size ≤ wr.heap.size ∧ (i = .int .i64 0 ∧ wr.heap[B]? = some (bkO (.slice none 0 0)) ∨ i = .int .i64 1 ∧ ∃ A c, RdX fcC 4 wr A 1 [f1] ∧ wr.heap[B]? = some (bkO (.slice A 1 c)))
theorem bk_row {W : World} {B c : Nat} {A : Option Addr} (h : W.heap[B]? = some (bkO (.slice A 1 c))) : RdX slFC 1 W (some ⟨B, 0, none⟩) 7 [⟨none, 0, 0, []⟩, ⟨A, 1, c, [f1]⟩, ⟨none, 0, 0, []⟩, ⟨none, 0, 0, []⟩, ⟨none, 0, 0, []⟩, ⟨none, 0, 0, []⟩, ⟨none, 0, 0, []⟩] :=
  rd_blk (f := slFC) (s := 1) (fun _ => rfl) _ h rfl
set_option maxRecDepth 100000 in
set_option maxHeartbeats 2000000 in
theorem fof1 (N : Nat) (w : World) (T : TypeId) (fr : Nat × Nat) (h : w.heap[N]? = some (.cells #[.string ⟨#[97]⟩, .slice none 0 0, .slice none 0 0] T fr)) :
    Calls Try.prog 44 #[.agg #[.slice (some ⟨N, 0, none⟩) 1 1, .slice none 0 0]] w (RetOne w) := by
  have HN := Lib.hid h
  clear h
  have HB1 := Lib.hid (Below.refl w.heap.size w)
  go_enter Try.func44, Try.ntmps44
  have HF2 := Lib.hid (blk_new w (.cells #[.slice (some ⟨N, 0, none⟩) 1 1, .slice none 0 0] 65 (0, 0)))
  have HB3 := Lib.hid (HB1.out.alloc HB1.out.size (.cells #[.slice (some ⟨N, 0, none⟩) 1 1, .slice none 0 0] 65 (0, 0)))
  clear HB1
  have HNA := Lib.hid (blk_alloc HN.out (.cells #[.slice (some ⟨N, 0, none⟩) 1 1, .slice none 0 0] 65 (0, 0)))
  have hc4 : (w.alloc (.cells #[.slice (some ⟨N, 0, none⟩) 1 1, .slice none 0 0] 65 (0, 0))).cell? ⟨w.heap.size, 0, none⟩ = some (.slice (some ⟨N, 0, none⟩) 1 1) := by rw [cell_of_row _ _ _ _ _ _ HF2.out]; rfl
  have hc5 : (w.alloc (.cells #[.slice (some ⟨N, 0, none⟩) 1 1, .slice none 0 0] 65 (0, 0))).cell? ⟨w.heap.size, 1, none⟩ = some (.slice none 0 0) := by rw [cell_of_row _ _ _ _ _ _ HF2.out]; rfl
  go_wp2_with fail
  refine (gcheck1 N (w.alloc (.cells #[.slice (some ⟨N, 0, none⟩) 1 1, .slice none 0 0] 65 (0, 0))) T fr HNA.out).mono ?_
  rintro e w1 ⟨rfl, hb1⟩
  clear hc4 hc5
  have HF6 := Lib.hid (blk_below HF2.out hb1)
  have HB7 := Lib.hid (HB3.out.trans (hb1.mono HB3.out.size))
  have HNB := Lib.hid (blk_below HNA.out hb1)
  clear hb1 HB3 HF2
  clear HNA HN
  go_upto_region 4 with (fail)
  have HNC := Lib.hid (blk_alloc HNB.out (bkO (.slice none 0 0)))
  have HF := Lib.hid (blk_alloc HF6.out (bkO (.slice none 0 0)))
  have HBK := Lib.hid (blk_new w1 (bkO (.slice none 0 0)))
  have HBB := Lib.hid (HB7.out.alloc HB7.out.size (bkO (.slice none 0 0)))
  have hp := lt_of_block HF6.out
  have hN := lt_of_block HNB.out
  have hw := HB7.out.size
  unfold bkO at HNC HF HBK HBB
  obtain ⟨V, hV⟩ : ∃ V, V = w1.alloc (.cells #[.slice none 0 0, .slice none 0 0, .slice none 0 0, .slice none 0 0, .slice none 0 0, .slice none 0 0, .slice none 0 0] 180 (0, 0)) := ⟨_, rfl⟩
  rw [← hV] at HNC HF HBK HBB
  try rw [← hV]
  obtain ⟨B, hB⟩ : ∃ B, B = w1.heap.size := ⟨_, rfl⟩
  rw [← hB] at HBK hp hN hw
  try rw [← hB]
  clear hV hB HNB HB7 HF6
  have c0 : V.cell? ⟨w.heap.size, 0, none⟩ = some (.slice (some ⟨N, 0, none⟩) 1 1) := by rw [cell_of_row _ _ _ _ _ _ HF.out]; rfl
  have c1 : V.cell? ⟨w.heap.size, 1, none⟩ = some (.slice none 0 0) := by rw [cell_of_row _ _ _ _ _ _ HF.out]; rfl
  go_wp2_with fail
  clear c0 c1
  go_loopw [14] (fun i wr => OfR B V i wr) (fun i _ => (1 - intOf i).toNat)
  case atStart => exact ⟨Below.refl _ _, Nat.le_refl _, Or.inl ⟨rfl, HBK.out⟩⟩
  case round =>
    obtain ⟨hb, hsz, ⟨rfl, hk⟩ | ⟨rfl, A, c, hrd, hk⟩⟩ := hrel
    · have HB := Lib.hid hb
      have HK := Lib.hid hk
      have HNr := Lib.hid ((hb.block N hN).trans HNC.out)
      clear hb hk
      have HB0 := Lib.hid (Below.refl wr.heap.size wr)
      have n0 : wr.cell? ⟨N, 0, none⟩ = some (.string ⟨#[97]⟩) := by rw [cell_of_row _ _ _ _ _ _ HNr.out]; rfl
      have n1 : wr.cell? ⟨N, 1, none⟩ = some (.slice none 0 0) := by rw [cell_of_row _ _ _ _ _ _ HNr.out]; rfl
      have n2 : wr.cell? ⟨N, 2, none⟩ = some (.slice none 0 0) := by rw [cell_of_row _ _ _ _ _ _ HNr.out]; rfl
      have HKA := Lib.hid (blk_alloc HK.out (.cells #[.string ⟨#[97]⟩, .slice none 0 0, .slice none 0 0] 81 (0, 0)))
      have HF101 := Lib.hid (blk_new wr (.cells #[.string ⟨#[97]⟩, .slice none 0 0, .slice none 0 0] 81 (0, 0)))
      have HB102 := Lib.hid (HB0.out.alloc HB0.out.size (.cells #[.string ⟨#[97]⟩, .slice none 0 0, .slice none 0 0] 81 (0, 0)))
      clear HB0
      have hc103 : (wr.alloc (.cells #[.string ⟨#[97]⟩, .slice none 0 0, .slice none 0 0] 81 (0, 0))).cell? ⟨wr.heap.size, 0, none⟩ = some (.string ⟨#[97]⟩) := by rw [cell_of_row _ _ _ _ _ _ HF101.out]; rfl
      have hc104 : (wr.alloc (.cells #[.string ⟨#[97]⟩, .slice none 0 0, .slice none 0 0] 81 (0, 0))).cell? ⟨wr.heap.size, 1, none⟩ = some (.slice none 0 0) := by rw [cell_of_row _ _ _ _ _ _ HF101.out]; rfl
      have hc105 : (wr.alloc (.cells #[.string ⟨#[97]⟩, .slice none 0 0, .slice none 0 0] 81 (0, 0))).cell? ⟨wr.heap.size, 2, none⟩ = some (.slice none 0 0) := by rw [cell_of_row _ _ _ _ _ _ HF101.out]; rfl
      go_wp2_with fail
      clear hc103 hc104 hc105
      clear n0 n1 n2
      have hBw := lt_of_block HK.out
      refine (fadd1 B _ HKA.out).mono ?_
      rintro e w2 ⟨rfl, v, hox, hk2, hkk⟩
      obtain ⟨A, c, rfl, hrd, _, _⟩ := hox.rd fcC_len
      have HRD := Lib.hid hrd
      have HK2 := Lib.hid hk2
      have hBn : ¬ wr.heap.size = B := by omega
      have HN2 := Lib.hid (hkk.blk HF101.out (by simpa using hBn))
      have HB2 := Lib.hid (hkk.below ((Below.refl wr.heap.size wr).alloc (Nat.le_refl _) (.cells #[.string ⟨#[97]⟩, .slice none 0 0, .slice none 0 0] 81 (0, 0)) |>.mono (Nat.le_of_lt hBw)) (by simp) (by have := hkk.size; simp <;> omega))
      have hz2 := hkk.size
      simp at hz2
      clear hkk hk2 hrd hox
      have d0 : w2.cell? ⟨wr.heap.size, 0, none⟩ = some (.string ⟨#[97]⟩) := by rw [cell_of_row _ _ _ _ _ _ HN2.out]; rfl
      have d1 : w2.cell? ⟨wr.heap.size, 1, none⟩ = some (.slice none 0 0) := by rw [cell_of_row _ _ _ _ _ _ HN2.out]; rfl
      have d2 : w2.cell? ⟨wr.heap.size, 2, none⟩ = some (.slice none 0 0) := by rw [cell_of_row _ _ _ _ _ _ HN2.out]; rfl
      go_wp2_with fail
      refine (fparts0 _ _ _ _ _).mono ?_
      rintro e w' ⟨rfl, rfl⟩
      clear d0 d1 d2
      go_wp2_with fail
      go_roundw
      case rel => exact ⟨HB.out.trans HB2.out, by omega, Or.inr ⟨rfl, A, c, HRD.out, HK2.out⟩⟩
      case measure => simp [intOf]
    · have HB := Lib.hid hb
      have HK := Lib.hid hk
      have HRD := Lib.hid hrd
      have HFr := Lib.hid ((hb.block w.heap.size hp).trans HF.out)
      clear hb hk hrd
      have d0 : wr.cell? ⟨w.heap.size, 0, none⟩ = some (.slice (some ⟨N, 0, none⟩) 1 1) := by rw [cell_of_row _ _ _ _ _ _ HFr.out]; rfl
      have d1 : wr.cell? ⟨w.heap.size, 1, none⟩ = some (.slice none 0 0) := by rw [cell_of_row _ _ _ _ _ _ HFr.out]; rfl
      go_wp2_with fail
      clear d0 d1
      go_loop [33] (fun i => i = .int .i64 0) (fun _ => 0)
      case atStart => rfl
      case round =>
        subst hrel
        go_wp2_with fail
        refine (fconcat_any B 0 7 7 _ wr (bk_row HK.out) ?_ (by omega) ?_).mono ?_
        · intro x hx
          simp at hx
          rcases hx with rfl | rfl | rfl | rfl | rfl | rfl | rfl
          all_goals first | exact RdX.nil | exact HRD.out
        · simp [totF]
        rintro e w9 hq
        have HQ := Lib.hid (RetF0.one (by simpa using hq) (HBB.out.trans (HB.out.mono hw)))
        obtain ⟨b, off, c9, rfl, hrd9, hb9⟩ := HQ.out
        have HR9 := Lib.hid hrd9
        have HB9 := Lib.hid hb9
        clear hrd9 hb9 hq HQ
        go_wp2_with fail
        go_ret
        exact ⟨b, off, c9, rfl, HR9.out, HB9.out⟩
end Go.Proofs.Ytbjngbacnkmjhaa

namespace Go.Proofs.Ytbjngbacnkmjhaa
open Go.RowKit Vi

set_option maxRecDepth 100000 in
set_option maxHeartbeats 1000000 in
theorem awake27 (w : World) : Calls Try.prog 43 #[] w fun e w' => e = .returned (.bool true) ∧ Below w.heap.size w w' := by
  have HN := Lib.hid (blk_new w (.cells #[.string ⟨#[97]⟩, .slice none 0 0, .slice none 0 0] 81 (0, 0)))
  have HB := Lib.hid ((Below.refl w.heap.size w).alloc (Nat.le_refl _) (.cells #[.string ⟨#[97]⟩, .slice none 0 0, .slice none 0 0] 81 (0, 0)))
  go_enter Try.func43, Try.ntmps43
  go_wp2_with fail
  refine (fof1 w.heap.size _ _ _ HN.out).mono ?_
  rintro e w1 ⟨b, off, c, rfl, hrd, hb⟩
  have HB1 := Lib.hid (HB.out.trans (hb.mono HB.out.size))
  have c0 : w1.cell? ⟨b, off, none⟩ = some (.int .i64 1) := by have h := hrd.cellAt (k := 0) (x := f1) rfl (by decide) 0 _ rfl; simpa using h
  have c1 : w1.cell? ⟨b, off + 1, none⟩ = some (.string ⟨#[97]⟩) := by have h := hrd.cellAt (k := 0) (x := f1) rfl (by decide) 1 _ rfl; simpa using h
  have c2 : w1.cell? ⟨b, off + 2, none⟩ = some (.string ⟨#[]⟩) := by have h := hrd.cellAt (k := 0) (x := f1) rfl (by decide) 2 _ rfl; simpa using h
  have c3 : w1.cell? ⟨b, off + 3, none⟩ = some (.string ⟨#[]⟩) := by have h := hrd.cellAt (k := 0) (x := f1) rfl (by decide) 3 _ rfl; simpa using h
  clear hrd hb
  go_wp2_with fail
  go_ret
  exact ⟨rfl, HB1.out⟩
end Go.Proofs.Ytbjngbacnkmjhaa

namespace Go.Proofs.Ytbjngbacnkmjhaa
open Go.RowKit Vi

def FewF (n : Nat) (w : World) (e : Ending) (w' : World) : Prop := ∃ b : Bool, e = .returned (.bool b) ∧ (b = true → n ≤ 120) ∧ Below w.heap.size w w'
end Go.Proofs.Ytbjngbacnkmjhaa
