/- facts.Of of a graph of one node; the chapter's example of layer 27; the document's Few. Condition: slices that are no longer than a slice may be. -/
import Derived.Test.YtjnichiblljmjaaIh
import Derived.Deep.DeepCutAuto
import Derived.Test.YtjnichiblljmjaaIb
import Derived.IntWalk
namespace Go.Proofs.Ytjnichiblljmjaa
open Go.RowKit Vi

def RetOne (w : World) (e : Ending) (w' : World) : Prop := ∃ b off c, e = .returned (.slice (some ⟨b, off, none⟩) 1 c) ∧ RdX fcC 4 w' (some ⟨b, off, none⟩) 1 [f1] ∧ Below w.heap.size w w'
theorem RetF0.one {W w : World} {e : Ending} {w' : World} (h : RetF0 W [f1] e w') (hb : Below w.heap.size w W) : RetOne w e w' := by
  obtain ⟨v, rfl, hox, hb2⟩ := h
  obtain ⟨A, c, rfl, hrd, _, _⟩ := hox.rd fcC_len
  obtain ⟨b, off, rfl, _, _⟩ := hrd.2 (by decide)
  exact ⟨b, off, c, rfl, hrd, hb.trans (hb2.mono hb.size)⟩
def OfR (B : Nat) (V : World) (i : Value) (wr : World) : Prop := Below B V wr ∧ V.heap.size ≤ wr.heap.size ∧ (i = .int .i64 0 ∧ wr.heap[B]? = some (bkO (.slice none 0 0)) ∨ i = .int .i64 1 ∧ ∃ A c, RdX fcC 4 wr A 1 [f1] ∧ wr.heap[B]? = some (bkO (.slice A 1 c)))
theorem bk_row {W : World} {B c : Nat} {A : Option Addr} (h : W.heap[B]? = some (bkO (.slice A 1 c))) : RdX slFC 1 W (some ⟨B, 0, none⟩) 7 [⟨none, 0, 0, []⟩, ⟨A, 1, c, [f1]⟩, ⟨none, 0, 0, []⟩, ⟨none, 0, 0, []⟩, ⟨none, 0, 0, []⟩, ⟨none, 0, 0, []⟩, ⟨none, 0, 0, []⟩] :=
  rd_blk (f := slFC) (s := 1) (fun _ => rfl) _ h rfl
set_option maxRecDepth 100000 in
set_option maxHeartbeats 2000000 in
theorem fof1 (N : Nat) (w : World) (T : TypeId) (fr : Nat × Nat) (h : w.heap[N]? = some (.cells #[.string ⟨#[97]⟩, .slice none 0 0, .slice none 0 0] T fr)) :
    Calls Try.prog 42 #[.agg #[.slice (some ⟨N, 0, none⟩) 1 1, .slice none 0 0]] w (RetOne w) := by
  have HN := Lib.hid h
  clear h
  have HB1 := Lib.hid (Below.refl w.heap.size w)
  go_enter Try.func42, Try.ntmps42
  have HF2 := Lib.hid (blk_new w (.cells #[.slice (some ⟨N, 0, none⟩) 1 1, .slice none 0 0] 39 (0, 0)))
  have HB3 := Lib.hid (HB1.out.alloc HB1.out.size (.cells #[.slice (some ⟨N, 0, none⟩) 1 1, .slice none 0 0] 39 (0, 0)))
  clear HB1
  have HNA := Lib.hid (blk_alloc HN.out (.cells #[.slice (some ⟨N, 0, none⟩) 1 1, .slice none 0 0] 39 (0, 0)))
  have hc4 : (w.alloc (.cells #[.slice (some ⟨N, 0, none⟩) 1 1, .slice none 0 0] 39 (0, 0))).cell? ⟨w.heap.size, 0, none⟩ = some (.slice (some ⟨N, 0, none⟩) 1 1) := by rw [cell_of_row _ _ _ _ _ _ HF2.out]; rfl
  have hc5 : (w.alloc (.cells #[.slice (some ⟨N, 0, none⟩) 1 1, .slice none 0 0] 39 (0, 0))).cell? ⟨w.heap.size, 1, none⟩ = some (.slice none 0 0) := by rw [cell_of_row _ _ _ _ _ _ HF2.out]; rfl
  go_wp2_with fail
  refine (gcheck1 N (w.alloc (.cells #[.slice (some ⟨N, 0, none⟩) 1 1, .slice none 0 0] 39 (0, 0))) T fr HNA.out).mono ?_
  rintro e w1 ⟨rfl, hb1⟩
  clear hc4 hc5
  have HF6 := Lib.hid (blk_below HF2.out hb1)
  have HB7 := Lib.hid (HB3.out.trans (hb1.mono HB3.out.size))
  have HNB := Lib.hid (blk_below HNA.out hb1)
  clear hb1 HB3 HF2
  clear HNA HN
  go_upto_region 4 with (fail)
  have HNC := Lib.hid (blk_alloc HNB.out (bkO (.slice none 0 0)))
  have HF := Lib.hid (blk_alloc HF6.out (bkO (.slice none 0 0)))
  have HBK := Lib.hid (blk_new w1 (bkO (.slice none 0 0)))
  have HBB := Lib.hid (HB7.out.alloc HB7.out.size (bkO (.slice none 0 0)))
  have hp := lt_of_block HF6.out
  have hN := lt_of_block HNB.out
  have hw := HB7.out.size
  unfold bkO at HNC HF HBK HBB
  obtain ⟨V, hV⟩ : ∃ V, V = w1.alloc (.cells #[.slice none 0 0, .slice none 0 0, .slice none 0 0, .slice none 0 0, .slice none 0 0, .slice none 0 0, .slice none 0 0] 133 (0, 0)) := ⟨_, rfl⟩
  rw [← hV] at HNC HF HBK HBB
  try rw [← hV]
  obtain ⟨B, hB⟩ : ∃ B, B = w1.heap.size := ⟨_, rfl⟩
  rw [← hB] at HBK hp hN hw
  try rw [← hB]
  clear hV hB HNB HB7 HF6
  have c0 : V.cell? ⟨w.heap.size, 0, none⟩ = some (.slice (some ⟨N, 0, none⟩) 1 1) := by rw [cell_of_row _ _ _ _ _ _ HF.out]; rfl
  have c1 : V.cell? ⟨w.heap.size, 1, none⟩ = some (.slice none 0 0) := by rw [cell_of_row _ _ _ _ _ _ HF.out]; rfl
  go_wp2_with fail
  clear c0 c1
  go_loopw [14] (fun i wr => OfR B V i wr) (fun i _ => (1 - intOf i).toNat)
  case atStart => exact ⟨Below.refl _ _, Nat.le_refl _, Or.inl ⟨rfl, HBK.out⟩⟩
  case round =>
    obtain ⟨hb, hsz, ⟨rfl, hk⟩ | ⟨rfl, A, c, hrd, hk⟩⟩ := hrel
    · have HB := Lib.hid hb
      have HK := Lib.hid hk
      have HNr := Lib.hid ((hb.block N hN).trans HNC.out)
      clear hb hk
      have HB0 := Lib.hid (Below.refl wr.heap.size wr)
      have n0 : wr.cell? ⟨N, 0, none⟩ = some (.string ⟨#[97]⟩) := by rw [cell_of_row _ _ _ _ _ _ HNr.out]; rfl
      have n1 : wr.cell? ⟨N, 1, none⟩ = some (.slice none 0 0) := by rw [cell_of_row _ _ _ _ _ _ HNr.out]; rfl
      have n2 : wr.cell? ⟨N, 2, none⟩ = some (.slice none 0 0) := by rw [cell_of_row _ _ _ _ _ _ HNr.out]; rfl
      have HKA := Lib.hid (blk_alloc HK.out (.cells #[.string ⟨#[97]⟩, .slice none 0 0, .slice none 0 0] 45 (0, 0)))
      have HF101 := Lib.hid (blk_new wr (.cells #[.string ⟨#[97]⟩, .slice none 0 0, .slice none 0 0] 45 (0, 0)))
      have HB102 := Lib.hid (HB0.out.alloc HB0.out.size (.cells #[.string ⟨#[97]⟩, .slice none 0 0, .slice none 0 0] 45 (0, 0)))
      clear HB0
      have hc103 : (wr.alloc (.cells #[.string ⟨#[97]⟩, .slice none 0 0, .slice none 0 0] 45 (0, 0))).cell? ⟨wr.heap.size, 0, none⟩ = some (.string ⟨#[97]⟩) := by rw [cell_of_row _ _ _ _ _ _ HF101.out]; rfl
      have hc104 : (wr.alloc (.cells #[.string ⟨#[97]⟩, .slice none 0 0, .slice none 0 0] 45 (0, 0))).cell? ⟨wr.heap.size, 1, none⟩ = some (.slice none 0 0) := by rw [cell_of_row _ _ _ _ _ _ HF101.out]; rfl
      have hc105 : (wr.alloc (.cells #[.string ⟨#[97]⟩, .slice none 0 0, .slice none 0 0] 45 (0, 0))).cell? ⟨wr.heap.size, 2, none⟩ = some (.slice none 0 0) := by rw [cell_of_row _ _ _ _ _ _ HF101.out]; rfl
      go_wp2_with fail
      clear hc103 hc104 hc105
      clear n0 n1 n2
      have hBw := lt_of_block HK.out
      refine (fadd1 B _ HKA.out).mono ?_
      rintro e w2 ⟨rfl, v, hox, hk2, hkk⟩
      obtain ⟨A, c, rfl, hrd, _, _⟩ := hox.rd fcC_len
      have HRD := Lib.hid hrd
      have HK2 := Lib.hid hk2
      have hBn : ¬ wr.heap.size = B := by omega
      have HN2 := Lib.hid (hkk.blk HF101.out (by simpa using hBn))
      have HB2 := Lib.hid (hkk.below ((Below.refl wr.heap.size wr).alloc (Nat.le_refl _) (.cells #[.string ⟨#[97]⟩, .slice none 0 0, .slice none 0 0] 45 (0, 0)) |>.mono (Nat.le_of_lt hBw)) (by simp) (by have := hkk.size; simp <;> omega))
      have hz2 := hkk.size
      simp at hz2
      clear hkk hk2 hrd hox
      have d0 : w2.cell? ⟨wr.heap.size, 0, none⟩ = some (.string ⟨#[97]⟩) := by rw [cell_of_row _ _ _ _ _ _ HN2.out]; rfl
      have d1 : w2.cell? ⟨wr.heap.size, 1, none⟩ = some (.slice none 0 0) := by rw [cell_of_row _ _ _ _ _ _ HN2.out]; rfl
      have d2 : w2.cell? ⟨wr.heap.size, 2, none⟩ = some (.slice none 0 0) := by rw [cell_of_row _ _ _ _ _ _ HN2.out]; rfl
      go_wp2_with fail
      refine (fparts0 _ _ _ _ _).mono ?_
      rintro e w' ⟨rfl, rfl⟩
      clear d0 d1 d2
      go_wp2_with fail
      go_roundw
      case rel => exact ⟨HB.out.trans HB2.out, by omega, Or.inr ⟨rfl, A, c, HRD.out, HK2.out⟩⟩
      case measure => simp [intOf]
    · have HB := Lib.hid hb
      have HK := Lib.hid hk
      have HRD := Lib.hid hrd
      have HFr := Lib.hid ((hb.block w.heap.size hp).trans HF.out)
      clear hb hk hrd
      have d0 : wr.cell? ⟨w.heap.size, 0, none⟩ = some (.slice (some ⟨N, 0, none⟩) 1 1) := by rw [cell_of_row _ _ _ _ _ _ HFr.out]; rfl
      have d1 : wr.cell? ⟨w.heap.size, 1, none⟩ = some (.slice none 0 0) := by rw [cell_of_row _ _ _ _ _ _ HFr.out]; rfl
      go_wp2_with fail
      clear d0 d1
      go_loop [33] (fun i => i = .int .i64 0) (fun _ => 0)
      case atStart => rfl
      case round =>
        subst hrel
        go_wp2_with fail
        refine (fconcat_any B 0 7 7 _ wr (bk_row HK.out) ?_ (by omega) ?_).mono ?_
        · intro x hx
          simp at hx
          rcases hx with rfl | rfl | rfl | rfl | rfl | rfl | rfl
          all_goals first | exact RdX.nil | exact HRD.out
        · simp [totF]
        rintro e w9 hq
        have HQ := Lib.hid (RetF0.one (by simpa using hq) (HBB.out.trans (HB.out.mono hw)))
        obtain ⟨b, off, c9, rfl, hrd9, hb9⟩ := HQ.out
        have HR9 := Lib.hid hrd9
        have HB9 := Lib.hid hb9
        clear hrd9 hb9 hq HQ
        go_wp2_with fail
        go_ret
        exact ⟨b, off, c9, rfl, HR9.out, HB9.out⟩
end Go.Proofs.Ytjnichiblljmjaa

namespace Go.Proofs.Ytjnichiblljmjaa
open Go.RowKit Vi

set_option maxRecDepth 100000 in
set_option maxHeartbeats 1000000 in
theorem awake27 (w : World) : Calls Try.prog 34 #[] w fun e w' => e = .returned (.bool true) ∧ Below w.heap.size w w' := by
  have HN := Lib.hid (blk_new w (.cells #[.string ⟨#[97]⟩, .slice none 0 0, .slice none 0 0] 45 (0, 0)))
  have HB := Lib.hid ((Below.refl w.heap.size w).alloc (Nat.le_refl _) (.cells #[.string ⟨#[97]⟩, .slice none 0 0, .slice none 0 0] 45 (0, 0)))
  go_enter Try.func34, Try.ntmps34
  go_wp2_with fail
  refine (fof1 w.heap.size _ _ _ HN.out).mono ?_
  rintro e w1 ⟨b, off, c, rfl, hrd, hb⟩
  have HB1 := Lib.hid (HB.out.trans (hb.mono HB.out.size))
  have c0 : w1.cell? ⟨b, off, none⟩ = some (.int .i64 1) := by have h := hrd.cellAt (k := 0) (x := f1) rfl (by decide) 0 _ rfl; simpa using h
  have c1 : w1.cell? ⟨b, off + 1, none⟩ = some (.string ⟨#[97]⟩) := by have h := hrd.cellAt (k := 0) (x := f1) rfl (by decide) 1 _ rfl; simpa using h
  have c2 : w1.cell? ⟨b, off + 2, none⟩ = some (.string ⟨#[]⟩) := by have h := hrd.cellAt (k := 0) (x := f1) rfl (by decide) 2 _ rfl; simpa using h
  have c3 : w1.cell? ⟨b, off + 3, none⟩ = some (.string ⟨#[]⟩) := by have h := hrd.cellAt (k := 0) (x := f1) rfl (by decide) 3 _ rfl; simpa using h
  clear hrd hb
  go_wp2_with fail
  go_ret
  exact ⟨rfl, HB1.out⟩
end Go.Proofs.Ytjnichiblljmjaa

namespace Go.Proofs.Ytjnichiblljmjaa
open Go.RowKit Vi

def FewF (n : Nat) (w : World) (e : Ending) (w' : World) : Prop := ∃ b : Bool, e = .returned (.bool b) ∧ (b = true → n ≤ 120) ∧ Below w.heap.size w w'
set_option maxRecDepth 100000 in
set_option maxHeartbeats 4000000 in
theorem few27_any (A : Option Addr) (n c : Nat) (l : List Fc) (w : World) (h : RdX fcC 4 w A n l) (hm : n ≤ maxLen) :
    Calls Try.prog 33 #[.slice A n c] w (FewF n w) := by
  have H := Lib.hid h
  unfold maxLen at hm
  clear h
  have HB1 := Lib.hid (Below.refl w.heap.size w)
  go_enter Try.func33, Try.ntmps33
  go_wp2_with fail
  go_loopw [3, 4] (fun s i wr => ∃ k m : Nat, s = .int .i64 (m : Int) ∧ i = .int .i64 (k : Int) ∧ k ≤ n ∧ k ≤ 121 ∧ m ≤ 15000 * k ∧ Below w.heap.size w wr) (fun _ i _ => n - (intOf i).toNat)
  case atStart => exact ⟨0, 0, rfl, rfl, Nat.zero_le _, by omega, by omega, HB1.out⟩
  case round =>
    obtain ⟨k, m, rfl, rfl, hk, hk1, hmm, hb⟩ := hrel
    have HB := Lib.hid hb
    clear hb
    by_cases hlt : k < n ∧ k ≤ 120
    · obtain ⟨hlt, h20⟩ := hlt
      have hd1 : decide ((k : Int) < (n : Int)) = true := decide_eq_true (by omega)
      have hd2 : decide ((k : Int) ≤ 120) = true := decide_eq_true (by omega)
      obtain ⟨b, off, hl, rfl, hbb, _⟩ := (H.out.below HB.out).at hlt
      obtain ⟨x, hx⟩ : ∃ x, l[k] = x := ⟨_, rfl⟩
      have HX := Lib.hid (show l[k]? = some x by rw [List.getElem?_eq_getElem hl, hx])
      obtain ⟨a, s, t, v⟩ := x
      have hi0 : (0 : Int) ≤ (k : Int) := by omega
      clear hx
      by_cases hs0 : (5000 : Int) < (s.size : Int)
      · by_cases hs1 : (5000 : Int) < (t.size : Int)
        · by_cases hs2 : (5000 : Int) < (v.size : Int)
          · have hw0 : IntKind.i64.wrap ((m : Int) + 5000) = (m : Int) + 5000 := IntWalk.i64_in _ (by omega)
            have hw1 : IntKind.i64.wrap (((m : Int) + 5000) + 5000) = ((m : Int) + 5000) + 5000 := IntWalk.i64_in _ (by omega)
            have hw2 : IntKind.i64.wrap ((((m : Int) + 5000) + 5000) + 5000) = (((m : Int) + 5000) + 5000) + 5000 := IntWalk.i64_in _ (by omega)
            have hc101 : wr.cell? ⟨b, off + k * 4 + 1, none⟩ = some (.string s) := (H.out.below HB.out).cellAt HX.out hlt 1 _ rfl
            have hc102 : wr.cell? ⟨b, off + k * 4 + 2, none⟩ = some (.string t) := (H.out.below HB.out).cellAt HX.out hlt 2 _ rfl
            have hc103 : wr.cell? ⟨b, off + k * 4 + 3, none⟩ = some (.string v) := (H.out.below HB.out).cellAt HX.out hlt 3 _ rfl
            go_wp2_with fail
            have hr104 := fun d os => cell_regrown hc101 d os
            have hr105 := fun d os => cell_regrown hc102 d os
            have hr106 := fun d os => cell_regrown hc103 d os
            refine wp_region_quiet_below (by kernel_rfl) (by kernel_rfl) ?_
            repeat (any_goals (first | go_big_quiet_step (fail) | quiet_step (fail) | (refine wpQuiet_step (fun K hK => ?_); go_simp; refine hK _ ?_; clear hK K)))
            refine wpQuiet_nil ?_
            intro w11 hw11
            have hb11 := below_anyY hw11
            clear hw11 hr104 hr105 hr106
            clear hc101 hc102 hc103
            have HB2 := Lib.hid (HB.out.trans (hb11.mono HB.out.size))
            clear hb11
            go_wp2_with fail
            go_roundw
            case rel => exact ⟨k + 1, m + 5000 + 5000 + 5000, by go_num, by go_num, by omega, by omega, by omega, HB2.out⟩
            case measure => simp [intOf] <;> omega
          · have hw0 : IntKind.i64.wrap ((m : Int) + 5000) = (m : Int) + 5000 := IntWalk.i64_in _ (by omega)
            have hw1 : IntKind.i64.wrap (((m : Int) + 5000) + 5000) = ((m : Int) + 5000) + 5000 := IntWalk.i64_in _ (by omega)
            have hw2 : IntKind.i64.wrap ((((m : Int) + 5000) + 5000) + (v.size : Int)) = (((m : Int) + 5000) + 5000) + (v.size : Int) := IntWalk.i64_in _ (by omega)
            have hc101 : wr.cell? ⟨b, off + k * 4 + 1, none⟩ = some (.string s) := (H.out.below HB.out).cellAt HX.out hlt 1 _ rfl
            have hc102 : wr.cell? ⟨b, off + k * 4 + 2, none⟩ = some (.string t) := (H.out.below HB.out).cellAt HX.out hlt 2 _ rfl
            have hc103 : wr.cell? ⟨b, off + k * 4 + 3, none⟩ = some (.string v) := (H.out.below HB.out).cellAt HX.out hlt 3 _ rfl
            go_wp2_with fail
            have hr104 := fun d os => cell_regrown hc101 d os
            have hr105 := fun d os => cell_regrown hc102 d os
            have hr106 := fun d os => cell_regrown hc103 d os
            refine wp_region_quiet_below (by kernel_rfl) (by kernel_rfl) ?_
            repeat (any_goals (first | go_big_quiet_step (fail) | quiet_step (fail) | (refine wpQuiet_step (fun K hK => ?_); go_simp; refine hK _ ?_; clear hK K)))
            refine wpQuiet_nil ?_
            intro w11 hw11
            have hb11 := below_anyY hw11
            clear hw11 hr104 hr105 hr106
            clear hc101 hc102 hc103
            have HB2 := Lib.hid (HB.out.trans (hb11.mono HB.out.size))
            clear hb11
            go_wp2_with fail
            go_roundw
            case rel => exact ⟨k + 1, m + 5000 + 5000 + v.size, by go_num, by go_num, by omega, by omega, by omega, HB2.out⟩
            case measure => simp [intOf] <;> omega
        · by_cases hs2 : (5000 : Int) < (v.size : Int)
          · have hw0 : IntKind.i64.wrap ((m : Int) + 5000) = (m : Int) + 5000 := IntWalk.i64_in _ (by omega)
            have hw1 : IntKind.i64.wrap (((m : Int) + 5000) + (t.size : Int)) = ((m : Int) + 5000) + (t.size : Int) := IntWalk.i64_in _ (by omega)
            have hw2 : IntKind.i64.wrap ((((m : Int) + 5000) + (t.size : Int)) + 5000) = (((m : Int) + 5000) + (t.size : Int)) + 5000 := IntWalk.i64_in _ (by omega)
            have hc101 : wr.cell? ⟨b, off + k * 4 + 1, none⟩ = some (.string s) := (H.out.below HB.out).cellAt HX.out hlt 1 _ rfl
            have hc102 : wr.cell? ⟨b, off + k * 4 + 2, none⟩ = some (.string t) := (H.out.below HB.out).cellAt HX.out hlt 2 _ rfl
            have hc103 : wr.cell? ⟨b, off + k * 4 + 3, none⟩ = some (.string v) := (H.out.below HB.out).cellAt HX.out hlt 3 _ rfl
            go_wp2_with fail
            have hr104 := fun d os => cell_regrown hc101 d os
            have hr105 := fun d os => cell_regrown hc102 d os
            have hr106 := fun d os => cell_regrown hc103 d os
            refine wp_region_quiet_below (by kernel_rfl) (by kernel_rfl) ?_
            repeat (any_goals (first | go_big_quiet_step (fail) | quiet_step (fail) | (refine wpQuiet_step (fun K hK => ?_); go_simp; refine hK _ ?_; clear hK K)))
            refine wpQuiet_nil ?_
            intro w11 hw11
            have hb11 := below_anyY hw11
            clear hw11 hr104 hr105 hr106
            clear hc101 hc102 hc103
            have HB2 := Lib.hid (HB.out.trans (hb11.mono HB.out.size))
            clear hb11
            go_wp2_with fail
            go_roundw
            case rel => exact ⟨k + 1, m + 5000 + t.size + 5000, by go_num, by go_num, by omega, by omega, by omega, HB2.out⟩
            case measure => simp [intOf] <;> omega
          · have hw0 : IntKind.i64.wrap ((m : Int) + 5000) = (m : Int) + 5000 := IntWalk.i64_in _ (by omega)
            have hw1 : IntKind.i64.wrap (((m : Int) + 5000) + (t.size : Int)) = ((m : Int) + 5000) + (t.size : Int) := IntWalk.i64_in _ (by omega)
            have hw2 : IntKind.i64.wrap ((((m : Int) + 5000) + (t.size : Int)) + (v.size : Int)) = (((m : Int) + 5000) + (t.size : Int)) + (v.size : Int) := IntWalk.i64_in _ (by omega)
            have hc101 : wr.cell? ⟨b, off + k * 4 + 1, none⟩ = some (.string s) := (H.out.below HB.out).cellAt HX.out hlt 1 _ rfl
            have hc102 : wr.cell? ⟨b, off + k * 4 + 2, none⟩ = some (.string t) := (H.out.below HB.out).cellAt HX.out hlt 2 _ rfl
            have hc103 : wr.cell? ⟨b, off + k * 4 + 3, none⟩ = some (.string v) := (H.out.below HB.out).cellAt HX.out hlt 3 _ rfl
            go_wp2_with fail
            have hr104 := fun d os => cell_regrown hc101 d os
            have hr105 := fun d os => cell_regrown hc102 d os
            have hr106 := fun d os => cell_regrown hc103 d os
            refine wp_region_quiet_below (by kernel_rfl) (by kernel_rfl) ?_
            repeat (any_goals (first | go_big_quiet_step (fail) | quiet_step (fail) | (refine wpQuiet_step (fun K hK => ?_); go_simp; refine hK _ ?_; clear hK K)))
            refine wpQuiet_nil ?_
            intro w11 hw11
            have hb11 := below_anyY hw11
            clear hw11 hr104 hr105 hr106
            clear hc101 hc102 hc103
            have HB2 := Lib.hid (HB.out.trans (hb11.mono HB.out.size))
            clear hb11
            go_wp2_with fail
            go_roundw
            case rel => exact ⟨k + 1, m + 5000 + t.size + v.size, by go_num, by go_num, by omega, by omega, by omega, HB2.out⟩
            case measure => simp [intOf] <;> omega
      · by_cases hs1 : (5000 : Int) < (t.size : Int)
        · by_cases hs2 : (5000 : Int) < (v.size : Int)
          · have hw0 : IntKind.i64.wrap ((m : Int) + (s.size : Int)) = (m : Int) + (s.size : Int) := IntWalk.i64_in _ (by omega)
            have hw1 : IntKind.i64.wrap (((m : Int) + (s.size : Int)) + 5000) = ((m : Int) + (s.size : Int)) + 5000 := IntWalk.i64_in _ (by omega)
            have hw2 : IntKind.i64.wrap ((((m : Int) + (s.size : Int)) + 5000) + 5000) = (((m : Int) + (s.size : Int)) + 5000) + 5000 := IntWalk.i64_in _ (by omega)
            have hc101 : wr.cell? ⟨b, off + k * 4 + 1, none⟩ = some (.string s) := (H.out.below HB.out).cellAt HX.out hlt 1 _ rfl
            have hc102 : wr.cell? ⟨b, off + k * 4 + 2, none⟩ = some (.string t) := (H.out.below HB.out).cellAt HX.out hlt 2 _ rfl
            have hc103 : wr.cell? ⟨b, off + k * 4 + 3, none⟩ = some (.string v) := (H.out.below HB.out).cellAt HX.out hlt 3 _ rfl
            go_wp2_with fail
            have hr104 := fun d os => cell_regrown hc101 d os
            have hr105 := fun d os => cell_regrown hc102 d os
            have hr106 := fun d os => cell_regrown hc103 d os
            refine wp_region_quiet_below (by kernel_rfl) (by kernel_rfl) ?_
            repeat (any_goals (first | go_big_quiet_step (fail) | quiet_step (fail) | (refine wpQuiet_step (fun K hK => ?_); go_simp; refine hK _ ?_; clear hK K)))
            refine wpQuiet_nil ?_
            intro w11 hw11
            have hb11 := below_anyY hw11
            clear hw11 hr104 hr105 hr106
            clear hc101 hc102 hc103
            have HB2 := Lib.hid (HB.out.trans (hb11.mono HB.out.size))
            clear hb11
            go_wp2_with fail
            go_roundw
            case rel => exact ⟨k + 1, m + s.size + 5000 + 5000, by go_num, by go_num, by omega, by omega, by omega, HB2.out⟩
            case measure => simp [intOf] <;> omega
          · have hw0 : IntKind.i64.wrap ((m : Int) + (s.size : Int)) = (m : Int) + (s.size : Int) := IntWalk.i64_in _ (by omega)
            have hw1 : IntKind.i64.wrap (((m : Int) + (s.size : Int)) + 5000) = ((m : Int) + (s.size : Int)) + 5000 := IntWalk.i64_in _ (by omega)
            have hw2 : IntKind.i64.wrap ((((m : Int) + (s.size : Int)) + 5000) + (v.size : Int)) = (((m : Int) + (s.size : Int)) + 5000) + (v.size : Int) := IntWalk.i64_in _ (by omega)
            have hc101 : wr.cell? ⟨b, off + k * 4 + 1, none⟩ = some (.string s) := (H.out.below HB.out).cellAt HX.out hlt 1 _ rfl
            have hc102 : wr.cell? ⟨b, off + k * 4 + 2, none⟩ = some (.string t) := (H.out.below HB.out).cellAt HX.out hlt 2 _ rfl
            have hc103 : wr.cell? ⟨b, off + k * 4 + 3, none⟩ = some (.string v) := (H.out.below HB.out).cellAt HX.out hlt 3 _ rfl
            go_wp2_with fail
            have hr104 := fun d os => cell_regrown hc101 d os
            have hr105 := fun d os => cell_regrown hc102 d os
            have hr106 := fun d os => cell_regrown hc103 d os
            refine wp_region_quiet_below (by kernel_rfl) (by kernel_rfl) ?_
            repeat (any_goals (first | go_big_quiet_step (fail) | quiet_step (fail) | (refine wpQuiet_step (fun K hK => ?_); go_simp; refine hK _ ?_; clear hK K)))
            refine wpQuiet_nil ?_
            intro w11 hw11
            have hb11 := below_anyY hw11
            clear hw11 hr104 hr105 hr106
            clear hc101 hc102 hc103
            have HB2 := Lib.hid (HB.out.trans (hb11.mono HB.out.size))
            clear hb11
            go_wp2_with fail
            go_roundw
            case rel => exact ⟨k + 1, m + s.size + 5000 + v.size, by go_num, by go_num, by omega, by omega, by omega, HB2.out⟩
            case measure => simp [intOf] <;> omega
        · by_cases hs2 : (5000 : Int) < (v.size : Int)
          · have hw0 : IntKind.i64.wrap ((m : Int) + (s.size : Int)) = (m : Int) + (s.size : Int) := IntWalk.i64_in _ (by omega)
            have hw1 : IntKind.i64.wrap (((m : Int) + (s.size : Int)) + (t.size : Int)) = ((m : Int) + (s.size : Int)) + (t.size : Int) := IntWalk.i64_in _ (by omega)
            have hw2 : IntKind.i64.wrap ((((m : Int) + (s.size : Int)) + (t.size : Int)) + 5000) = (((m : Int) + (s.size : Int)) + (t.size : Int)) + 5000 := IntWalk.i64_in _ (by omega)
            have hc101 : wr.cell? ⟨b, off + k * 4 + 1, none⟩ = some (.string s) := (H.out.below HB.out).cellAt HX.out hlt 1 _ rfl
            have hc102 : wr.cell? ⟨b, off + k * 4 + 2, none⟩ = some (.string t) := (H.out.below HB.out).cellAt HX.out hlt 2 _ rfl
            have hc103 : wr.cell? ⟨b, off + k * 4 + 3, none⟩ = some (.string v) := (H.out.below HB.out).cellAt HX.out hlt 3 _ rfl
            go_wp2_with fail
            have hr104 := fun d os => cell_regrown hc101 d os
            have hr105 := fun d os => cell_regrown hc102 d os
            have hr106 := fun d os => cell_regrown hc103 d os
            refine wp_region_quiet_below (by kernel_rfl) (by kernel_rfl) ?_
            repeat (any_goals (first | go_big_quiet_step (fail) | quiet_step (fail) | (refine wpQuiet_step (fun K hK => ?_); go_simp; refine hK _ ?_; clear hK K)))
            refine wpQuiet_nil ?_
            intro w11 hw11
            have hb11 := below_anyY hw11
            clear hw11 hr104 hr105 hr106
            clear hc101 hc102 hc103
            have HB2 := Lib.hid (HB.out.trans (hb11.mono HB.out.size))
            clear hb11
            go_wp2_with fail
            go_roundw
            case rel => exact ⟨k + 1, m + s.size + t.size + 5000, by go_num, by go_num, by omega, by omega, by omega, HB2.out⟩
            case measure => simp [intOf] <;> omega
          · have hw0 : IntKind.i64.wrap ((m : Int) + (s.size : Int)) = (m : Int) + (s.size : Int) := IntWalk.i64_in _ (by omega)
            have hw1 : IntKind.i64.wrap (((m : Int) + (s.size : Int)) + (t.size : Int)) = ((m : Int) + (s.size : Int)) + (t.size : Int) := IntWalk.i64_in _ (by omega)
            have hw2 : IntKind.i64.wrap ((((m : Int) + (s.size : Int)) + (t.size : Int)) + (v.size : Int)) = (((m : Int) + (s.size : Int)) + (t.size : Int)) + (v.size : Int) := IntWalk.i64_in _ (by omega)
            have hc101 : wr.cell? ⟨b, off + k * 4 + 1, none⟩ = some (.string s) := (H.out.below HB.out).cellAt HX.out hlt 1 _ rfl
            have hc102 : wr.cell? ⟨b, off + k * 4 + 2, none⟩ = some (.string t) := (H.out.below HB.out).cellAt HX.out hlt 2 _ rfl
            have hc103 : wr.cell? ⟨b, off + k * 4 + 3, none⟩ = some (.string v) := (H.out.below HB.out).cellAt HX.out hlt 3 _ rfl
            go_wp2_with fail
            have hr104 := fun d os => cell_regrown hc101 d os
            have hr105 := fun d os => cell_regrown hc102 d os
            have hr106 := fun d os => cell_regrown hc103 d os
            refine wp_region_quiet_below (by kernel_rfl) (by kernel_rfl) ?_
            repeat (any_goals (first | go_big_quiet_step (fail) | quiet_step (fail) | (refine wpQuiet_step (fun K hK => ?_); go_simp; refine hK _ ?_; clear hK K)))
            refine wpQuiet_nil ?_
            intro w11 hw11
            have hb11 := below_anyY hw11
            clear hw11 hr104 hr105 hr106
            clear hc101 hc102 hc103
            have HB2 := Lib.hid (HB.out.trans (hb11.mono HB.out.size))
            clear hb11
            go_wp2_with fail
            go_roundw
            case rel => exact ⟨k + 1, m + s.size + t.size + v.size, by go_num, by go_num, by omega, by omega, by omega, HB2.out⟩
            case measure => simp [intOf] <;> omega
    · have hd0 : (decide ((k : Int) < (n : Int)) = false) ∨ (decide ((k : Int) < (n : Int)) = true ∧ decide ((k : Int) ≤ 120) = false) := by
        by_cases h1 : k < n
        · exact Or.inr ⟨decide_eq_true (by omega), decide_eq_false (by omega)⟩
        · exact Or.inl (decide_eq_false (by omega))
      by_cases h2 : n ≤ 120
      · have d2 : decide ((n : Int) ≤ 120) = true := decide_eq_true (by omega)
        rcases hd0 with hd1 | ⟨hd1, hd2⟩
        all_goals
          go_wp2_with fail
          all_goals
            go_ret
            exact ⟨_, rfl, (fun _ => h2), HB.out⟩
      · have d2 : decide ((n : Int) ≤ 120) = false := decide_eq_false (by omega)
        rcases hd0 with hd1 | ⟨hd1, hd2⟩
        all_goals
          go_wp2_with fail
          all_goals
            go_ret
            exact ⟨_, rfl, (fun h => by cases h), HB.out⟩
end Go.Proofs.Ytjnichiblljmjaa
