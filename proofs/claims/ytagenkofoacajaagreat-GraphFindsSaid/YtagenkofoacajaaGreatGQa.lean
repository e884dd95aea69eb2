/- graph.Copy and what it asks, in one. Conditions: at most 1000 nodes, edges; at most 100,000 labels, properties in each. -/
import Derived.Test.YtagenkofoacajaaGreatOpc
import Derived.Test.YtagenkofoacajaaGreatPm
import Derived.Deep.DeepCutAuto
import Derived.Deep.RegionHeld3
import Derived.Deep.RegionWith
import Derived.Laws.OwnMore
import Derived.Laws.Rows
import Derived.Lib.AppendZerosOnto
namespace Go.Proofs.YtagenkofoacajaaGreat
open Go.RowKit Vi

theorem info_prB : (Tryz.prog.info? 92).map (fun i => (i.zero, i.size, i.bytes)) = some (some (.agg #[.string ⟨#[]⟩, .int .i64 0, .int .i64 0, .string ⟨#[]⟩]), 4, 48) := by kernel_rfl
def RetP0 (w : World) (L : List Pr) (e : Ending) (w' : World) : Prop := ∃ v, e = .returned v ∧ OwX prC 4 92 w' w.heap.size v L ∧ Below w.heap.size w w'
set_option maxRecDepth 100000 in
set_option maxHeartbeats 800000 in
theorem pclone_any (A : Option Addr) (n c : Nat) (ps : List Pr) (w : World) (h : RdX prC 4 w A n ps) (hn : n ≤ 100000) :
    Calls Tryz.prog 63 #[.slice A n c] w (RetP0 w ps) := by
  have q24 : ∀ (w : World) (a : Option Addr) (n c n' c' : Nat), (binOp .eql 30 (.slice a n c) (.slice none n' c')).run Tryz.prog w = .ok (.bool a.isNone) w := fun w a n c n' c' => Lib.run_eql_slice_nil w _ _ a n c n' c' Tryz.underlying30
  have H := Lib.hid h
  rcases A with _ | ad
  · have h0 : ps = [] := by
      rcases Nat.eq_zero_or_pos n with h0 | h0
      · exact List.length_eq_zero_iff.1 (by rw [h.1]; exact h0)
      · obtain ⟨b, off, e, _⟩ := h.2 h0
        cases e
    subst h0
    clear h
    go_enter Tryz.func63, Tryz.ntmps63
    go_wp2
    go_ret
    exact ⟨_, rfl, OwX.nil w, Below.refl _ _⟩
  · clear h
    go_enter Tryz.func63, Tryz.ntmps63
    go_wp2_with (at_builtin; refine wpList_appXs rfl _ _ 30 92 _ 48 rfl Tryz.underlying30 info_prB rfl (by omega) (by omega) prC_len prC_one w.heap.size w ((Below.refl _ w).alloc (Nat.le_refl _) _) (by simp) _ [] rfl (OwX.zero (blk_new w _) (Nat.le_refl _) (Nat.zero_le _) rfl) (some ad) n c ps rfl (H.out.below ((Below.refl _ w).alloc (Nat.le_refl _) _)) (by simp; omega) ?_)
    intro v1 w1 HO HB HZ HG
    have hv1 := HO.out.one
    go_wp2_with fail
    go_ret
    exact ⟨v1, rfl, HO.out, HB.out⟩
end Go.Proofs.YtagenkofoacajaaGreat
namespace Go.Proofs.YtagenkofoacajaaGreat
open Go.RowKit Vi

def RetS0 (w : World) (L : List ByteArray) (e : Ending) (w' : World) : Prop := ∃ v, e = .returned v ∧ OwX stC 1 9 w' w.heap.size v L ∧ Below w.heap.size w w'
theorem rd_sln {w : World} {A : Option Addr} {n : Nat} {l : List ByteArray} (h : SlN w A n l) : RdX stC 1 w A n l :=
  ⟨h.1, fun hn => by
    obtain ⟨b, off, e, hc⟩ := h.2 hn
    refine ⟨b, off, e, World.block_lt_of_cell? w _ (hc 0 (by have := h.1; omega)), fun k x j u hx hu => ?_⟩
    obtain ⟨hl, rfl⟩ := List.getElem?_eq_some_iff.1 hx
    have hj : j = 0 := by
      have := (List.getElem?_eq_some_iff.1 hu).1
      simp [stC] at this
      omega
    subst hj
    simp [stC] at hu
    subst hu
    rw [Nat.mul_one, Nat.add_zero]
    exact hc k hl⟩
set_option maxRecDepth 100000 in
set_option maxHeartbeats 800000 in
theorem sclone_own (A : Option Addr) (n c : Nat) (ss : List ByteArray) (w : World) (h : SlN w A n ss) (hn : n ≤ 100000) :
    Calls Tryz.prog 62 #[.slice A n c] w (RetS0 w ss) := by
  have q24 : ∀ (w : World) (a : Option Addr) (n c n' c' : Nat), (binOp .eql 29 (.slice a n c) (.slice none n' c')).run Tryz.prog w = .ok (.bool a.isNone) w := fun w a n c n' c' => Lib.run_eql_slice_nil w _ _ a n c n' c' Tryz.underlying29
  have H := Lib.hid (rd_sln h)
  rcases A with _ | ad
  · have h0 : ss = [] := by
      rcases Nat.eq_zero_or_pos n with h0 | h0
      · exact List.length_eq_zero_iff.1 (by rw [h.1]; exact h0)
      · obtain ⟨b, off, e, _⟩ := h.2 h0
        cases e
    subst h0
    clear h
    go_enter Tryz.func62, Tryz.ntmps62
    go_wp2
    go_ret
    exact ⟨_, rfl, OwX.nil w, Below.refl _ _⟩
  · clear h
    go_enter Tryz.func62, Tryz.ntmps62
    go_wp2_with (at_builtin; refine wpList_appXs rfl _ _ 29 9 _ 16 rfl Tryz.underlying29 info_stA rfl (by omega) (by omega) stC_len stC_one w.heap.size w ((Below.refl _ w).alloc (Nat.le_refl _) _) (by simp) _ [] rfl (OwX.zero (blk_new w _) (Nat.le_refl _) (Nat.zero_le _) rfl) (some ad) n c ss rfl (H.out.below ((Below.refl _ w).alloc (Nat.le_refl _) _)) (by simp; omega) ?_)
    intro v1 w1 HO HB HZ HG
    have hv1 := HO.out.one
    go_wp2_with fail
    go_ret
    exact ⟨v1, rfl, HO.out, HB.out⟩
end Go.Proofs.YtagenkofoacajaaGreat
namespace Go.Proofs.YtagenkofoacajaaGreat
open Go.RowKit Vi

set_option maxRecDepth 100000 in
set_option maxHeartbeats 8000000 in
theorem ownnode_any (i : ByteArray) (L1 : Option Addr) (n q1 : Nat) (M1 : Option Addr) (m r1 : Nat) (ss : List ByteArray) (ps : List Pr) (w : World) (h : LP w L1 n ss M1 m ps) (hn : n ≤ 100000) (hm : m ≤ 100000) :
    Calls Tryz.prog 32 #[.agg #[.string i, .slice L1 n q1, .slice M1 m r1]] w fun e w' => ∃ a b : SlA, e = .returned (.agg #[.string i, slV a, slV b]) ∧ PO w' a b ss ps ∧ Below w.heap.size w w' := by
  have H := Lib.hid h
  clear h
  have HB1 := Lib.hid (Below.refl w.heap.size w)
  go_enter Tryz.func32, Tryz.ntmps32
  have HF2 := Lib.hid (blk_new w (.cells #[.string i, .slice L1 n q1, .slice M1 m r1] 32 (0, 0)))
  have HB3 := Lib.hid (HB1.out.alloc HB1.out.size (.cells #[.string i, .slice L1 n q1, .slice M1 m r1] 32 (0, 0)))
  clear HB1
  have HF4 := Lib.hid (blk_alloc HF2.out (.cells #[.string ⟨#[]⟩, .slice none 0 0, .slice none 0 0] 32 (0, 0)))
  clear HF2
  have HF5 : Hid (((w.alloc (.cells #[.string i, .slice L1 n q1, .slice M1 m r1] 32 (0, 0))).alloc (.cells #[.string ⟨#[]⟩, .slice none 0 0, .slice none 0 0] 32 (0, 0))).heap[w.heap.size + 1]? = some (.cells #[.string ⟨#[]⟩, .slice none 0 0, .slice none 0 0] 32 (0, 0))) := Lib.hid (blk_newN (W := (w.alloc (.cells #[.string i, .slice L1 n q1, .slice M1 m r1] 32 (0, 0)))) (o := (.cells #[.string ⟨#[]⟩, .slice none 0 0, .slice none 0 0] 32 (0, 0))) (by simp))
  have HB6 := Lib.hid (HB3.out.alloc (by have := HB3.out.size; simp at this ⊢ <;> omega) (.cells #[.string ⟨#[]⟩, .slice none 0 0, .slice none 0 0] 32 (0, 0)))
  clear HB3
  go_upto_region 1 with (fail)
  obtain ⟨v, hv⟩ : ∃ v, v = ((w.alloc (.cells #[.string i, .slice L1 n q1, .slice M1 m r1] 32 (0, 0))).alloc (.cells #[.string ⟨#[]⟩, .slice none 0 0, .slice none 0 0] 32 (0, 0))) := ⟨_, rfl⟩
  have HX0 := Lib.hid (show v.heap[w.heap.size]? = some (.cells #[.string i, .slice L1 n q1, .slice M1 m r1] 32 (0, 0)) by rw [hv]; exact HF4.out)
  have HZ0 := Lib.hid (show v.heap[w.heap.size + 1]? = some (.cells #[.string ⟨#[]⟩, .slice none 0 0, .slice none 0 0] 32 (0, 0)) by rw [hv]; exact HF5.out)
  have HB0 := Lib.hid (show Below w.heap.size w v by rw [hv]; exact HB6.out)
  rw [← hv]
  clear hv HF4 HF5 HB6
  have HX0d : Hid (v.drew.heap[w.heap.size]? = some (.cells #[.string i, .slice L1 n q1, .slice M1 m r1] 32 (0, 0))) := Lib.hid HX0.out
  have HZ0d : Hid (v.drew.heap[w.heap.size + 1]? = some (.cells #[.string ⟨#[]⟩, .slice none 0 0, .slice none 0 0] 32 (0, 0))) := Lib.hid HZ0.out
  have hz0 : w.heap.size + 2 ≤ v.heap.size := lt_of_block HZ0.out
  have c1 : v.cell? ⟨w.heap.size, 1, none⟩ = some (.slice L1 n q1) := (cell_of_row _ _ _ _ _ _ HX0.out).trans rfl
  have c2 : v.cell? ⟨w.heap.size, 2, none⟩ = some (.slice M1 m r1) := (cell_of_row _ _ _ _ _ _ HX0.out).trans rfl
  go_region_with (first
    | (go_at_call 62; refine (sclone_own L1 n q1 ss _ (H.out.below HB0.out.drew).l hn).mono ?_; rintro e u1 ⟨vv1, rfl, ho1, hb1⟩; obtain ⟨a1, n1, k1, hve⟩ := ho1.sl3; subst hve; have HX1 := Lib.hid (blk_below HX0d.out hb1); have HZ1 := Lib.hid (blk_below HZ0d.out hb1); have HB1 := Lib.hid (HB0.out.drew.trans (hb1.mono HB0.out.size)); have hz1 : w.heap.size + 2 ≤ u1.heap.size := Nat.le_trans hz0 hb1.size; have HO1 := Lib.hid (ho1.mono (B' := w.heap.size + 2) hz0); have d1 : u1.cell? ⟨w.heap.size, 1, none⟩ = some (.slice L1 n q1) := (cell_of_row _ _ _ _ _ _ HX1.out).trans rfl; have d2 : u1.cell? ⟨w.heap.size, 2, none⟩ = some (.slice M1 m r1) := (cell_of_row _ _ _ _ _ _ HX1.out).trans rfl; clear ho1 hb1)
    | (go_at_call 63; refine (pclone_any M1 m r1 ps _ (H.out.below HB1.out).p hm).mono ?_; rintro e u2 ⟨vv2, rfl, ho2, hb2⟩; obtain ⟨a2, n2, k2, hve⟩ := ho2.sl3; subst hve; have HX2 := Lib.hid (blk_below HX1.out hb2); have HZ2 := Lib.hid (blk_below HZ1.out hb2); have HB2 := Lib.hid (HB1.out.trans (hb2.mono HB1.out.size)); have HO2 := Lib.hid (ho2.mono (B' := w.heap.size + 2) hz1); have HP1 := Lib.hid (HO1.out.kept hb2); have e1 : u2.cell? ⟨w.heap.size, 1, none⟩ = some (.slice L1 n q1) := (cell_of_row _ _ _ _ _ _ HX2.out).trans rfl; have e2 : u2.cell? ⟨w.heap.size, 2, none⟩ = some (.slice M1 m r1) := (cell_of_row _ _ _ _ _ _ HX2.out).trans rfl; have ez1 : u2.frozen? ⟨w.heap.size, 1, none⟩ = false := frozen_of_row _ _ _ _ _ HX2.out; have ez2 : u2.frozen? ⟨w.heap.size, 2, none⟩ = false := frozen_of_row _ _ _ _ _ HX2.out; clear ho2 hb2))
  all_goals
    obtain ⟨u3, hu⟩ : ∃ u3, u3 = (u2.setCell ⟨w.heap.size, 1, none⟩ (.slice a1 n1 k1)).setCell ⟨w.heap.size, 2, none⟩ (.slice a2 n2 k2) := ⟨_, rfl⟩
    have HX3 := Lib.hid (show u3.heap[w.heap.size]? = some (.cells #[.string i, .slice a1 n1 k1, .slice a2 n2 k2] 32 (0, 0)) by rw [hu]; have h := heap_setCell_at (i := 2) (u := .slice a2 n2 k2) (heap_setCell_at (i := 1) (u := .slice a1 n1 k1) HX2.out); exact h)
    have HZ3 := Lib.hid (show u3.heap[w.heap.size + 1]? = some (.cells #[.string ⟨#[]⟩, .slice none 0 0, .slice none 0 0] 32 (0, 0)) by rw [hu, Below.heap_setCell _ _ _ _ (by show w.heap.size + 1 ≠ w.heap.size; omega), Below.heap_setCell _ _ _ _ (by show w.heap.size + 1 ≠ w.heap.size; omega)]; exact HZ2.out)
    have HB3 := Lib.hid (show Below w.heap.size w u3 by rw [hu]; exact (HB2.out.setCell (p := ⟨w.heap.size, 1, none⟩) (Nat.le_refl _) (.slice a1 n1 k1)).setCell (p := ⟨w.heap.size, 2, none⟩) (Nat.le_refl _) (.slice a2 n2 k2))
    have HKK := Lib.hid (show KK [w.heap.size] u2 u3 by rw [hu]; exact ((KK.refl [w.heap.size] u2).set (b := w.heap.size) (by simp) 1 (.slice a1 n1 k1)).set (b := w.heap.size) (by simp) 2 (.slice a2 n2 k2))
    have HQ1 := Lib.hid (HP1.out.kk HKK.out (by simp))
    have HQ2 := Lib.hid (HO2.out.kk HKK.out (by simp))
    rw [← hu]
    clear hu HKK HP1 HO2 HX2 HZ2 HB2 HX1 HZ1 HB1 HO1 HX0 HZ0 HX0d HZ0d HB0 c1 c2 d1 d2 e1 e2 ez1 ez2
    have f0 : u3.cell? ⟨w.heap.size, 0, none⟩ = some (.string i) := (cell_of_row _ _ _ _ _ _ HX3.out).trans rfl
    have f1 : u3.cell? ⟨w.heap.size, 1, none⟩ = some (.slice a1 n1 k1) := (cell_of_row _ _ _ _ _ _ HX3.out).trans rfl
    have f2 : u3.cell? ⟨w.heap.size, 2, none⟩ = some (.slice a2 n2 k2) := (cell_of_row _ _ _ _ _ _ HX3.out).trans rfl
    have hone : (#[.string i, .slice a1 n1 k1, .slice a2 n2 k2] : Array Value).all (·.oneCell') = true := by simp [Value.oneCell']
    go_wp2_with (first
      | refine wpList_store_rowY rfl 32 (.tmp 2) (.tmp 11) rfl (w.heap.size + 1) #[.string i, .slice a1 n1 k1, .slice a2 n2 k2] rfl rfl 32 _ HZ3.out (by kernel_rfl) rfl hone (w.heap.size + 1) u3 (Below.refl _ _) (by omega) ?_)
    intro W9 hbk hoth hbel _
    have HKN := Lib.hid (show KK [w.heap.size + 1] u3 W9 from (KK.refl _ _).row (Or.inl (by simp)) hbel.out hoth.out)
    have HP1 := Lib.hid (HQ1.out.kk HKN.out (by simp))
    have HP2 := Lib.hid (HQ2.out.kk HKN.out (by simp))
    have HB9 := Lib.hid (HKN.out.below HB3.out (by simp) HB3.out.size)
    go_wp2_with fail
    refine bodyPost_ret (results_cY rfl _ _ (w.heap.size + 1) #[.string i, .slice a1 n1 k1, .slice a2 n2 k2] rfl (run_loadVar_row _ (w.heap.size + 1) 32 32 _ (0, 0) _ hbk.out Tryz.underlying32 rfl (by kernel_rfl))) rfl ?_
    exact ⟨⟨a1, n1, k1⟩, ⟨a2, n2, k2⟩, rfl, ⟨HP1.out.mono (Nat.zero_le _), HP2.out.mono (Nat.zero_le _)⟩, HB9.out⟩
set_option maxRecDepth 100000 in
set_option maxHeartbeats 8000000 in
theorem ownedge_any (i fr dst : ByteArray) (L1 : Option Addr) (n q1 : Nat) (M1 : Option Addr) (m r1 : Nat) (ss : List ByteArray) (ps : List Pr) (w : World) (h : LP w L1 n ss M1 m ps) (hn : n ≤ 100000) (hm : m ≤ 100000) :
    Calls Tryz.prog 34 #[.agg #[.string i, .string fr, .string dst, .slice L1 n q1, .slice M1 m r1]] w fun e w' => ∃ a b : SlA, e = .returned (.agg #[.string i, .string fr, .string dst, slV a, slV b]) ∧ PO w' a b ss ps ∧ Below w.heap.size w w' := by
  have H := Lib.hid h
  clear h
  have HB1 := Lib.hid (Below.refl w.heap.size w)
  go_enter Tryz.func34, Tryz.ntmps34
  have HF2 := Lib.hid (blk_new w (.cells #[.string i, .string fr, .string dst, .slice L1 n q1, .slice M1 m r1] 36 (0, 0)))
  have HB3 := Lib.hid (HB1.out.alloc HB1.out.size (.cells #[.string i, .string fr, .string dst, .slice L1 n q1, .slice M1 m r1] 36 (0, 0)))
  clear HB1
  have HF4 := Lib.hid (blk_alloc HF2.out (.cells #[.string ⟨#[]⟩, .string ⟨#[]⟩, .string ⟨#[]⟩, .slice none 0 0, .slice none 0 0] 36 (0, 0)))
  clear HF2
  have HF5 : Hid (((w.alloc (.cells #[.string i, .string fr, .string dst, .slice L1 n q1, .slice M1 m r1] 36 (0, 0))).alloc (.cells #[.string ⟨#[]⟩, .string ⟨#[]⟩, .string ⟨#[]⟩, .slice none 0 0, .slice none 0 0] 36 (0, 0))).heap[w.heap.size + 1]? = some (.cells #[.string ⟨#[]⟩, .string ⟨#[]⟩, .string ⟨#[]⟩, .slice none 0 0, .slice none 0 0] 36 (0, 0))) := Lib.hid (blk_newN (W := (w.alloc (.cells #[.string i, .string fr, .string dst, .slice L1 n q1, .slice M1 m r1] 36 (0, 0)))) (o := (.cells #[.string ⟨#[]⟩, .string ⟨#[]⟩, .string ⟨#[]⟩, .slice none 0 0, .slice none 0 0] 36 (0, 0))) (by simp))
  have HB6 := Lib.hid (HB3.out.alloc (by have := HB3.out.size; simp at this ⊢ <;> omega) (.cells #[.string ⟨#[]⟩, .string ⟨#[]⟩, .string ⟨#[]⟩, .slice none 0 0, .slice none 0 0] 36 (0, 0)))
  clear HB3
  go_upto_region 1 with (fail)
  obtain ⟨v, hv⟩ : ∃ v, v = ((w.alloc (.cells #[.string i, .string fr, .string dst, .slice L1 n q1, .slice M1 m r1] 36 (0, 0))).alloc (.cells #[.string ⟨#[]⟩, .string ⟨#[]⟩, .string ⟨#[]⟩, .slice none 0 0, .slice none 0 0] 36 (0, 0))) := ⟨_, rfl⟩
  have HX0 := Lib.hid (show v.heap[w.heap.size]? = some (.cells #[.string i, .string fr, .string dst, .slice L1 n q1, .slice M1 m r1] 36 (0, 0)) by rw [hv]; exact HF4.out)
  have HZ0 := Lib.hid (show v.heap[w.heap.size + 1]? = some (.cells #[.string ⟨#[]⟩, .string ⟨#[]⟩, .string ⟨#[]⟩, .slice none 0 0, .slice none 0 0] 36 (0, 0)) by rw [hv]; exact HF5.out)
  have HB0 := Lib.hid (show Below w.heap.size w v by rw [hv]; exact HB6.out)
  rw [← hv]
  clear hv HF4 HF5 HB6
  have HX0d : Hid (v.drew.heap[w.heap.size]? = some (.cells #[.string i, .string fr, .string dst, .slice L1 n q1, .slice M1 m r1] 36 (0, 0))) := Lib.hid HX0.out
  have HZ0d : Hid (v.drew.heap[w.heap.size + 1]? = some (.cells #[.string ⟨#[]⟩, .string ⟨#[]⟩, .string ⟨#[]⟩, .slice none 0 0, .slice none 0 0] 36 (0, 0))) := Lib.hid HZ0.out
  have hz0 : w.heap.size + 2 ≤ v.heap.size := lt_of_block HZ0.out
  have c3 : v.cell? ⟨w.heap.size, 3, none⟩ = some (.slice L1 n q1) := (cell_of_row _ _ _ _ _ _ HX0.out).trans rfl
  have c4 : v.cell? ⟨w.heap.size, 4, none⟩ = some (.slice M1 m r1) := (cell_of_row _ _ _ _ _ _ HX0.out).trans rfl
  go_region_with (first
    | (go_at_call 62; refine (sclone_own L1 n q1 ss _ (H.out.below HB0.out.drew).l hn).mono ?_; rintro e u1 ⟨vv1, rfl, ho1, hb1⟩; obtain ⟨a1, n1, k1, hve⟩ := ho1.sl3; subst hve; have HX1 := Lib.hid (blk_below HX0d.out hb1); have HZ1 := Lib.hid (blk_below HZ0d.out hb1); have HB1 := Lib.hid (HB0.out.drew.trans (hb1.mono HB0.out.size)); have hz1 : w.heap.size + 2 ≤ u1.heap.size := Nat.le_trans hz0 hb1.size; have HO1 := Lib.hid (ho1.mono (B' := w.heap.size + 2) hz0); have d3 : u1.cell? ⟨w.heap.size, 3, none⟩ = some (.slice L1 n q1) := (cell_of_row _ _ _ _ _ _ HX1.out).trans rfl; have d4 : u1.cell? ⟨w.heap.size, 4, none⟩ = some (.slice M1 m r1) := (cell_of_row _ _ _ _ _ _ HX1.out).trans rfl; clear ho1 hb1)
    | (go_at_call 63; refine (pclone_any M1 m r1 ps _ (H.out.below HB1.out).p hm).mono ?_; rintro e u2 ⟨vv2, rfl, ho2, hb2⟩; obtain ⟨a2, n2, k2, hve⟩ := ho2.sl3; subst hve; have HX2 := Lib.hid (blk_below HX1.out hb2); have HZ2 := Lib.hid (blk_below HZ1.out hb2); have HB2 := Lib.hid (HB1.out.trans (hb2.mono HB1.out.size)); have HO2 := Lib.hid (ho2.mono (B' := w.heap.size + 2) hz1); have HP1 := Lib.hid (HO1.out.kept hb2); have e3 : u2.cell? ⟨w.heap.size, 3, none⟩ = some (.slice L1 n q1) := (cell_of_row _ _ _ _ _ _ HX2.out).trans rfl; have e4 : u2.cell? ⟨w.heap.size, 4, none⟩ = some (.slice M1 m r1) := (cell_of_row _ _ _ _ _ _ HX2.out).trans rfl; have ez3 : u2.frozen? ⟨w.heap.size, 3, none⟩ = false := frozen_of_row _ _ _ _ _ HX2.out; have ez4 : u2.frozen? ⟨w.heap.size, 4, none⟩ = false := frozen_of_row _ _ _ _ _ HX2.out; clear ho2 hb2))
  all_goals
    obtain ⟨u3, hu⟩ : ∃ u3, u3 = (u2.setCell ⟨w.heap.size, 3, none⟩ (.slice a1 n1 k1)).setCell ⟨w.heap.size, 4, none⟩ (.slice a2 n2 k2) := ⟨_, rfl⟩
    have HX3 := Lib.hid (show u3.heap[w.heap.size]? = some (.cells #[.string i, .string fr, .string dst, .slice a1 n1 k1, .slice a2 n2 k2] 36 (0, 0)) by rw [hu]; have h := heap_setCell_at (i := 4) (u := .slice a2 n2 k2) (heap_setCell_at (i := 3) (u := .slice a1 n1 k1) HX2.out); exact h)
    have HZ3 := Lib.hid (show u3.heap[w.heap.size + 1]? = some (.cells #[.string ⟨#[]⟩, .string ⟨#[]⟩, .string ⟨#[]⟩, .slice none 0 0, .slice none 0 0] 36 (0, 0)) by rw [hu, Below.heap_setCell _ _ _ _ (by show w.heap.size + 1 ≠ w.heap.size; omega), Below.heap_setCell _ _ _ _ (by show w.heap.size + 1 ≠ w.heap.size; omega)]; exact HZ2.out)
    have HB3 := Lib.hid (show Below w.heap.size w u3 by rw [hu]; exact (HB2.out.setCell (p := ⟨w.heap.size, 3, none⟩) (Nat.le_refl _) (.slice a1 n1 k1)).setCell (p := ⟨w.heap.size, 4, none⟩) (Nat.le_refl _) (.slice a2 n2 k2))
    have HKK := Lib.hid (show KK [w.heap.size] u2 u3 by rw [hu]; exact ((KK.refl [w.heap.size] u2).set (b := w.heap.size) (by simp) 3 (.slice a1 n1 k1)).set (b := w.heap.size) (by simp) 4 (.slice a2 n2 k2))
    have HQ1 := Lib.hid (HP1.out.kk HKK.out (by simp))
    have HQ2 := Lib.hid (HO2.out.kk HKK.out (by simp))
    rw [← hu]
    clear hu HKK HP1 HO2 HX2 HZ2 HB2 HX1 HZ1 HB1 HO1 HX0 HZ0 HX0d HZ0d HB0 c3 c4 d3 d4 e3 e4 ez3 ez4
    have f0 : u3.cell? ⟨w.heap.size, 0, none⟩ = some (.string i) := (cell_of_row _ _ _ _ _ _ HX3.out).trans rfl
    have f1 : u3.cell? ⟨w.heap.size, 1, none⟩ = some (.string fr) := (cell_of_row _ _ _ _ _ _ HX3.out).trans rfl
    have f2 : u3.cell? ⟨w.heap.size, 2, none⟩ = some (.string dst) := (cell_of_row _ _ _ _ _ _ HX3.out).trans rfl
    have f3 : u3.cell? ⟨w.heap.size, 3, none⟩ = some (.slice a1 n1 k1) := (cell_of_row _ _ _ _ _ _ HX3.out).trans rfl
    have f4 : u3.cell? ⟨w.heap.size, 4, none⟩ = some (.slice a2 n2 k2) := (cell_of_row _ _ _ _ _ _ HX3.out).trans rfl
    have hone : (#[.string i, .string fr, .string dst, .slice a1 n1 k1, .slice a2 n2 k2] : Array Value).all (·.oneCell') = true := by simp [Value.oneCell']
    go_wp2_with (first
      | refine wpList_store_rowY rfl 36 (.tmp 2) (.tmp 11) rfl (w.heap.size + 1) #[.string i, .string fr, .string dst, .slice a1 n1 k1, .slice a2 n2 k2] rfl rfl 36 _ HZ3.out (by kernel_rfl) rfl hone (w.heap.size + 1) u3 (Below.refl _ _) (by omega) ?_)
    intro W9 hbk hoth hbel _
    have HKN := Lib.hid (show KK [w.heap.size + 1] u3 W9 from (KK.refl _ _).row (Or.inl (by simp)) hbel.out hoth.out)
    have HP1 := Lib.hid (HQ1.out.kk HKN.out (by simp))
    have HP2 := Lib.hid (HQ2.out.kk HKN.out (by simp))
    have HB9 := Lib.hid (HKN.out.below HB3.out (by simp) HB3.out.size)
    go_wp2_with fail
    refine bodyPost_ret (results_cY rfl _ _ (w.heap.size + 1) #[.string i, .string fr, .string dst, .slice a1 n1 k1, .slice a2 n2 k2] rfl (run_loadVar_row _ (w.heap.size + 1) 36 36 _ (0, 0) _ hbk.out Tryz.underlying36 rfl (by kernel_rfl))) rfl ?_
    exact ⟨⟨a1, n1, k1⟩, ⟨a2, n2, k2⟩, rfl, ⟨HP1.out.mono (Nat.zero_le _), HP2.out.mono (Nat.zero_le _)⟩, HB9.out⟩
end Go.Proofs.YtagenkofoacajaaGreat
namespace Go.Proofs.YtagenkofoacajaaGreat
open Go.RowKit Vi

theorem OwX.kkT {α : Type} {f : α → List Value} {s : Nat} {T : TypeId} {w W : World} {B g : Nat} {v : Value} {l : List α} {cs : Array Value} {T' : TypeId} {fr : Nat × Nat} (h : OwX f s T w B v l) (k : KK [g] w W) (hg : w.heap[g]? = some (.cells cs T' fr)) (hT : T ≠ T') : OwX f s T W B v l := by
  rcases h with ⟨h1, h | ⟨b, cap, cur, h2, h3, h4, h5⟩⟩
  · exact ⟨h1, .inl h⟩
  · exact ⟨h1, .inr ⟨b, cap, cur, h2, h3, k.blk h4 (fun e => by
      have e1 : b = g := by simpa using e
      subst e1
      rw [hg] at h4
      cases h4
      exact hT rfl), h5⟩⟩
theorem PO.kkT {w W : World} {g : Nat} {a b : SlA} {ss : List ByteArray} {ps : List Pr} {cs : Array Value} {T' : TypeId} {fr : Nat × Nat} (h : PO w a b ss ps) (k : KK [g] w W) (hg : w.heap[g]? = some (.cells cs T' fr)) (h1 : 9 ≠ T') (h2 : 92 ≠ T') : PO W a b ss ps := ⟨h.l.kkT k hg h1, h.p.kkT k hg h2⟩
theorem NdsOwn.kkT {w W : World} {g : Nat} {R : List NdR} {X : List Nd} {cs : Array Value} {T' : TypeId} {fr : Nat × Nat} (h : NdsOwn w R X) (k : KK [g] w W) (hg : w.heap[g]? = some (.cells cs T' fr)) (q1 : 9 ≠ T') (q2 : 92 ≠ T') : NdsOwn W R X :=
  ⟨h.len, fun i r x h1 h2 => ⟨(h.at' i r x h1 h2).1, (h.at' i r x h1 h2).2.kkT k hg q1 q2⟩⟩
theorem EdsOwn.kkT {w W : World} {g : Nat} {R : List EdR} {X : List Ed} {cs : Array Value} {T' : TypeId} {fr : Nat × Nat} (h : EdsOwn w R X) (k : KK [g] w W) (hg : w.heap[g]? = some (.cells cs T' fr)) (q1 : 9 ≠ T') (q2 : 92 ≠ T') : EdsOwn W R X :=
  ⟨h.len, fun i r x h1 h2 => ⟨(h.at' i r x h1 h2).1, (h.at' i r x h1 h2).2.1, (h.at' i r x h1 h2).2.2.1, (h.at' i r x h1 h2).2.2.2.kkT k hg q1 q2⟩⟩
set_option maxRecDepth 100000 in
theorem cpyesn_any (vs : Array Value) (w : World) : Calls Tryz.prog 109 #[.agg vs] w fun e w' => e = .returned (.bool true) ∧ Below w.heap.size w w' := by
  go_enter Tryz.func109, Tryz.ntmps109
  go_wp2_with fail
  go_ret
  exact ⟨rfl, (Below.refl _ w).alloc (Nat.le_refl _) _⟩
set_option maxRecDepth 100000 in
theorem cpyese_any (vs : Array Value) (w : World) : Calls Tryz.prog 110 #[.agg vs] w fun e w' => e = .returned (.bool true) ∧ Below w.heap.size w w' := by
  go_enter Tryz.func110, Tryz.ntmps110
  go_wp2_with fail
  go_ret
  exact ⟨rfl, (Below.refl _ w).alloc (Nat.le_refl _) _⟩
def Pickn (X : List Nd) (w : World) (e : Ending) (w' : World) : Prop := ∃ v R, e = .returned v ∧ OwX ndC 3 32 w' w.heap.size v R ∧ NdsOwn w' R X ∧ Below w.heap.size w w'
set_option maxRecDepth 100000 in
set_option maxHeartbeats 4000000 in
theorem pickn_any (A A2 : Option Addr) (n c n2 : Nat) (X : List Nd) (Y : List Ed) (w : World) (h : GrIs w A n A2 n2 X Y) (hn : n ≤ 1000) (hs : ∀ x ∈ X, x.2.1.length ≤ 100000 ∧ x.2.2.length ≤ 100000) :
    Calls Tryz.prog 40 #[.slice A n c, .func (.func 32) #[] #[], .func (.func 109) #[] #[]] w (Pickn X w) := by
  have H := Lib.hid h
  have HL := Lib.hid h.nl
  have HS := Lib.hid hs
  clear h hs
  go_enter Tryz.func40, Tryz.ntmps40
  go_wp2_with fail
  go_loopw [7, 12] (fun v i wr => ∃ (k : Nat) (R : List NdR), i = .int .i64 (k : Int) ∧ k ≤ n ∧ OwX ndC 3 32 wr w.heap.size v R ∧ NdsOwn wr R (X.take k) ∧ Below w.heap.size w wr) (fun _ i _ => n - (intOf i).toNat)
  case atStart => exact ⟨0, [], rfl, Nat.zero_le _, OwX.nil w, NdsOwn.nil w, Below.refl _ _⟩
  case round =>
    obtain ⟨k, R, rfl, hk, hox, hds, hb⟩ := hrel
    have HB := Lib.hid hb
    have HO := Lib.hid hox
    have HD := Lib.hid hds
    have hsz := hb.size
    obtain ⟨av, nv, cv, rfl⟩ := hox.sl3
    clear hb hox hds
    by_cases hlt : k < n
    · have hd1 : decide ((k : Int) < (n : Int)) = true := decide_eq_true (by omega)
      have hi0 : (0 : Int) ≤ (k : Int) := by omega
      have hkl : k < X.length := by have := HL.out.1; omega
      obtain ⟨x, hxx⟩ : ∃ x, x = X[k] := ⟨_, rfl⟩
      have HK := Lib.hid (show X[k]? = some x by rw [List.getElem?_eq_getElem hkl, hxx])
      have HTA := Lib.hid (show X.take (k + 1) = X.take k ++ [x] by rw [List.take_succ_eq_append_getElem hkl, hxx])
      have hsm := HS.out x (by rw [hxx]; exact List.getElem_mem hkl)
      clear hxx
      obtain ⟨b1, o1, L1, q1, r1, M1, rfl, x0, x1, x2, hp1⟩ := (H.out.below HB.out).node hlt HK.out
      obtain ⟨i, ss, ps⟩ := x
      dsimp only at x0 x1 x2 hp1 hsm
      have HC := Lib.hid (fun (W : World) (g1 : LP W L1 ss.length ss M1 ps.length ps) => ownnode_any i L1 ss.length q1 M1 ps.length r1 ss ps W g1 hsm.1 hsm.2)
      have HP1 := Lib.hid hp1
      clear hp1 hsm
      generalize ss.length = ns at *
      generalize ps.length = np at *
      have HB0 := Lib.hid (Below.refl wr.heap.size wr)
      have HF101 := Lib.hid (blk_new wr (.cells #[.string i, .slice L1 ns q1, .slice M1 np r1] 32 (0, 0)))
      have HB102 := Lib.hid (HB0.out.alloc HB0.out.size (.cells #[.string i, .slice L1 ns q1, .slice M1 np r1] 32 (0, 0)))
      clear HB0
      have hc103 : (wr.alloc (.cells #[.string i, .slice L1 ns q1, .slice M1 np r1] 32 (0, 0))).cell? ⟨wr.heap.size, 0, none⟩ = some (.string i) := by rw [cell_of_row _ _ _ _ _ _ HF101.out]; rfl
      have hc104 : (wr.alloc (.cells #[.string i, .slice L1 ns q1, .slice M1 np r1] 32 (0, 0))).cell? ⟨wr.heap.size, 1, none⟩ = some (.slice L1 ns q1) := by rw [cell_of_row _ _ _ _ _ _ HF101.out]; rfl
      have hc105 : (wr.alloc (.cells #[.string i, .slice L1 ns q1, .slice M1 np r1] 32 (0, 0))).cell? ⟨wr.heap.size, 2, none⟩ = some (.slice M1 np r1) := by rw [cell_of_row _ _ _ _ _ _ HF101.out]; rfl
      go_wp2_with fail
      clear hc103 hc104 hc105
      clear x0 x1 x2
      refine (cpyesn_any #[.string i, .slice L1 ns q1, .slice M1 np r1] (wr.alloc (.cells #[.string i, .slice L1 ns q1, .slice M1 np r1] 32 (0, 0)))).mono ?_
      rintro e w11 ⟨rfl, hb11⟩
      have HF106 := Lib.hid (blk_below HF101.out hb11)
      have HB107 := Lib.hid (HB102.out.trans (hb11.mono HB102.out.size))
      clear hb11 HB102 HF101
      have hc108 : w11.cell? ⟨wr.heap.size, 0, none⟩ = some (.string i) := by rw [cell_of_row _ _ _ _ _ _ HF106.out]; rfl
      have hc109 : w11.cell? ⟨wr.heap.size, 1, none⟩ = some (.slice L1 ns q1) := by rw [cell_of_row _ _ _ _ _ _ HF106.out]; rfl
      have hc110 : w11.cell? ⟨wr.heap.size, 2, none⟩ = some (.slice M1 np r1) := by rw [cell_of_row _ _ _ _ _ _ HF106.out]; rfl
      go_wp2_with fail
      clear hc108 hc109 hc110
      refine (HC.out w11 (HP1.out.below HB107.out)).mono ?_
      rintro e w12 ⟨⟨a1, a2, a3⟩, ⟨b1, b2, b3⟩, rfl, hpo, hb12⟩
      have HF111 := Lib.hid (blk_below HF106.out hb12)
      have HB112 := Lib.hid (HB107.out.trans (hb12.mono (by have := HB107.out.size; simp at this ⊢ <;> omega)))
      clear hb12 HB107 HF106
      have HPO := Lib.hid hpo
      clear hpo
      simp only [slV]
      have HO1 := Lib.hid (HO.out.kept HB112.out)
      have HD1 := Lib.hid (HD.out.below HB112.out)
      have HBa := Lib.hid (HB.out.trans (HB112.out.mono HB.out.size))
      have hz1 := HB112.out.size
      go_wp2_with (at_builtin; refine wpList_appX rfl (.tmp 19) (.tmp 23) 22 32 _ 64 rfl Tryz.underlying22 info_ndB rfl (by omega) (by omega) ndC_len ndC_one w.heap.size w (HBa.out.alloc HBa.out.size _) (by have := HBa.out.size; simp at this ⊢ <;> omega) (.slice av nv cv) R rfl (HO1.out.alloc _) w12.heap.size 1 (i, ⟨a1, a2, a3⟩, ⟨b1, b2, b3⟩) #[.string i, .slice a1 a2 a3, .slice b1 b2 b3] 32 (0, 0) rfl (heap_alloc_new w12 _) rfl (by rw [HD1.out.len, List.length_take]; omega) ?_)
      intro v2 w12 HO2 HB2 HZ2 HG2
      have hv2 := HO2.out.one
      have HDa := Lib.hid ((HD1.out.below ((Below.refl _ _).alloc (Nat.le_refl _) _)).other (HO1.out.alloc _) (by decide) (by decide) HG2.out)
      have HPa := Lib.hid ((HPO.out.below ((Below.refl _ _).alloc (Nat.le_refl _) _)).other (HO1.out.alloc _) (by decide) (by decide) HG2.out)
      go_wp2_with fail
      go_roundw
      case rel => exact ⟨k + 1, R ++ [(i, ⟨a1, a2, a3⟩, ⟨b1, b2, b3⟩)], by go_num, by omega, HO2.out, by rw [HTA.out]; exact HDa.out.snoc rfl HPa.out, HB2.out⟩
      case measure => simp [intOf] <;> omega
    · have hd1 : decide ((k : Int) < (n : Int)) = false := decide_eq_false (by omega)
      have HE := Lib.hid (show X.take k = X from List.take_of_length_le (by have := HL.out.1; omega))
      rw [HE.out] at HD
      go_wp2_with fail
      go_ret
      exact ⟨.slice av nv cv, R, rfl, HO.out, HD.out, HB.out⟩
def Picke (X : List Ed) (w : World) (e : Ending) (w' : World) : Prop := ∃ v R, e = .returned v ∧ OwX edC 5 36 w' w.heap.size v R ∧ EdsOwn w' R X ∧ Below w.heap.size w w'
set_option maxRecDepth 100000 in
set_option maxHeartbeats 4000000 in
theorem picke_any (A A2 : Option Addr) (n c2 n2 : Nat) (X : List Nd) (Y : List Ed) (w : World) (h : GrIs w A n A2 n2 X Y) (hn : n2 ≤ 1000) (hs : ∀ x ∈ Y, x.2.2.2.1.length ≤ 100000 ∧ x.2.2.2.2.length ≤ 100000) :
    Calls Tryz.prog 37 #[.slice A2 n2 c2, .func (.func 34) #[] #[], .func (.func 110) #[] #[]] w (Picke Y w) := by
  have H := Lib.hid h
  have HL := Lib.hid h.nl
  have HS := Lib.hid hs
  clear h hs
  go_enter Tryz.func37, Tryz.ntmps37
  go_wp2_with fail
  go_loopw [7, 12] (fun v i wr => ∃ (k : Nat) (R : List EdR), i = .int .i64 (k : Int) ∧ k ≤ n2 ∧ OwX edC 5 36 wr w.heap.size v R ∧ EdsOwn wr R (Y.take k) ∧ Below w.heap.size w wr) (fun _ i _ => n2 - (intOf i).toNat)
  case atStart => exact ⟨0, [], rfl, Nat.zero_le _, OwX.nil w, EdsOwn.nil w, Below.refl _ _⟩
  case round =>
    obtain ⟨k, R, rfl, hk, hox, hds, hb⟩ := hrel
    have HB := Lib.hid hb
    have HO := Lib.hid hox
    have HD := Lib.hid hds
    have hsz := hb.size
    obtain ⟨av, nv, cv, rfl⟩ := hox.sl3
    clear hb hox hds
    by_cases hlt : k < n2
    · have hd1 : decide ((k : Int) < (n2 : Int)) = true := decide_eq_true (by omega)
      have hi0 : (0 : Int) ≤ (k : Int) := by omega
      have hkl : k < Y.length := by have := HL.out.2; omega
      obtain ⟨x, hxx⟩ : ∃ x, x = Y[k] := ⟨_, rfl⟩
      have HK := Lib.hid (show Y[k]? = some x by rw [List.getElem?_eq_getElem hkl, hxx])
      have HTA := Lib.hid (show Y.take (k + 1) = Y.take k ++ [x] by rw [List.take_succ_eq_append_getElem hkl, hxx])
      have hsm := HS.out x (by rw [hxx]; exact List.getElem_mem hkl)
      clear hxx
      obtain ⟨b1, o1, L1, q1, r1, M1, rfl, x0, x1, x2, x3, x4, hp1⟩ := (H.out.below HB.out).edge hlt HK.out
      obtain ⟨i, f, g, ss, ps⟩ := x
      dsimp only at x0 x1 x2 x3 x4 hp1 hsm
      have HC := Lib.hid (fun (W : World) (g1 : LP W L1 ss.length ss M1 ps.length ps) => ownedge_any i f g L1 ss.length q1 M1 ps.length r1 ss ps W g1 hsm.1 hsm.2)
      have HP1 := Lib.hid hp1
      clear hp1 hsm
      generalize ss.length = ns at *
      generalize ps.length = np at *
      have HB0 := Lib.hid (Below.refl wr.heap.size wr)
      have HF101 := Lib.hid (blk_new wr (.cells #[.string i, .string f, .string g, .slice L1 ns q1, .slice M1 np r1] 36 (0, 0)))
      have HB102 := Lib.hid (HB0.out.alloc HB0.out.size (.cells #[.string i, .string f, .string g, .slice L1 ns q1, .slice M1 np r1] 36 (0, 0)))
      clear HB0
      have hc103 : (wr.alloc (.cells #[.string i, .string f, .string g, .slice L1 ns q1, .slice M1 np r1] 36 (0, 0))).cell? ⟨wr.heap.size, 0, none⟩ = some (.string i) := by rw [cell_of_row _ _ _ _ _ _ HF101.out]; rfl
      have hc104 : (wr.alloc (.cells #[.string i, .string f, .string g, .slice L1 ns q1, .slice M1 np r1] 36 (0, 0))).cell? ⟨wr.heap.size, 1, none⟩ = some (.string f) := by rw [cell_of_row _ _ _ _ _ _ HF101.out]; rfl
      have hc105 : (wr.alloc (.cells #[.string i, .string f, .string g, .slice L1 ns q1, .slice M1 np r1] 36 (0, 0))).cell? ⟨wr.heap.size, 2, none⟩ = some (.string g) := by rw [cell_of_row _ _ _ _ _ _ HF101.out]; rfl
      have hc106 : (wr.alloc (.cells #[.string i, .string f, .string g, .slice L1 ns q1, .slice M1 np r1] 36 (0, 0))).cell? ⟨wr.heap.size, 3, none⟩ = some (.slice L1 ns q1) := by rw [cell_of_row _ _ _ _ _ _ HF101.out]; rfl
      have hc107 : (wr.alloc (.cells #[.string i, .string f, .string g, .slice L1 ns q1, .slice M1 np r1] 36 (0, 0))).cell? ⟨wr.heap.size, 4, none⟩ = some (.slice M1 np r1) := by rw [cell_of_row _ _ _ _ _ _ HF101.out]; rfl
      go_wp2_with fail
      clear hc103 hc104 hc105 hc106 hc107
      clear x0 x1 x2 x3 x4
      refine (cpyese_any #[.string i, .string f, .string g, .slice L1 ns q1, .slice M1 np r1] (wr.alloc (.cells #[.string i, .string f, .string g, .slice L1 ns q1, .slice M1 np r1] 36 (0, 0)))).mono ?_
      rintro e w11 ⟨rfl, hb11⟩
      have HF108 := Lib.hid (blk_below HF101.out hb11)
      have HB109 := Lib.hid (HB102.out.trans (hb11.mono HB102.out.size))
      clear hb11 HB102 HF101
      have hc110 : w11.cell? ⟨wr.heap.size, 0, none⟩ = some (.string i) := by rw [cell_of_row _ _ _ _ _ _ HF108.out]; rfl
      have hc111 : w11.cell? ⟨wr.heap.size, 1, none⟩ = some (.string f) := by rw [cell_of_row _ _ _ _ _ _ HF108.out]; rfl
      have hc112 : w11.cell? ⟨wr.heap.size, 2, none⟩ = some (.string g) := by rw [cell_of_row _ _ _ _ _ _ HF108.out]; rfl
      have hc113 : w11.cell? ⟨wr.heap.size, 3, none⟩ = some (.slice L1 ns q1) := by rw [cell_of_row _ _ _ _ _ _ HF108.out]; rfl
      have hc114 : w11.cell? ⟨wr.heap.size, 4, none⟩ = some (.slice M1 np r1) := by rw [cell_of_row _ _ _ _ _ _ HF108.out]; rfl
      go_wp2_with fail
      clear hc110 hc111 hc112 hc113 hc114
      refine (HC.out w11 (HP1.out.below HB109.out)).mono ?_
      rintro e w12 ⟨⟨a1, a2, a3⟩, ⟨b1, b2, b3⟩, rfl, hpo, hb12⟩
      have HF115 := Lib.hid (blk_below HF108.out hb12)
      have HB116 := Lib.hid (HB109.out.trans (hb12.mono (by have := HB109.out.size; simp at this ⊢ <;> omega)))
      clear hb12 HB109 HF108
      have HPO := Lib.hid hpo
      clear hpo
      simp only [slV]
      have HO1 := Lib.hid (HO.out.kept HB116.out)
      have HD1 := Lib.hid (HD.out.below HB116.out)
      have HBa := Lib.hid (HB.out.trans (HB116.out.mono HB.out.size))
      have hz1 := HB116.out.size
      go_wp2_with (at_builtin; refine wpList_appX rfl (.tmp 19) (.tmp 23) 23 36 _ 96 rfl Tryz.underlying23 info_edB rfl (by omega) (by omega) edC_len edC_one w.heap.size w (HBa.out.alloc HBa.out.size _) (by have := HBa.out.size; simp at this ⊢ <;> omega) (.slice av nv cv) R rfl (HO1.out.alloc _) w12.heap.size 1 (i, f, g, ⟨a1, a2, a3⟩, ⟨b1, b2, b3⟩) #[.string i, .string f, .string g, .slice a1 a2 a3, .slice b1 b2 b3] 36 (0, 0) rfl (heap_alloc_new w12 _) rfl (by rw [HD1.out.len, List.length_take]; omega) ?_)
      intro v2 w12 HO2 HB2 HZ2 HG2
      have hv2 := HO2.out.one
      have HDa := Lib.hid ((HD1.out.below ((Below.refl _ _).alloc (Nat.le_refl _) _)).other (HO1.out.alloc _) (by decide) (by decide) HG2.out)
      have HPa := Lib.hid ((HPO.out.below ((Below.refl _ _).alloc (Nat.le_refl _) _)).other (HO1.out.alloc _) (by decide) (by decide) HG2.out)
      go_wp2_with fail
      go_roundw
      case rel => exact ⟨k + 1, R ++ [(i, f, g, ⟨a1, a2, a3⟩, ⟨b1, b2, b3⟩)], by go_num, by omega, HO2.out, by rw [HTA.out]; exact HDa.out.snoc rfl rfl rfl HPa.out, HB2.out⟩
      case measure => simp [intOf] <;> omega
    · have hd1 : decide ((k : Int) < (n2 : Int)) = false := decide_eq_false (by omega)
      have HE := Lib.hid (show Y.take k = Y from List.take_of_length_le (by have := HL.out.2; omega))
      rw [HE.out] at HD
      go_wp2_with fail
      go_ret
      exact ⟨.slice av nv cv, R, rfl, HO.out, HD.out, HB.out⟩
/-- what Copy makes: a graph of one's own that reads the same -/
def CopyP (X : List Nd) (Y : List Ed) (w : World) (e : Ending) (w' : World) : Prop := ∃ (B B2 : Option Addr) (d d2 : Nat), e = .returned (.agg #[.slice B X.length d, .slice B2 Y.length d2]) ∧ GrIs w' B X.length B2 Y.length X Y ∧ Below w.heap.size w w'
set_option maxRecDepth 100000 in
set_option maxHeartbeats 8000000 in
theorem gcopy_any (A A2 : Option Addr) (n c n2 c2 : Nat) (X : List Nd) (Y : List Ed) (w : World) (h : GrIs w A n A2 n2 X Y) (hn : n ≤ 1000) (hn2 : n2 ≤ 1000) (hs : ∀ x ∈ X, x.2.1.length ≤ 100000 ∧ x.2.2.length ≤ 100000) (hs2 : ∀ x ∈ Y, x.2.2.2.1.length ≤ 100000 ∧ x.2.2.2.2.length ≤ 100000) :
    Calls Tryz.prog 81 #[.agg #[.slice A n c, .slice A2 n2 c2]] w (CopyP X Y w) := by
  have H := Lib.hid h
  have HPN := Lib.hid (fun (W : World) (q : GrIs W A n A2 n2 X Y) => pickn_any A A2 n c n2 X Y W q hn hs)
  have HPE := Lib.hid (fun (W : World) (q : GrIs W A n A2 n2 X Y) => picke_any A A2 n c2 n2 X Y W q hn2 hs2)
  clear h hs hs2
  have HB1 := Lib.hid (Below.refl w.heap.size w)
  go_enter Tryz.func81, Tryz.ntmps81
  have HF2 := Lib.hid (blk_new w (.cells #[.slice A n c, .slice A2 n2 c2] 25 (0, 0)))
  have HB3 := Lib.hid (HB1.out.alloc HB1.out.size (.cells #[.slice A n c, .slice A2 n2 c2] 25 (0, 0)))
  clear HB1
  have HF4 := Lib.hid (blk_alloc HF2.out (.cells #[.slice none 0 0, .slice none 0 0] 25 (0, 0)))
  clear HF2
  have HF5 : Hid (((w.alloc (.cells #[.slice A n c, .slice A2 n2 c2] 25 (0, 0))).alloc (.cells #[.slice none 0 0, .slice none 0 0] 25 (0, 0))).heap[w.heap.size + 1]? = some (.cells #[.slice none 0 0, .slice none 0 0] 25 (0, 0))) := Lib.hid (blk_newN (W := (w.alloc (.cells #[.slice A n c, .slice A2 n2 c2] 25 (0, 0)))) (o := (.cells #[.slice none 0 0, .slice none 0 0] 25 (0, 0))) (by simp))
  have HB6 := Lib.hid (HB3.out.alloc (by have := HB3.out.size; simp at this ⊢ <;> omega) (.cells #[.slice none 0 0, .slice none 0 0] 25 (0, 0)))
  clear HB3
  go_upto_region 1 with (fail)
  obtain ⟨v, hv⟩ : ∃ v, v = ((w.alloc (.cells #[.slice A n c, .slice A2 n2 c2] 25 (0, 0))).alloc (.cells #[.slice none 0 0, .slice none 0 0] 25 (0, 0))) := ⟨_, rfl⟩
  have HX0 : Hid (v.drew.heap[w.heap.size]? = some (.cells #[.slice A n c, .slice A2 n2 c2] 25 (0, 0))) := Lib.hid (show v.heap[w.heap.size]? = _ by rw [hv]; exact HF4.out)
  have HZ0 : Hid (v.drew.heap[w.heap.size + 1]? = some (.cells #[.slice none 0 0, .slice none 0 0] 25 (0, 0))) := Lib.hid (show v.heap[w.heap.size + 1]? = _ by rw [hv]; exact HF5.out)
  have HB0 := Lib.hid (show Below w.heap.size w v by rw [hv]; exact HB6.out)
  rw [← hv]
  clear hv HF4 HF5 HB6
  have c0 : v.cell? ⟨w.heap.size, 0, none⟩ = some (.slice A n c) := (cell_of_row _ _ _ _ _ _ (show v.heap[w.heap.size]? = _ from HX0.out)).trans rfl
  have c1 : v.cell? ⟨w.heap.size, 1, none⟩ = some (.slice A2 n2 c2) := (cell_of_row _ _ _ _ _ _ (show v.heap[w.heap.size]? = _ from HX0.out)).trans rfl
  go_region_with (first
    | (go_at_call 40; refine (HPN.out _ (H.out.below HB0.out.drew)).mono ?_; rintro e u1 ⟨vv1, R1, rfl, ho1, hd1, hb1⟩; obtain ⟨a1, n1, k1, hve⟩ := ho1.sl3; subst hve; have HX1 := Lib.hid (blk_below HX0.out hb1); have HZ1 := Lib.hid (blk_below HZ0.out hb1); have HB1 := Lib.hid (HB0.out.drew.trans (hb1.mono HB0.out.size)); have HO1 := Lib.hid ho1; have HD1 := Lib.hid hd1; have k10 : u1.cell? ⟨w.heap.size, 0, none⟩ = some (.slice A n c) := (cell_of_row _ _ _ _ _ _ HX1.out).trans rfl; have k11 : u1.cell? ⟨w.heap.size, 1, none⟩ = some (.slice A2 n2 c2) := (cell_of_row _ _ _ _ _ _ HX1.out).trans rfl; clear hb1 ho1 hd1)
    | (go_at_call 37; refine (HPE.out _ (H.out.below HB1.out)).mono ?_; rintro e u2 ⟨vv2, R2, rfl, ho2, hd2, hb2⟩; obtain ⟨a2, n2', k2, hve⟩ := ho2.sl3; subst hve; have HX2 := Lib.hid (blk_below HX1.out hb2); have HZ2 := Lib.hid (blk_below HZ1.out hb2); have HB2 := Lib.hid (HB1.out.trans (hb2.mono HB1.out.size)); have HO2 := Lib.hid ho2; have HD2 := Lib.hid hd2; have HOa := Lib.hid (HO1.out.kept hb2); have HDa := Lib.hid (HD1.out.below hb2); have k20 : u2.cell? ⟨w.heap.size, 0, none⟩ = some (.slice A n c) := (cell_of_row _ _ _ _ _ _ HX2.out).trans rfl; have k21 : u2.cell? ⟨w.heap.size, 1, none⟩ = some (.slice A2 n2 c2) := (cell_of_row _ _ _ _ _ _ HX2.out).trans rfl; have z20 : u2.cell? ⟨w.heap.size + 1, 0, none⟩ = some (.slice none 0 0) := (cell_of_row _ _ _ _ _ _ HZ2.out).trans rfl; have z21 : u2.cell? ⟨w.heap.size + 1, 1, none⟩ = some (.slice none 0 0) := (cell_of_row _ _ _ _ _ _ HZ2.out).trans rfl; have f20 : u2.frozen? ⟨w.heap.size + 1, 0, none⟩ = false := frozen_of_row _ _ _ _ _ HZ2.out; have f21 : u2.frozen? ⟨w.heap.size + 1, 1, none⟩ = false := frozen_of_row _ _ _ _ _ HZ2.out; clear hb2 ho2 hd2))
  all_goals
    have hb9 := HB2.out.size
    have hs1 : w.heap.size + 1 < u2.heap.size := lt_of_block HZ2.out
    have HFZ : Hid (((u2.setCell ⟨w.heap.size + 1, 0, none⟩ (.slice a1 n1 k1)).setCell ⟨w.heap.size + 1, 1, none⟩ (.slice a2 n2' k2)).heap[w.heap.size + 1]? = some (.cells #[.slice a1 n1 k1, .slice a2 n2' k2] 25 (0, 0))) := Lib.hid (by have h := heap_setCell_at (i := 1) (u := .slice a2 n2' k2) (heap_setCell_at (i := 0) (u := .slice a1 n1 k1) HZ2.out); exact h)
    have HKK := Lib.hid (((KK.refl [w.heap.size + 1] u2).set (b := w.heap.size + 1) (by simp) 0 (.slice a1 n1 k1)).set (b := w.heap.size + 1) (by simp) 1 (.slice a2 n2' k2))
    have HZT := Lib.hid HZ2.out
    have HO5 := Lib.hid (HOa.out.kkT HKK.out HZT.out (by decide))
    have HO6 := Lib.hid (HO2.out.kkT HKK.out HZT.out (by decide))
    have HD5 := Lib.hid (HDa.out.kkT HKK.out HZT.out (by decide) (by decide))
    have HD6 := Lib.hid (HD2.out.kkT HKK.out HZT.out (by decide) (by decide))
    have HB5 := Lib.hid (HKK.out.below HB2.out (by simp) HB2.out.size)
    clear HKK HZT HOa HO1 HO2 HDa HD1 HD2 HB2 HB1 HB0 HX0 HX1 HX2 HZ0 HZ1 HZ2 HPN HPE H
    generalize ((u2.setCell ⟨w.heap.size + 1, 0, none⟩ (.slice a1 n1 k1)).setCell ⟨w.heap.size + 1, 1, none⟩ (.slice a2 n2' k2)) = u3 at *
    obtain ⟨A5, d5, he5, hr5, hc5, hm5⟩ := HO5.out.rd ndC_len
    obtain ⟨A6, d6, he6, hr6, hc6, hm6⟩ := HO6.out.rd edC_len
    have hl5 := HD5.out.len
    have hl6 := HD6.out.len
    rw [hl5] at he5 hr5
    rw [hl6] at he6 hr6
    cases he5
    cases he6
    go_wp2_with fail
    refine bodyPost_ret (results_cY rfl _ _ (w.heap.size + 1) #[.slice a1 X.length k1, .slice a2 Y.length k2] rfl (run_loadVar_row _ (w.heap.size + 1) 25 25 _ (0, 0) _ HFZ.out Tryz.underlying25 rfl (by kernel_rfl))) rfl ?_
    exact ⟨a1, a2, k1, k2, rfl, ⟨⟨_, hr5, HD5.out.is⟩, ⟨_, hr6, HD6.out.is⟩⟩, HB5.out⟩
end Go.Proofs.YtagenkofoacajaaGreat
