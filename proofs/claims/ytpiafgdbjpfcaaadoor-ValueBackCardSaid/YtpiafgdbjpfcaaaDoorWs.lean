/- The contracts of value.Take and of the document's Read of layer 6 over this translation. Condition: texts of at most a million bytes. -/
import Derived.Test.YtpiafgdbjpfcaaaDoorWr
import Derived.Test.YtpiafgdbjpfcaaaDoorWe
namespace Go.Proofs.YtpiafgdbjpfcaaaDoor
open Go.RowKit Vi Hm

theorem info_sc3 (a b c : Value) : (Tryd.prog.info? 70).map (·.size) = some (#[a, b, c] : Array Value).size := by kernel_rfl
theorem one_sc3 (S : ByteArray) (x y : Int) : (#[.string S, .int .i64 x, .int .i64 y] : Array Value).all (·.oneCell') = true := by simp [Value.oneCell']
set_option maxHeartbeats 1000000 in
theorem set33 (W : World) (b c : Nat) (hbc : b ≠ c) (o0 o1 o2 x y z p0 p1 p2 u v t : Value) (hb : W.heap[b]? = some (.cells #[o0, o1, o2] 70 (0, 0))) (hc : W.heap[c]? = some (.cells #[p0, p1, p2] 24 (0, 0)))
    (w : World) (hB : Below w.heap.size w W) (h1 : w.heap.size ≤ b) (h2 : w.heap.size ≤ c) :
    ((((((W.setCell ⟨b, 0, none⟩ x).setCell ⟨b, 1, none⟩ y).setCell ⟨b, 2, none⟩ z).setCell ⟨c, 0, none⟩ u).setCell ⟨c, 1, none⟩ v).setCell ⟨c, 2, none⟩ t).drew.heap[b]? = some (.cells #[x, y, z] 70 (0, 0)) ∧
    ((((((W.setCell ⟨b, 0, none⟩ x).setCell ⟨b, 1, none⟩ y).setCell ⟨b, 2, none⟩ z).setCell ⟨c, 0, none⟩ u).setCell ⟨c, 1, none⟩ v).setCell ⟨c, 2, none⟩ t).drew.heap[c]? = some (.cells #[u, v, t] 24 (0, 0)) ∧
    Below w.heap.size w ((((((W.setCell ⟨b, 0, none⟩ x).setCell ⟨b, 1, none⟩ y).setCell ⟨b, 2, none⟩ z).setCell ⟨c, 0, none⟩ u).setCell ⟨c, 1, none⟩ v).setCell ⟨c, 2, none⟩ t).drew := by
  have a1 := heap_setCell_at (i := 0) (u := x) hb
  have a2 := heap_setCell_at (i := 1) (u := y) a1
  have a3 := heap_setCell_at (i := 2) (u := z) a2
  have far : ∀ (V : World) (i : Nat) (q : Value), (V.setCell ⟨c, i, none⟩ q).heap[b]? = V.heap[b]? := fun V i q => Below.heap_setCell _ _ _ _ hbc
  have far2 : ∀ (V : World) (i : Nat) (q : Value), (V.setCell ⟨b, i, none⟩ q).heap[c]? = V.heap[c]? := fun V i q => Below.heap_setCell _ _ _ _ (Ne.symm hbc)
  have hB3 := ((hB.setCell (p := ⟨b, 0, none⟩) h1 x).setCell (p := ⟨b, 1, none⟩) h1 y).setCell (p := ⟨b, 2, none⟩) h1 z
  have c0 : (((W.setCell ⟨b, 0, none⟩ x).setCell ⟨b, 1, none⟩ y).setCell ⟨b, 2, none⟩ z).heap[c]? = some (.cells #[p0, p1, p2] 24 (0, 0)) := (((far2 _ 2 z).trans (far2 _ 1 y)).trans (far2 _ 0 x)).trans hc
  have a3' : (((W.setCell ⟨b, 0, none⟩ x).setCell ⟨b, 1, none⟩ y).setCell ⟨b, 2, none⟩ z).heap[b]? = some (.cells #[x, y, z] 70 (0, 0)) := a3
  clear a1 a2 a3 hb hc hB
  generalize ((W.setCell ⟨b, 0, none⟩ x).setCell ⟨b, 1, none⟩ y).setCell ⟨b, 2, none⟩ z = W3 at a3' c0 hB3 ⊢
  have c1 := heap_setCell_at (i := 0) (u := u) c0
  have c2 := heap_setCell_at (i := 1) (u := v) c1
  have c3 := heap_setCell_at (i := 2) (u := t) c2
  have e1 := (((far (((W3.setCell ⟨c, 0, none⟩ u)).setCell ⟨c, 1, none⟩ v) 2 t).trans (far (W3.setCell ⟨c, 0, none⟩ u) 1 v)).trans (far W3 0 u)).trans a3'
  have hB4 := (((hB3.setCell (p := ⟨c, 0, none⟩) h2 u).setCell (p := ⟨c, 1, none⟩) h2 v).setCell (p := ⟨c, 2, none⟩) h2 t).drew
  exact ⟨e1, c3, hB4⟩
theorem rtextZ (S : ByteArray) (q : Nat) (er : Int) (v : ByteArray) (q' : Nat) (e' : Int) (w : World) (hS : S.size ≤ 1000000) (hq : q ≤ S.size) (h : Rd.text S q er 64 = (v, q', e')) :
    Calls Tryd.prog 59 #[.agg #[.string S, .int .i64 (q : Int), .int .i64 er], .int .i64 64] w fun e w' => e = .returned (.tuple #[.agg #[.string S, .int .i64 (q' : Int), .int .i64 e'], .string v]) ∧ Below w.heap.size w w' := by
  have h1 := rText_any S q er 64 w hS hq (by omega) (by omega)
  rw [h] at h1
  exact h1
/-- what Take answers -/
def tkE (S : ByteArray) : Int := Rd.fin S (rvM S 0 0).2.2.2.1 (rvE S 0 0)
def tkV (S : ByteArray) : Int × Int × ByteArray := if tkE S = 0 then rvV S 0 0 else (0, 0, ⟨#[]⟩)
set_option maxHeartbeats 2000000 in
set_option maxRecDepth 100000 in
theorem vtake_any (S : ByteArray) (w : World) (hS : S.size ≤ 1000000) :
    Calls Tryd.prog 11 #[.string S] w fun e w' => e = .returned (.tuple #[.agg (vvv (tkV S)), .int .i64 (tkE S)]) ∧ Below w.heap.size w w' := by
  have lq := rvM_le S 0 0 (Nat.zero_le _)
  have HR := Lib.hid (fun (W : World) (B : Nat) (h : Sc W B true S 0 0) => vread_any W B S 0 0 hS (Nat.zero_le _) h)
  have HE := Lib.hid (fun (W : World) (B : Nat) (h : Sc W B true S (rvM S 0 0).2.2.2.1 (rvE S 0 0)) => finU W B S _ _ hS lq h)
  obtain ⟨f, hf⟩ : ∃ f, f = tkE S := ⟨_, rfl⟩
  have hf2 : f = Rd.fin S (rvM S 0 0).2.2.2.1 (rvE S 0 0) := hf
  have HV : Hid (tkV S = if f = 0 then rvV S 0 0 else (0, 0, ⟨#[]⟩)) := by show tkV S = _; rw [hf]; rfl
  rw [← hf2] at HE
  rw [← hf]
  obtain ⟨k, n, t, hv⟩ : ∃ k n t, rvV S 0 0 = (k, n, t) := ⟨_, _, _, rfl⟩
  rw [hv] at HV HR
  unfold vvv at HR
  dsimp only at HR
  generalize (rvM S 0 0).2.2.2.1 = q at HR HE
  generalize rvE S 0 0 = e3 at HR HE
  clear hf hf2 hv lq
  by_cases hz : f = 0
  · subst hz
    have HW := Lib.hid (show tkV S = (k, n, t) by rw [HV.out]; rfl)
    clear HV
    go_enter Tryd.func11, Tryd.ntmps11
    go_wp2_with fail
    refine (new_any S _).mono ?_
    rintro e w1 ⟨rfl, hs1, hb1⟩
    have R1 := Lib.hid (blk_below (blk_new w (.cells #[.int .i64 0, .int .i64 0, .string ⟨#[]⟩] 24 (0, 0))) hb1)
    have hz1 : (w.alloc (.cells #[.int .i64 0, .int .i64 0, .string ⟨#[]⟩] 24 (0, 0))).heap.size = w.heap.size + 1 := by simp
    rw [hz1] at hs1 hb1
    have B1 := Lib.hid (((Below.refl _ w).alloc (Nat.le_refl _) _).trans (hb1.mono (by omega)))
    have H1 := Lib.hid hs1
    clear hz1 hs1 hb1
    go_wp2_with fail
    refine (HR.out w1 _ H1.out).mono ?_
    rintro e w2 ⟨rfl, hs2, hk2⟩
    have R2 := Lib.hid (blk_but R1.out hk2 (by omega))
    have B2 := Lib.hid (But.below B1.out hk2 (by omega) B1.out.size)
    have H2 := Lib.hid hs2
    clear hs2 hk2 R1 B1 H1
    go_wp2_with fail
    refine (HE.out (w2.alloc (.cells #[.int .i64 k, .int .i64 n, .string t] 24 (0, 0))) _ (H2.out.alloc _)).mono ?_
    rintro e w3 ⟨rfl, hs3, hk3⟩
    have hl2 := H2.out.lt
    have hg2 : w.heap.size < w2.heap.size := lt_of_block R2.out
    have G3 := Lib.hid (blk_but (blk_new w2 (.cells #[.int .i64 k, .int .i64 n, .string t] 24 (0, 0))) hk3 (by omega))
    have R3 := Lib.hid (blk_but (blk_alloc R2.out (.cells #[.int .i64 k, .int .i64 n, .string t] 24 (0, 0))) hk3 (by omega))
    have B3 := Lib.hid (But.below (B2.out.alloc B2.out.size (.cells #[.int .i64 k, .int .i64 n, .string t] 24 (0, 0))) hk3 (by omega) (by have := B2.out.size; simp; omega))
    clear hs3 hk3 R2 B2 H2
    go_wp2_with (first
      | refine wpList_load_row rfl 24 (.tmp 5) rfl w2.heap.size rfl 24 #[.int .i64 k, .int .i64 n, .string t] (0, 0) _ G3.out Tryd.underlying24 rfl (info_val _ _ _) ?_
      | refine wpList_store_rowY rfl 24 (.tmp 2) (.tmp 17) rfl w.heap.size #[.int .i64 k, .int .i64 n, .string t] rfl rfl 24 _ R3.out (info_val _ _ _) rfl (one_val _ _ _) w.heap.size w B3.out (Nat.le_refl _) ?_)
    intro W4 hb1 _ hbel _
    go_wp2_with fail
    refine bodyPost_ret (results_ctY rfl _ _ w.heap.size #[.int .i64 k, .int .i64 n, .string t] rfl (run_loadVar_row _ w.heap.size 24 24 _ (0, 0) _ hb1.out Tryd.underlying24 rfl (info_val _ _ _))) rfl ?_
    exact ⟨by rw [HW.out]; rfl, hbel.out⟩
  · have HW := Lib.hid (show tkV S = (0, 0, ⟨#[]⟩) by rw [HV.out, if_neg hz])
    have hn : (f != 0) = true := by simpa using hz
    have hn2 : (f == 0) = false := by simpa using hz
    clear hz
    clear HV
    go_enter Tryd.func11, Tryd.ntmps11
    go_wp2_with fail
    refine (new_any S _).mono ?_
    rintro e w1 ⟨rfl, hs1, hb1⟩
    have R1 := Lib.hid (blk_below (blk_new w (.cells #[.int .i64 0, .int .i64 0, .string ⟨#[]⟩] 24 (0, 0))) hb1)
    have hz1 : (w.alloc (.cells #[.int .i64 0, .int .i64 0, .string ⟨#[]⟩] 24 (0, 0))).heap.size = w.heap.size + 1 := by simp
    rw [hz1] at hs1 hb1
    have B1 := Lib.hid (((Below.refl _ w).alloc (Nat.le_refl _) _).trans (hb1.mono (by omega)))
    have H1 := Lib.hid hs1
    clear hz1 hs1 hb1
    go_wp2_with fail
    refine (HR.out w1 _ H1.out).mono ?_
    rintro e w2 ⟨rfl, hs2, hk2⟩
    have R2 := Lib.hid (blk_but R1.out hk2 (by omega))
    have B2 := Lib.hid (But.below B1.out hk2 (by omega) B1.out.size)
    have H2 := Lib.hid hs2
    clear hs2 hk2 R1 B1 H1
    go_wp2_with fail
    refine (HE.out (w2.alloc (.cells #[.int .i64 k, .int .i64 n, .string t] 24 (0, 0))) _ (H2.out.alloc _)).mono ?_
    rintro e w3 ⟨rfl, hs3, hk3⟩
    have hl2 := H2.out.lt
    have hg2 : w.heap.size < w2.heap.size := lt_of_block R2.out
    have G3 := Lib.hid (blk_but (blk_new w2 (.cells #[.int .i64 k, .int .i64 n, .string t] 24 (0, 0))) hk3 (by omega))
    have R3 := Lib.hid (blk_but (blk_alloc R2.out (.cells #[.int .i64 k, .int .i64 n, .string t] 24 (0, 0))) hk3 (by omega))
    have B3 := Lib.hid (But.below (B2.out.alloc B2.out.size (.cells #[.int .i64 k, .int .i64 n, .string t] 24 (0, 0))) hk3 (by omega) (by have := B2.out.size; simp; omega))
    clear hs3 hk3 R2 B2 H2
    go_wp2_with (refine wpList_store_rowY rfl 24 (.tmp 2) (.tmp 15) rfl w.heap.size #[.int .i64 0, .int .i64 0, .string ⟨#[]⟩] rfl rfl 24 _ R3.out (info_val _ _ _) rfl (one_val _ _ _) w.heap.size w B3.out (Nat.le_refl _) ?_)
    intro W4 hb1 _ hbel _
    go_wp2_with fail
    refine bodyPost_ret (results_ctY rfl _ _ w.heap.size #[.int .i64 0, .int .i64 0, .string ⟨#[]⟩] rfl (run_loadVar_row _ w.heap.size 24 24 _ (0, 0) _ hb1.out Tryd.underlying24 rfl (info_val _ _ _))) rfl ?_
    exact ⟨by rw [HW.out]; rfl, hbel.out⟩
end Go.Proofs.YtpiafgdbjpfcaaaDoor
