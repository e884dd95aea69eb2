/- The contracts of value.Take and of the document's Read of layer 6 over this translation. Condition: texts of at most a million bytes. -/
import Derived.Test.YtbjngbacnkmjhaaWr
import Derived.Test.YtbjngbacnkmjhaaWe
namespace Go.Proofs.Ytbjngbacnkmjhaa
open Go.RowKit Vi Hm

theorem info_sc3 (a b c : Value) : (Try.prog.info? 192).map (·.size) = some (#[a, b, c] : Array Value).size := by kernel_rfl
theorem one_sc3 (S : ByteArray) (x y : Int) : (#[.string S, .int .i64 x, .int .i64 y] : Array Value).all (·.oneCell') = true := by simp [Value.oneCell']
set_option maxHeartbeats 1000000 in
theorem set33 (W : World) (b c : Nat) (hbc : b ≠ c) (o0 o1 o2 x y z p0 p1 p2 u v t : Value) (hb : W.heap[b]? = some (.cells #[o0, o1, o2] 192 (0, 0))) (hc : W.heap[c]? = some (.cells #[p0, p1, p2] 158 (0, 0)))
    (w : World) (hB : Below w.heap.size w W) (h1 : w.heap.size ≤ b) (h2 : w.heap.size ≤ c) :
    ((((((W.setCell ⟨b, 0, none⟩ x).setCell ⟨b, 1, none⟩ y).setCell ⟨b, 2, none⟩ z).setCell ⟨c, 0, none⟩ u).setCell ⟨c, 1, none⟩ v).setCell ⟨c, 2, none⟩ t).drew.heap[b]? = some (.cells #[x, y, z] 192 (0, 0)) ∧
    ((((((W.setCell ⟨b, 0, none⟩ x).setCell ⟨b, 1, none⟩ y).setCell ⟨b, 2, none⟩ z).setCell ⟨c, 0, none⟩ u).setCell ⟨c, 1, none⟩ v).setCell ⟨c, 2, none⟩ t).drew.heap[c]? = some (.cells #[u, v, t] 158 (0, 0)) ∧
    Below w.heap.size w ((((((W.setCell ⟨b, 0, none⟩ x).setCell ⟨b, 1, none⟩ y).setCell ⟨b, 2, none⟩ z).setCell ⟨c, 0, none⟩ u).setCell ⟨c, 1, none⟩ v).setCell ⟨c, 2, none⟩ t).drew := by
  have a1 := heap_setCell_at (i := 0) (u := x) hb
  have a2 := heap_setCell_at (i := 1) (u := y) a1
  have a3 := heap_setCell_at (i := 2) (u := z) a2
  have far : ∀ (V : World) (i : Nat) (q : Value), (V.setCell ⟨c, i, none⟩ q).heap[b]? = V.heap[b]? := fun V i q => Below.heap_setCell _ _ _ _ hbc
  have far2 : ∀ (V : World) (i : Nat) (q : Value), (V.setCell ⟨b, i, none⟩ q).heap[c]? = V.heap[c]? := fun V i q => Below.heap_setCell _ _ _ _ (Ne.symm hbc)
  have hB3 := ((hB.setCell (p := ⟨b, 0, none⟩) h1 x).setCell (p := ⟨b, 1, none⟩) h1 y).setCell (p := ⟨b, 2, none⟩) h1 z
  have c0 : (((W.setCell ⟨b, 0, none⟩ x).setCell ⟨b, 1, none⟩ y).setCell ⟨b, 2, none⟩ z).heap[c]? = some (.cells #[p0, p1, p2] 158 (0, 0)) := (((far2 _ 2 z).trans (far2 _ 1 y)).trans (far2 _ 0 x)).trans hc
  have a3' : (((W.setCell ⟨b, 0, none⟩ x).setCell ⟨b, 1, none⟩ y).setCell ⟨b, 2, none⟩ z).heap[b]? = some (.cells #[x, y, z] 192 (0, 0)) := a3
  clear a1 a2 a3 hb hc hB
  generalize ((W.setCell ⟨b, 0, none⟩ x).setCell ⟨b, 1, none⟩ y).setCell ⟨b, 2, none⟩ z = W3 at a3' c0 hB3 ⊢
  have c1 := heap_setCell_at (i := 0) (u := u) c0
  have c2 := heap_setCell_at (i := 1) (u := v) c1
  have c3 := heap_setCell_at (i := 2) (u := t) c2
  have e1 := (((far (((W3.setCell ⟨c, 0, none⟩ u)).setCell ⟨c, 1, none⟩ v) 2 t).trans (far (W3.setCell ⟨c, 0, none⟩ u) 1 v)).trans (far W3 0 u)).trans a3'
  have hB4 := (((hB3.setCell (p := ⟨c, 0, none⟩) h2 u).setCell (p := ⟨c, 1, none⟩) h2 v).setCell (p := ⟨c, 2, none⟩) h2 t).drew
  exact ⟨e1, c3, hB4⟩
theorem rbyteZ (S : ByteArray) (q : Nat) (er v : Int) (q' : Nat) (e' : Int) (w : World) (hS : S.size ≤ 1000000) (hq : q ≤ S.size) (h : Rd.byte S q er = (v, q', e')) :
    Calls Try.prog 248 #[.agg #[.string S, .int .i64 (q : Int), .int .i64 er]] w fun e w' => e = .returned (.tuple #[.agg #[.string S, .int .i64 (q' : Int), .int .i64 e'], .int .i64 v]) ∧ Below w.heap.size w w' := by
  have h1 := rByte_any S q er w hS hq
  rw [h] at h1
  exact h1
theorem rintZ (S : ByteArray) (q : Nat) (er v : Int) (q' : Nat) (e' : Int) (w : World) (hS : S.size ≤ 1000000) (hq : q ≤ S.size) (h : Rd.int S q er = (v, q', e')) :
    Calls Try.prog 249 #[.agg #[.string S, .int .i64 (q : Int), .int .i64 er]] w fun e w' => e = .returned (.tuple #[.agg #[.string S, .int .i64 (q' : Int), .int .i64 e'], .int .i64 v]) ∧ Below w.heap.size w w' := by
  have h1 := rInt_any S q er w hS hq
  rw [h] at h1
  exact h1
theorem rtextZ (S : ByteArray) (q : Nat) (er : Int) (v : ByteArray) (q' : Nat) (e' : Int) (w : World) (hS : S.size ≤ 1000000) (hq : q ≤ S.size) (h : Rd.text S q er 64 = (v, q', e')) :
    Calls Try.prog 137 #[.agg #[.string S, .int .i64 (q : Int), .int .i64 er], .int .i64 64] w fun e w' => e = .returned (.tuple #[.agg #[.string S, .int .i64 (q' : Int), .int .i64 e'], .string v]) ∧ Below w.heap.size w w' := by
  have h1 := rText_any S q er 64 w hS hq (by omega) (by omega)
  rw [h] at h1
  exact h1
/-- what Take answers -/
def tkE (S : ByteArray) : Int := Rd.fin S (rvM S 0 0).2.2.2.1 (rvE S 0 0)
def tkV (S : ByteArray) : Int × Int × ByteArray := if tkE S = 0 then rvV S 0 0 else (0, 0, ⟨#[]⟩)
set_option maxHeartbeats 8000000 in
set_option maxRecDepth 100000 in
theorem rvread_any (S : ByteArray) (q : Nat) (er : Int) (w : World) (hS : S.size ≤ 1000000) (hq : q ≤ S.size) :
    Calls Try.prog 200 #[.agg #[.string S, .int .i64 (q : Int), .int .i64 er]] w fun e w' => e = .returned (.tuple #[.agg #[.string S, .int .i64 ((rvM S q er).2.2.2.1 : Int), .int .i64 (rvE S q er)], .agg (vvv (rvV S q er))]) ∧ Below w.heap.size w w' := by
  obtain ⟨k, q1, e1, h1⟩ : ∃ k q1 e1, Rd.byte S q er = (k, q1, e1) := ⟨_, _, _, rfl⟩
  have hM := rvM_is h1
  have H1 := Lib.hid (fun W : World => rbyteZ S q er _ _ _ W hS hq h1)
  have l1 := Rd.byte_le S q er hq
  have bd := Rd.byte_bd S q er
  rw [h1] at l1 bd
  dsimp only at l1 bd
  obtain ⟨bd0, bd1⟩ := bd
  clear h1
  by_cases k1 : k = 1
  · subst k1
    rw [if_pos rfl] at hM
    obtain ⟨n, q2, e2, h2⟩ : ∃ a b c, Rd.byte S q1 e1 = (a, b, c) := ⟨_, _, _, rfl⟩
    rw [h2] at hM
    dsimp only at hM
    have H2 := Lib.hid (fun W : World => rbyteZ S q1 e1 _ _ _ W hS l1 h2)
    clear h2
    by_cases he : e2 = 0
    · cases hv : vok 1 n ⟨#[]⟩ with
      | false =>
        obtain ⟨r1, r2⟩ := rv_bad hM hv
        rw [show Rd.fail e2 3 = 3 from he ▸ rfl] at r1
        rw [r2, r1, hM]
        dsimp only [vvv]
        have HCK := Lib.hid (fun W : World => vis_any 1 n ⟨#[]⟩ W)
        rw [hv] at HCK
        subst he
        clear hM hv r1 r2
        have HB1 := Lib.hid (Below.refl w.heap.size w)
        go_enter Try.func200, Try.ntmps200
        go_wp2_with fail
        have HF2 := Lib.hid (blk_new w (.cells #[.string S, .int .i64 (q : Int), .int .i64 er] 192 (0, 0)))
        have HB3 := Lib.hid (HB1.out.alloc HB1.out.size (.cells #[.string S, .int .i64 (q : Int), .int .i64 er] 192 (0, 0)))
        clear HB1
        have HF4 := Lib.hid (blk_alloc HF2.out (.cells #[.string ⟨#[]⟩, .int .i64 0, .int .i64 0] 192 (0, 0)))
        clear HF2
        have HF5 : Hid (((w.alloc (.cells #[.string S, .int .i64 (q : Int), .int .i64 er] 192 (0, 0))).alloc (.cells #[.string ⟨#[]⟩, .int .i64 0, .int .i64 0] 192 (0, 0))).heap[w.heap.size + 1]? = some (.cells #[.string ⟨#[]⟩, .int .i64 0, .int .i64 0] 192 (0, 0))) := Lib.hid (blk_newN (W := (w.alloc (.cells #[.string S, .int .i64 (q : Int), .int .i64 er] 192 (0, 0)))) (o := (.cells #[.string ⟨#[]⟩, .int .i64 0, .int .i64 0] 192 (0, 0))) (by simp))
        have HB6 := Lib.hid (HB3.out.alloc (by have := HB3.out.size; simp at this ⊢ <;> omega) (.cells #[.string ⟨#[]⟩, .int .i64 0, .int .i64 0] 192 (0, 0)))
        clear HB3
        have HF7 := Lib.hid (blk_alloc HF4.out (.cells #[.int .i64 0, .int .i64 0, .string ⟨#[]⟩] 158 (0, 0)))
        clear HF4
        have HF8 := Lib.hid (blk_alloc HF5.out (.cells #[.int .i64 0, .int .i64 0, .string ⟨#[]⟩] 158 (0, 0)))
        clear HF5
        have HF9 : Hid ((((w.alloc (.cells #[.string S, .int .i64 (q : Int), .int .i64 er] 192 (0, 0))).alloc (.cells #[.string ⟨#[]⟩, .int .i64 0, .int .i64 0] 192 (0, 0))).alloc (.cells #[.int .i64 0, .int .i64 0, .string ⟨#[]⟩] 158 (0, 0))).heap[w.heap.size + 2]? = some (.cells #[.int .i64 0, .int .i64 0, .string ⟨#[]⟩] 158 (0, 0))) := Lib.hid (blk_newN (W := ((w.alloc (.cells #[.string S, .int .i64 (q : Int), .int .i64 er] 192 (0, 0))).alloc (.cells #[.string ⟨#[]⟩, .int .i64 0, .int .i64 0] 192 (0, 0)))) (o := (.cells #[.int .i64 0, .int .i64 0, .string ⟨#[]⟩] 158 (0, 0))) (by simp))
        have HB10 := Lib.hid (HB6.out.alloc (by have := HB6.out.size; simp at this ⊢ <;> omega) (.cells #[.int .i64 0, .int .i64 0, .string ⟨#[]⟩] 158 (0, 0)))
        clear HB6
        refine (H1.out (((w.alloc (.cells #[.string S, .int .i64 (q : Int), .int .i64 er] 192 (0, 0))).alloc (.cells #[.string ⟨#[]⟩, .int .i64 0, .int .i64 0] 192 (0, 0))).alloc (.cells #[.int .i64 0, .int .i64 0, .string ⟨#[]⟩] 158 (0, 0)))).mono ?_
        rintro e w1 ⟨rfl, hb1⟩
        have HF11 := Lib.hid (blk_below HF7.out hb1)
        have HF12 := Lib.hid (blk_below HF8.out hb1)
        have HF13 := Lib.hid (blk_below HF9.out hb1)
        have HB14 := Lib.hid (HB10.out.trans (hb1.mono HB10.out.size))
        clear hb1 HB10 HF7 HF8 HF9
        have hk15 : w.heap.size < w1.heap.size := lt_of_block HF11.out
        have hk16 : w.heap.size + 1 < w1.heap.size := lt_of_block HF12.out
        have hk17 : w.heap.size + 2 < w1.heap.size := lt_of_block HF13.out
        go_wp2_with (first
          | refine wpList_store_rowY rfl 192 (.tmp 1) (.tmp 9) rfl (w.heap.size) #[.string S, .int .i64 (q1 : Int), .int .i64 e1] rfl rfl 192 _ HF11.out (info_sc3 _ _ _) rfl (one_sc3 _ _ _) w.heap.size w HB14.out (by omega) ?_)
        intro W2 hbk hoth hbel _
        have HF18 := Lib.hid hbk.out
        have HF19 := Lib.hid (blk_oth HF12.out hoth.out (by omega))
        have HF20 := Lib.hid (blk_oth HF13.out hoth.out (by omega))
        have HB21 := Lib.hid hbel.out
        clear hbk hoth hbel HB14 HF11 HF12 HF13
        have hk22 : w.heap.size < W2.heap.size := lt_of_block HF18.out
        have hk23 : w.heap.size + 1 < W2.heap.size := lt_of_block HF19.out
        have hk24 : w.heap.size + 2 < W2.heap.size := lt_of_block HF20.out
        have HF25 := Lib.hid (blk_alloc HF18.out (.cells #[.int .i64 1, .int .i64 0, .string ⟨#[]⟩] 158 (0, 0)))
        have HF26 := Lib.hid (blk_alloc HF19.out (.cells #[.int .i64 1, .int .i64 0, .string ⟨#[]⟩] 158 (0, 0)))
        have HF27 := Lib.hid (blk_alloc HF20.out (.cells #[.int .i64 1, .int .i64 0, .string ⟨#[]⟩] 158 (0, 0)))
        have HF28 := Lib.hid (blk_new W2 (.cells #[.int .i64 1, .int .i64 0, .string ⟨#[]⟩] 158 (0, 0)))
        have HB29 := Lib.hid (HB21.out.alloc HB21.out.size (.cells #[.int .i64 1, .int .i64 0, .string ⟨#[]⟩] 158 (0, 0)))
        clear HB21
        have hc30 : (W2.alloc (.cells #[.int .i64 1, .int .i64 0, .string ⟨#[]⟩] 158 (0, 0))).cell? ⟨w.heap.size, 0, none⟩ = some (.string S) := by rw [cell_of_row _ _ _ _ _ _ HF25.out]; rfl
        have hc31 : W2.cell? ⟨w.heap.size, 0, none⟩ = some (.string S) := by rw [cell_of_row _ _ _ _ _ _ HF18.out]; rfl
        have hc32 : (W2.alloc (.cells #[.int .i64 1, .int .i64 0, .string ⟨#[]⟩] 158 (0, 0))).cell? ⟨w.heap.size, 1, none⟩ = some (.int .i64 (q1 : Int)) := by rw [cell_of_row _ _ _ _ _ _ HF25.out]; rfl
        have hc33 : W2.cell? ⟨w.heap.size, 1, none⟩ = some (.int .i64 (q1 : Int)) := by rw [cell_of_row _ _ _ _ _ _ HF18.out]; rfl
        have hc34 : (W2.alloc (.cells #[.int .i64 1, .int .i64 0, .string ⟨#[]⟩] 158 (0, 0))).cell? ⟨w.heap.size, 2, none⟩ = some (.int .i64 e1) := by rw [cell_of_row _ _ _ _ _ _ HF25.out]; rfl
        have hc35 : W2.cell? ⟨w.heap.size, 2, none⟩ = some (.int .i64 e1) := by rw [cell_of_row _ _ _ _ _ _ HF18.out]; rfl
        have hl36 : w.heap.size < W2.heap.size := lt_of_block HF18.out
        have hl37 : ¬ w.heap.size = W2.heap.size := by omega
        go_wp2_with fail
        refine (H2.out (W2.alloc (.cells #[.int .i64 1, .int .i64 0, .string ⟨#[]⟩] 158 (0, 0)))).mono ?_
        rintro e w3 ⟨rfl, hb3⟩
        clear hc30 hc31 hc32 hc33 hc34 hc35 hl36 hl37
        have HF38 := Lib.hid (blk_below HF25.out hb3)
        have HF39 := Lib.hid (blk_below HF26.out hb3)
        have HF40 := Lib.hid (blk_below HF27.out hb3)
        have HF41 := Lib.hid (blk_below HF28.out hb3)
        have HB42 := Lib.hid (HB29.out.trans (hb3.mono HB29.out.size))
        clear hb3 HB29 HF25 HF18 HF26 HF19 HF27 HF20 HF28
        go_wp2_with (first
          | refine wpList_store_rowY rfl 192 (.tmp 1) (.tmp 18) rfl (w.heap.size) #[.string S, .int .i64 (q2 : Int), .int .i64 0] rfl rfl 192 _ HF38.out (info_sc3 _ _ _) rfl (one_sc3 _ _ _) w.heap.size w HB42.out (by omega) ?_)
        intro W4 hbk hoth hbel _
        have HF43 := Lib.hid hbk.out
        have HF44 := Lib.hid (blk_oth HF39.out hoth.out (by omega))
        have HF45 := Lib.hid (blk_oth HF40.out hoth.out (by omega))
        have HF46 := Lib.hid (blk_oth HF41.out hoth.out (by omega))
        have HB47 := Lib.hid hbel.out
        clear hbk hoth hbel HB42 HF38 HF39 HF40 HF41
        have hc48 : W4.cell? ⟨W2.heap.size, 0, none⟩ = some (.int .i64 1) := by rw [cell_of_row _ _ _ _ _ _ HF46.out]; rfl
        have hc49 : W4.cell? ⟨W2.heap.size, 1, none⟩ = some (.int .i64 0) := by rw [cell_of_row _ _ _ _ _ _ HF46.out]; rfl
        have hc50 : W4.cell? ⟨W2.heap.size, 2, none⟩ = some (.string ⟨#[]⟩) := by rw [cell_of_row _ _ _ _ _ _ HF46.out]; rfl
        have hc51 : W4.cell? ⟨w.heap.size, 0, none⟩ = some (.string S) := by rw [cell_of_row _ _ _ _ _ _ HF43.out]; rfl
        have hc52 : W4.cell? ⟨w.heap.size, 1, none⟩ = some (.int .i64 (q2 : Int)) := by rw [cell_of_row _ _ _ _ _ _ HF43.out]; rfl
        have hc53 : W4.cell? ⟨w.heap.size, 2, none⟩ = some (.int .i64 0) := by rw [cell_of_row _ _ _ _ _ _ HF43.out]; rfl
        have hz54 : W4.frozen? ⟨W2.heap.size, 1, none⟩ = false := frozen_of_row _ _ _ _ _ HF46.out
        have HF55 := Lib.hid (show (W4.setCell ⟨W2.heap.size, 1, none⟩ (.int .i64 n)).heap[w.heap.size]? = some (.cells #[.string S, .int .i64 (q2 : Int), .int .i64 0] 192 (0, 0)) by rw [Below.heap_setCell _ _ _ _ (by show w.heap.size ≠ W2.heap.size; omega)]; exact HF43.out)
        have HF56 := Lib.hid (show (W4.setCell ⟨W2.heap.size, 1, none⟩ (.int .i64 n)).heap[w.heap.size + 1]? = some (.cells #[.string ⟨#[]⟩, .int .i64 0, .int .i64 0] 192 (0, 0)) by rw [Below.heap_setCell _ _ _ _ (by show w.heap.size + 1 ≠ W2.heap.size; omega)]; exact HF44.out)
        have HF57 := Lib.hid (show (W4.setCell ⟨W2.heap.size, 1, none⟩ (.int .i64 n)).heap[w.heap.size + 2]? = some (.cells #[.int .i64 0, .int .i64 0, .string ⟨#[]⟩] 158 (0, 0)) by rw [Below.heap_setCell _ _ _ _ (by show w.heap.size + 2 ≠ W2.heap.size; omega)]; exact HF45.out)
        have HF58 := Lib.hid (show (W4.setCell ⟨W2.heap.size, 1, none⟩ (.int .i64 n)).heap[W2.heap.size]? = some (.cells #[.int .i64 1, .int .i64 n, .string ⟨#[]⟩] 158 (0, 0)) by have h := heap_setCell_at (i := 1) (u := .int .i64 n) HF46.out; exact h)
        have HB59 := Lib.hid (HB47.out.setCell (p := ⟨W2.heap.size, 1, none⟩) (by show w.heap.size ≤ W2.heap.size; omega) (.int .i64 n))
        have hc60 : (W4.setCell ⟨W2.heap.size, 1, none⟩ (.int .i64 n)).cell? ⟨w.heap.size, 0, none⟩ = some (.string S) := by rw [cell_of_row _ _ _ _ _ _ HF55.out]; rfl
        have hc61 : (W4.setCell ⟨W2.heap.size, 1, none⟩ (.int .i64 n)).cell? ⟨w.heap.size, 1, none⟩ = some (.int .i64 (q2 : Int)) := by rw [cell_of_row _ _ _ _ _ _ HF55.out]; rfl
        have hc62 : (W4.setCell ⟨W2.heap.size, 1, none⟩ (.int .i64 n)).cell? ⟨w.heap.size, 2, none⟩ = some (.int .i64 0) := by rw [cell_of_row _ _ _ _ _ _ HF55.out]; rfl
        have hc63 : (W4.setCell ⟨W2.heap.size, 1, none⟩ (.int .i64 n)).cell? ⟨W2.heap.size, 0, none⟩ = some (.int .i64 1) := by rw [cell_of_row _ _ _ _ _ _ HF58.out]; rfl
        have hc64 : (W4.setCell ⟨W2.heap.size, 1, none⟩ (.int .i64 n)).cell? ⟨W2.heap.size, 1, none⟩ = some (.int .i64 n) := by rw [cell_of_row _ _ _ _ _ _ HF58.out]; rfl
        have hc65 : (W4.setCell ⟨W2.heap.size, 1, none⟩ (.int .i64 n)).cell? ⟨W2.heap.size, 2, none⟩ = some (.string ⟨#[]⟩) := by rw [cell_of_row _ _ _ _ _ _ HF58.out]; rfl
        go_wp2_with fail
        refine (HCK.out (W4.setCell ⟨W2.heap.size, 1, none⟩ (.int .i64 n))).mono ?_
        rintro e w5 ⟨rfl, hb5⟩
        clear hc48 hc49 hc50 hc51 hc52 hc53 hz54 hc60 hc61 hc62 hc63 hc64 hc65
        have HF66 := Lib.hid (blk_below HF55.out hb5)
        have HF67 := Lib.hid (blk_below HF56.out hb5)
        have HF68 := Lib.hid (blk_below HF57.out hb5)
        have HF69 := Lib.hid (blk_below HF58.out hb5)
        have HB70 := Lib.hid (HB59.out.trans (hb5.mono HB59.out.size))
        clear hb5 HB59 HF55 HF56 HF57 HF58
        have hc71 : w5.cell? ⟨w.heap.size, 0, none⟩ = some (.string S) := by rw [cell_of_row _ _ _ _ _ _ HF66.out]; rfl
        have hc72 : w5.cell? ⟨w.heap.size, 1, none⟩ = some (.int .i64 (q2 : Int)) := by rw [cell_of_row _ _ _ _ _ _ HF66.out]; rfl
        have hc73 : w5.cell? ⟨w.heap.size, 2, none⟩ = some (.int .i64 0) := by rw [cell_of_row _ _ _ _ _ _ HF66.out]; rfl
        have hz74 : w5.frozen? ⟨w.heap.size, 2, none⟩ = false := frozen_of_row _ _ _ _ _ HF66.out
        have HF75 := Lib.hid (show (w5.setCell ⟨w.heap.size, 2, none⟩ (.int .i64 3)).heap[w.heap.size]? = some (.cells #[.string S, .int .i64 (q2 : Int), .int .i64 3] 192 (0, 0)) by have h := heap_setCell_at (i := 2) (u := .int .i64 3) HF66.out; exact h)
        have HF76 := Lib.hid (show (w5.setCell ⟨w.heap.size, 2, none⟩ (.int .i64 3)).heap[w.heap.size + 1]? = some (.cells #[.string ⟨#[]⟩, .int .i64 0, .int .i64 0] 192 (0, 0)) by rw [Below.heap_setCell _ _ _ _ (by show w.heap.size + 1 ≠ w.heap.size; omega)]; exact HF67.out)
        have HF77 := Lib.hid (show (w5.setCell ⟨w.heap.size, 2, none⟩ (.int .i64 3)).heap[w.heap.size + 2]? = some (.cells #[.int .i64 0, .int .i64 0, .string ⟨#[]⟩] 158 (0, 0)) by rw [Below.heap_setCell _ _ _ _ (by show w.heap.size + 2 ≠ w.heap.size; omega)]; exact HF68.out)
        have HF78 := Lib.hid (show (w5.setCell ⟨w.heap.size, 2, none⟩ (.int .i64 3)).heap[W2.heap.size]? = some (.cells #[.int .i64 1, .int .i64 n, .string ⟨#[]⟩] 158 (0, 0)) by rw [Below.heap_setCell _ _ _ _ (by show W2.heap.size ≠ w.heap.size; omega)]; exact HF69.out)
        have HB79 := Lib.hid (HB70.out.setCell (p := ⟨w.heap.size, 2, none⟩) (by show w.heap.size ≤ w.heap.size; omega) (.int .i64 3))
        have hc80 : (w5.setCell ⟨w.heap.size, 2, none⟩ (.int .i64 3)).cell? ⟨w.heap.size, 0, none⟩ = some (.string S) := by rw [cell_of_row _ _ _ _ _ _ HF75.out]; rfl
        have hc81 : (w5.setCell ⟨w.heap.size, 2, none⟩ (.int .i64 3)).cell? ⟨w.heap.size, 1, none⟩ = some (.int .i64 (q2 : Int)) := by rw [cell_of_row _ _ _ _ _ _ HF75.out]; rfl
        have hc82 : (w5.setCell ⟨w.heap.size, 2, none⟩ (.int .i64 3)).cell? ⟨w.heap.size, 2, none⟩ = some (.int .i64 3) := by rw [cell_of_row _ _ _ _ _ _ HF75.out]; rfl
        have hk83 : w.heap.size < (w5.setCell ⟨w.heap.size, 2, none⟩ (.int .i64 3)).heap.size := lt_of_block HF75.out
        have hk84 : w.heap.size + 1 < (w5.setCell ⟨w.heap.size, 2, none⟩ (.int .i64 3)).heap.size := lt_of_block HF76.out
        have hk85 : w.heap.size + 2 < (w5.setCell ⟨w.heap.size, 2, none⟩ (.int .i64 3)).heap.size := lt_of_block HF77.out
        have hk86 : W2.heap.size < (w5.setCell ⟨w.heap.size, 2, none⟩ (.int .i64 3)).heap.size := lt_of_block HF78.out
        go_wp2_with (first
          | refine wpList_store_rowY rfl 192 (.tmp 2) (.tmp 49) rfl (w.heap.size + 1) #[.string S, .int .i64 (q2 : Int), .int .i64 3] rfl rfl 192 _ HF76.out (info_sc3 _ _ _) rfl (one_sc3 _ _ _) w.heap.size w HB79.out (by omega) ?_
          | refine wpList_load_row rfl 192 (.tmp 1) rfl (w.heap.size) rfl 192 #[.string S, .int .i64 (q2 : Int), .int .i64 3] (0, 0) _ HF75.out Try.underlying192 rfl (info_sc3 _ _ _) ?_)
        intro W6 hbk hoth hbel _
        clear hc71 hc72 hc73 hz74 hc80 hc81 hc82
        have HF87 := Lib.hid (blk_oth HF75.out hoth.out (by omega))
        have HF88 := Lib.hid hbk.out
        have HF89 := Lib.hid (blk_oth HF77.out hoth.out (by omega))
        have HF90 := Lib.hid (blk_oth HF78.out hoth.out (by omega))
        have HB91 := Lib.hid hbel.out
        clear hbk hoth hbel HB79 HF75 HF76 HF77 HF78
        go_wp2_with (first
          | refine wpList_store_rowY rfl 158 (.tmp 3) (.tmp 50) rfl (w.heap.size + 2) #[.int .i64 0, .int .i64 0, .string ⟨#[]⟩] rfl rfl 158 _ HF89.out (info_val _ _ _) rfl (one_val _ _ _) w.heap.size w HB91.out (by omega) ?_)
        intro W7 hbk hoth hbel _
        have HF92 := Lib.hid (blk_oth HF87.out hoth.out (by omega))
        have HF93 := Lib.hid (blk_oth HF88.out hoth.out (by omega))
        have HF94 := Lib.hid hbk.out
        have HF95 := Lib.hid (blk_oth HF90.out hoth.out (by omega))
        have HB96 := Lib.hid hbel.out
        clear hbk hoth hbel HB91 HF87 HF88 HF89 HF90
        go_wp2_with fail
        refine bodyPost_ret (results_ccY rfl _ _ (w.heap.size + 1) (w.heap.size + 2) #[.string S, .int .i64 (q2 : Int), .int .i64 3] #[.int .i64 0, .int .i64 0, .string ⟨#[]⟩] rfl (run_loadVar_row _ (w.heap.size + 1) 192 192 _ (0, 0) _ HF93.out Try.underlying192 rfl (info_sc3 _ _ _)) rfl (run_loadVar_row _ (w.heap.size + 2) 158 158 _ (0, 0) _ HF94.out Try.underlying158 rfl (info_val _ _ _))) rfl ?_
        exact ⟨rfl, HB96.out⟩
      | true =>
        obtain ⟨r1, r2⟩ := rv_good (he ▸ hM) hv
        rw [r2, r1, hM]
        dsimp only [vvv]
        have HCK := Lib.hid (fun W : World => vis_any 1 n ⟨#[]⟩ W)
        rw [hv] at HCK
        subst he
        clear hM hv r1 r2
        have HB1 := Lib.hid (Below.refl w.heap.size w)
        go_enter Try.func200, Try.ntmps200
        go_wp2_with fail
        have HF2 := Lib.hid (blk_new w (.cells #[.string S, .int .i64 (q : Int), .int .i64 er] 192 (0, 0)))
        have HB3 := Lib.hid (HB1.out.alloc HB1.out.size (.cells #[.string S, .int .i64 (q : Int), .int .i64 er] 192 (0, 0)))
        clear HB1
        have HF4 := Lib.hid (blk_alloc HF2.out (.cells #[.string ⟨#[]⟩, .int .i64 0, .int .i64 0] 192 (0, 0)))
        clear HF2
        have HF5 : Hid (((w.alloc (.cells #[.string S, .int .i64 (q : Int), .int .i64 er] 192 (0, 0))).alloc (.cells #[.string ⟨#[]⟩, .int .i64 0, .int .i64 0] 192 (0, 0))).heap[w.heap.size + 1]? = some (.cells #[.string ⟨#[]⟩, .int .i64 0, .int .i64 0] 192 (0, 0))) := Lib.hid (blk_newN (W := (w.alloc (.cells #[.string S, .int .i64 (q : Int), .int .i64 er] 192 (0, 0)))) (o := (.cells #[.string ⟨#[]⟩, .int .i64 0, .int .i64 0] 192 (0, 0))) (by simp))
        have HB6 := Lib.hid (HB3.out.alloc (by have := HB3.out.size; simp at this ⊢ <;> omega) (.cells #[.string ⟨#[]⟩, .int .i64 0, .int .i64 0] 192 (0, 0)))
        clear HB3
        have HF7 := Lib.hid (blk_alloc HF4.out (.cells #[.int .i64 0, .int .i64 0, .string ⟨#[]⟩] 158 (0, 0)))
        clear HF4
        have HF8 := Lib.hid (blk_alloc HF5.out (.cells #[.int .i64 0, .int .i64 0, .string ⟨#[]⟩] 158 (0, 0)))
        clear HF5
        have HF9 : Hid ((((w.alloc (.cells #[.string S, .int .i64 (q : Int), .int .i64 er] 192 (0, 0))).alloc (.cells #[.string ⟨#[]⟩, .int .i64 0, .int .i64 0] 192 (0, 0))).alloc (.cells #[.int .i64 0, .int .i64 0, .string ⟨#[]⟩] 158 (0, 0))).heap[w.heap.size + 2]? = some (.cells #[.int .i64 0, .int .i64 0, .string ⟨#[]⟩] 158 (0, 0))) := Lib.hid (blk_newN (W := ((w.alloc (.cells #[.string S, .int .i64 (q : Int), .int .i64 er] 192 (0, 0))).alloc (.cells #[.string ⟨#[]⟩, .int .i64 0, .int .i64 0] 192 (0, 0)))) (o := (.cells #[.int .i64 0, .int .i64 0, .string ⟨#[]⟩] 158 (0, 0))) (by simp))
        have HB10 := Lib.hid (HB6.out.alloc (by have := HB6.out.size; simp at this ⊢ <;> omega) (.cells #[.int .i64 0, .int .i64 0, .string ⟨#[]⟩] 158 (0, 0)))
        clear HB6
        refine (H1.out (((w.alloc (.cells #[.string S, .int .i64 (q : Int), .int .i64 er] 192 (0, 0))).alloc (.cells #[.string ⟨#[]⟩, .int .i64 0, .int .i64 0] 192 (0, 0))).alloc (.cells #[.int .i64 0, .int .i64 0, .string ⟨#[]⟩] 158 (0, 0)))).mono ?_
        rintro e w1 ⟨rfl, hb1⟩
        have HF11 := Lib.hid (blk_below HF7.out hb1)
        have HF12 := Lib.hid (blk_below HF8.out hb1)
        have HF13 := Lib.hid (blk_below HF9.out hb1)
        have HB14 := Lib.hid (HB10.out.trans (hb1.mono HB10.out.size))
        clear hb1 HB10 HF7 HF8 HF9
        have hk15 : w.heap.size < w1.heap.size := lt_of_block HF11.out
        have hk16 : w.heap.size + 1 < w1.heap.size := lt_of_block HF12.out
        have hk17 : w.heap.size + 2 < w1.heap.size := lt_of_block HF13.out
        go_wp2_with (first
          | refine wpList_store_rowY rfl 192 (.tmp 1) (.tmp 9) rfl (w.heap.size) #[.string S, .int .i64 (q1 : Int), .int .i64 e1] rfl rfl 192 _ HF11.out (info_sc3 _ _ _) rfl (one_sc3 _ _ _) w.heap.size w HB14.out (by omega) ?_)
        intro W2 hbk hoth hbel _
        have HF18 := Lib.hid hbk.out
        have HF19 := Lib.hid (blk_oth HF12.out hoth.out (by omega))
        have HF20 := Lib.hid (blk_oth HF13.out hoth.out (by omega))
        have HB21 := Lib.hid hbel.out
        clear hbk hoth hbel HB14 HF11 HF12 HF13
        have hk22 : w.heap.size < W2.heap.size := lt_of_block HF18.out
        have hk23 : w.heap.size + 1 < W2.heap.size := lt_of_block HF19.out
        have hk24 : w.heap.size + 2 < W2.heap.size := lt_of_block HF20.out
        have HF25 := Lib.hid (blk_alloc HF18.out (.cells #[.int .i64 1, .int .i64 0, .string ⟨#[]⟩] 158 (0, 0)))
        have HF26 := Lib.hid (blk_alloc HF19.out (.cells #[.int .i64 1, .int .i64 0, .string ⟨#[]⟩] 158 (0, 0)))
        have HF27 := Lib.hid (blk_alloc HF20.out (.cells #[.int .i64 1, .int .i64 0, .string ⟨#[]⟩] 158 (0, 0)))
        have HF28 := Lib.hid (blk_new W2 (.cells #[.int .i64 1, .int .i64 0, .string ⟨#[]⟩] 158 (0, 0)))
        have HB29 := Lib.hid (HB21.out.alloc HB21.out.size (.cells #[.int .i64 1, .int .i64 0, .string ⟨#[]⟩] 158 (0, 0)))
        clear HB21
        have hc30 : (W2.alloc (.cells #[.int .i64 1, .int .i64 0, .string ⟨#[]⟩] 158 (0, 0))).cell? ⟨w.heap.size, 0, none⟩ = some (.string S) := by rw [cell_of_row _ _ _ _ _ _ HF25.out]; rfl
        have hc31 : W2.cell? ⟨w.heap.size, 0, none⟩ = some (.string S) := by rw [cell_of_row _ _ _ _ _ _ HF18.out]; rfl
        have hc32 : (W2.alloc (.cells #[.int .i64 1, .int .i64 0, .string ⟨#[]⟩] 158 (0, 0))).cell? ⟨w.heap.size, 1, none⟩ = some (.int .i64 (q1 : Int)) := by rw [cell_of_row _ _ _ _ _ _ HF25.out]; rfl
        have hc33 : W2.cell? ⟨w.heap.size, 1, none⟩ = some (.int .i64 (q1 : Int)) := by rw [cell_of_row _ _ _ _ _ _ HF18.out]; rfl
        have hc34 : (W2.alloc (.cells #[.int .i64 1, .int .i64 0, .string ⟨#[]⟩] 158 (0, 0))).cell? ⟨w.heap.size, 2, none⟩ = some (.int .i64 e1) := by rw [cell_of_row _ _ _ _ _ _ HF25.out]; rfl
        have hc35 : W2.cell? ⟨w.heap.size, 2, none⟩ = some (.int .i64 e1) := by rw [cell_of_row _ _ _ _ _ _ HF18.out]; rfl
        have hl36 : w.heap.size < W2.heap.size := lt_of_block HF18.out
        have hl37 : ¬ w.heap.size = W2.heap.size := by omega
        go_wp2_with fail
        refine (H2.out (W2.alloc (.cells #[.int .i64 1, .int .i64 0, .string ⟨#[]⟩] 158 (0, 0)))).mono ?_
        rintro e w3 ⟨rfl, hb3⟩
        clear hc30 hc31 hc32 hc33 hc34 hc35 hl36 hl37
        have HF38 := Lib.hid (blk_below HF25.out hb3)
        have HF39 := Lib.hid (blk_below HF26.out hb3)
        have HF40 := Lib.hid (blk_below HF27.out hb3)
        have HF41 := Lib.hid (blk_below HF28.out hb3)
        have HB42 := Lib.hid (HB29.out.trans (hb3.mono HB29.out.size))
        clear hb3 HB29 HF25 HF18 HF26 HF19 HF27 HF20 HF28
        go_wp2_with (first
          | refine wpList_store_rowY rfl 192 (.tmp 1) (.tmp 18) rfl (w.heap.size) #[.string S, .int .i64 (q2 : Int), .int .i64 0] rfl rfl 192 _ HF38.out (info_sc3 _ _ _) rfl (one_sc3 _ _ _) w.heap.size w HB42.out (by omega) ?_)
        intro W4 hbk hoth hbel _
        have HF43 := Lib.hid hbk.out
        have HF44 := Lib.hid (blk_oth HF39.out hoth.out (by omega))
        have HF45 := Lib.hid (blk_oth HF40.out hoth.out (by omega))
        have HF46 := Lib.hid (blk_oth HF41.out hoth.out (by omega))
        have HB47 := Lib.hid hbel.out
        clear hbk hoth hbel HB42 HF38 HF39 HF40 HF41
        have hc48 : W4.cell? ⟨W2.heap.size, 0, none⟩ = some (.int .i64 1) := by rw [cell_of_row _ _ _ _ _ _ HF46.out]; rfl
        have hc49 : W4.cell? ⟨W2.heap.size, 1, none⟩ = some (.int .i64 0) := by rw [cell_of_row _ _ _ _ _ _ HF46.out]; rfl
        have hc50 : W4.cell? ⟨W2.heap.size, 2, none⟩ = some (.string ⟨#[]⟩) := by rw [cell_of_row _ _ _ _ _ _ HF46.out]; rfl
        have hc51 : W4.cell? ⟨w.heap.size, 0, none⟩ = some (.string S) := by rw [cell_of_row _ _ _ _ _ _ HF43.out]; rfl
        have hc52 : W4.cell? ⟨w.heap.size, 1, none⟩ = some (.int .i64 (q2 : Int)) := by rw [cell_of_row _ _ _ _ _ _ HF43.out]; rfl
        have hc53 : W4.cell? ⟨w.heap.size, 2, none⟩ = some (.int .i64 0) := by rw [cell_of_row _ _ _ _ _ _ HF43.out]; rfl
        have hz54 : W4.frozen? ⟨W2.heap.size, 1, none⟩ = false := frozen_of_row _ _ _ _ _ HF46.out
        have HF55 := Lib.hid (show (W4.setCell ⟨W2.heap.size, 1, none⟩ (.int .i64 n)).heap[w.heap.size]? = some (.cells #[.string S, .int .i64 (q2 : Int), .int .i64 0] 192 (0, 0)) by rw [Below.heap_setCell _ _ _ _ (by show w.heap.size ≠ W2.heap.size; omega)]; exact HF43.out)
        have HF56 := Lib.hid (show (W4.setCell ⟨W2.heap.size, 1, none⟩ (.int .i64 n)).heap[w.heap.size + 1]? = some (.cells #[.string ⟨#[]⟩, .int .i64 0, .int .i64 0] 192 (0, 0)) by rw [Below.heap_setCell _ _ _ _ (by show w.heap.size + 1 ≠ W2.heap.size; omega)]; exact HF44.out)
        have HF57 := Lib.hid (show (W4.setCell ⟨W2.heap.size, 1, none⟩ (.int .i64 n)).heap[w.heap.size + 2]? = some (.cells #[.int .i64 0, .int .i64 0, .string ⟨#[]⟩] 158 (0, 0)) by rw [Below.heap_setCell _ _ _ _ (by show w.heap.size + 2 ≠ W2.heap.size; omega)]; exact HF45.out)
        have HF58 := Lib.hid (show (W4.setCell ⟨W2.heap.size, 1, none⟩ (.int .i64 n)).heap[W2.heap.size]? = some (.cells #[.int .i64 1, .int .i64 n, .string ⟨#[]⟩] 158 (0, 0)) by have h := heap_setCell_at (i := 1) (u := .int .i64 n) HF46.out; exact h)
        have HB59 := Lib.hid (HB47.out.setCell (p := ⟨W2.heap.size, 1, none⟩) (by show w.heap.size ≤ W2.heap.size; omega) (.int .i64 n))
        have hc60 : (W4.setCell ⟨W2.heap.size, 1, none⟩ (.int .i64 n)).cell? ⟨w.heap.size, 0, none⟩ = some (.string S) := by rw [cell_of_row _ _ _ _ _ _ HF55.out]; rfl
        have hc61 : (W4.setCell ⟨W2.heap.size, 1, none⟩ (.int .i64 n)).cell? ⟨w.heap.size, 1, none⟩ = some (.int .i64 (q2 : Int)) := by rw [cell_of_row _ _ _ _ _ _ HF55.out]; rfl
        have hc62 : (W4.setCell ⟨W2.heap.size, 1, none⟩ (.int .i64 n)).cell? ⟨w.heap.size, 2, none⟩ = some (.int .i64 0) := by rw [cell_of_row _ _ _ _ _ _ HF55.out]; rfl
        have hc63 : (W4.setCell ⟨W2.heap.size, 1, none⟩ (.int .i64 n)).cell? ⟨W2.heap.size, 0, none⟩ = some (.int .i64 1) := by rw [cell_of_row _ _ _ _ _ _ HF58.out]; rfl
        have hc64 : (W4.setCell ⟨W2.heap.size, 1, none⟩ (.int .i64 n)).cell? ⟨W2.heap.size, 1, none⟩ = some (.int .i64 n) := by rw [cell_of_row _ _ _ _ _ _ HF58.out]; rfl
        have hc65 : (W4.setCell ⟨W2.heap.size, 1, none⟩ (.int .i64 n)).cell? ⟨W2.heap.size, 2, none⟩ = some (.string ⟨#[]⟩) := by rw [cell_of_row _ _ _ _ _ _ HF58.out]; rfl
        go_wp2_with fail
        refine (HCK.out (W4.setCell ⟨W2.heap.size, 1, none⟩ (.int .i64 n))).mono ?_
        rintro e w5 ⟨rfl, hb5⟩
        clear hc48 hc49 hc50 hc51 hc52 hc53 hz54 hc60 hc61 hc62 hc63 hc64 hc65
        have HF66 := Lib.hid (blk_below HF55.out hb5)
        have HF67 := Lib.hid (blk_below HF56.out hb5)
        have HF68 := Lib.hid (blk_below HF57.out hb5)
        have HF69 := Lib.hid (blk_below HF58.out hb5)
        have HB70 := Lib.hid (HB59.out.trans (hb5.mono HB59.out.size))
        clear hb5 HB59 HF55 HF56 HF57 HF58
        have hc71 : w5.cell? ⟨w.heap.size, 0, none⟩ = some (.string S) := by rw [cell_of_row _ _ _ _ _ _ HF66.out]; rfl
        have hc72 : w5.cell? ⟨w.heap.size, 1, none⟩ = some (.int .i64 (q2 : Int)) := by rw [cell_of_row _ _ _ _ _ _ HF66.out]; rfl
        have hc73 : w5.cell? ⟨w.heap.size, 2, none⟩ = some (.int .i64 0) := by rw [cell_of_row _ _ _ _ _ _ HF66.out]; rfl
        have hk74 : w.heap.size < w5.heap.size := lt_of_block HF66.out
        have hk75 : w.heap.size + 1 < w5.heap.size := lt_of_block HF67.out
        have hk76 : w.heap.size + 2 < w5.heap.size := lt_of_block HF68.out
        have hk77 : W2.heap.size < w5.heap.size := lt_of_block HF69.out
        have hc78 : w5.cell? ⟨W2.heap.size, 0, none⟩ = some (.int .i64 1) := by rw [cell_of_row _ _ _ _ _ _ HF69.out]; rfl
        have hc79 : w5.cell? ⟨W2.heap.size, 1, none⟩ = some (.int .i64 n) := by rw [cell_of_row _ _ _ _ _ _ HF69.out]; rfl
        have hc80 : w5.cell? ⟨W2.heap.size, 2, none⟩ = some (.string ⟨#[]⟩) := by rw [cell_of_row _ _ _ _ _ _ HF69.out]; rfl
        have hc81 : w5.cell? ⟨w.heap.size + 1, 0, none⟩ = some (.string ⟨#[]⟩) := by rw [cell_of_row _ _ _ _ _ _ HF67.out]; rfl
        have hc82 : w5.cell? ⟨w.heap.size + 1, 1, none⟩ = some (.int .i64 0) := by rw [cell_of_row _ _ _ _ _ _ HF67.out]; rfl
        have hc83 : w5.cell? ⟨w.heap.size + 1, 2, none⟩ = some (.int .i64 0) := by rw [cell_of_row _ _ _ _ _ _ HF67.out]; rfl
        have hc84 : w5.cell? ⟨w.heap.size + 2, 0, none⟩ = some (.int .i64 0) := by rw [cell_of_row _ _ _ _ _ _ HF68.out]; rfl
        have hc85 : w5.cell? ⟨w.heap.size + 2, 1, none⟩ = some (.int .i64 0) := by rw [cell_of_row _ _ _ _ _ _ HF68.out]; rfl
        have hc86 : w5.cell? ⟨w.heap.size + 2, 2, none⟩ = some (.string ⟨#[]⟩) := by rw [cell_of_row _ _ _ _ _ _ HF68.out]; rfl
        have hz87 : w5.frozen? ⟨w.heap.size + 1, 0, none⟩ = false := frozen_of_row _ _ _ _ _ HF67.out
        have hz88 : w5.frozen? ⟨w.heap.size + 1, 1, none⟩ = false := frozen_of_row _ _ _ _ _ HF67.out
        have hz89 : w5.frozen? ⟨w.heap.size + 1, 2, none⟩ = false := frozen_of_row _ _ _ _ _ HF67.out
        have hz90 : w5.frozen? ⟨w.heap.size + 2, 0, none⟩ = false := frozen_of_row _ _ _ _ _ HF68.out
        have hz91 : w5.frozen? ⟨w.heap.size + 2, 1, none⟩ = false := frozen_of_row _ _ _ _ _ HF68.out
        have hz92 : w5.frozen? ⟨w.heap.size + 2, 2, none⟩ = false := frozen_of_row _ _ _ _ _ HF68.out
        go_wp2_with fail
        go_region
        obtain ⟨z1, z2, z3⟩ := set33 w5 (w.heap.size + 1) (w.heap.size + 1 + 1) (by omega) _ _ _ (.string S) (.int .i64 (q2 : Int)) (.int .i64 0) _ _ _ (.int .i64 1) (.int .i64 n) (.string ⟨#[]⟩) HF67.out HF68.out w HB70.out (by omega) (by omega)
        generalize ((((((w5.setCell ⟨w.heap.size + 1, 0, none⟩ (.string S)).setCell ⟨w.heap.size + 1, 1, none⟩ (.int .i64 (q2 : Int))).setCell ⟨w.heap.size + 1, 2, none⟩ (.int .i64 0)).setCell ⟨w.heap.size + 1 + 1, 0, none⟩ (.int .i64 1)).setCell ⟨w.heap.size + 1 + 1, 1, none⟩ (.int .i64 n)).setCell ⟨w.heap.size + 1 + 1, 2, none⟩ (.string ⟨#[]⟩)).drew = Wz at z1 z2 z3 ⊢
        have Z1 := Lib.hid z1
        have Z2 := Lib.hid z2
        have Z3 := Lib.hid z3
        clear z1 z2 z3
        clear hc71 hc72 hc73 hc78 hc79 hc80 hc81 hc82 hc83 hc84 hc85 hc86 hz87 hz88 hz89 hz90 hz91 hz92
        go_wp2_with fail
        refine bodyPost_ret (results_ccY rfl _ _ (w.heap.size + 1) (w.heap.size + 1 + 1) #[.string S, .int .i64 (q2 : Int), .int .i64 0] #[.int .i64 1, .int .i64 n, .string ⟨#[]⟩] rfl (run_loadVar_row _ (w.heap.size + 1) 192 192 _ (0, 0) _ Z1.out Try.underlying192 rfl (info_sc3 _ _ _)) rfl (run_loadVar_row _ (w.heap.size + 1 + 1) 158 158 _ (0, 0) _ Z2.out Try.underlying158 rfl (info_val _ _ _))) rfl ?_
        exact ⟨rfl, Z3.out⟩
    · obtain ⟨r1, r2⟩ : rvE S q er = e2 ∧ rvV S q er = (0, 0, ⟨#[]⟩) := by
        cases hv : vok 1 n ⟨#[]⟩ with
        | true => exact rv_err hM hv he
        | false =>
          have g := rv_bad hM hv
          rw [show Rd.fail e2 3 = e2 by unfold Rd.fail; rw [if_pos he]] at g
          exact g
      rw [r2, r1, hM]
      dsimp only [vvv]
      have hn : (e2 != 0) = true := by simpa using he
      have hn2 : (e2 == 0) = false := by simpa using he
      clear hM r1 r2 he
      have HB1 := Lib.hid (Below.refl w.heap.size w)
      go_enter Try.func200, Try.ntmps200
      go_wp2_with fail
      have HF2 := Lib.hid (blk_new w (.cells #[.string S, .int .i64 (q : Int), .int .i64 er] 192 (0, 0)))
      have HB3 := Lib.hid (HB1.out.alloc HB1.out.size (.cells #[.string S, .int .i64 (q : Int), .int .i64 er] 192 (0, 0)))
      clear HB1
      have HF4 := Lib.hid (blk_alloc HF2.out (.cells #[.string ⟨#[]⟩, .int .i64 0, .int .i64 0] 192 (0, 0)))
      clear HF2
      have HF5 : Hid (((w.alloc (.cells #[.string S, .int .i64 (q : Int), .int .i64 er] 192 (0, 0))).alloc (.cells #[.string ⟨#[]⟩, .int .i64 0, .int .i64 0] 192 (0, 0))).heap[w.heap.size + 1]? = some (.cells #[.string ⟨#[]⟩, .int .i64 0, .int .i64 0] 192 (0, 0))) := Lib.hid (blk_newN (W := (w.alloc (.cells #[.string S, .int .i64 (q : Int), .int .i64 er] 192 (0, 0)))) (o := (.cells #[.string ⟨#[]⟩, .int .i64 0, .int .i64 0] 192 (0, 0))) (by simp))
      have HB6 := Lib.hid (HB3.out.alloc (by have := HB3.out.size; simp at this ⊢ <;> omega) (.cells #[.string ⟨#[]⟩, .int .i64 0, .int .i64 0] 192 (0, 0)))
      clear HB3
      have HF7 := Lib.hid (blk_alloc HF4.out (.cells #[.int .i64 0, .int .i64 0, .string ⟨#[]⟩] 158 (0, 0)))
      clear HF4
      have HF8 := Lib.hid (blk_alloc HF5.out (.cells #[.int .i64 0, .int .i64 0, .string ⟨#[]⟩] 158 (0, 0)))
      clear HF5
      have HF9 : Hid ((((w.alloc (.cells #[.string S, .int .i64 (q : Int), .int .i64 er] 192 (0, 0))).alloc (.cells #[.string ⟨#[]⟩, .int .i64 0, .int .i64 0] 192 (0, 0))).alloc (.cells #[.int .i64 0, .int .i64 0, .string ⟨#[]⟩] 158 (0, 0))).heap[w.heap.size + 2]? = some (.cells #[.int .i64 0, .int .i64 0, .string ⟨#[]⟩] 158 (0, 0))) := Lib.hid (blk_newN (W := ((w.alloc (.cells #[.string S, .int .i64 (q : Int), .int .i64 er] 192 (0, 0))).alloc (.cells #[.string ⟨#[]⟩, .int .i64 0, .int .i64 0] 192 (0, 0)))) (o := (.cells #[.int .i64 0, .int .i64 0, .string ⟨#[]⟩] 158 (0, 0))) (by simp))
      have HB10 := Lib.hid (HB6.out.alloc (by have := HB6.out.size; simp at this ⊢ <;> omega) (.cells #[.int .i64 0, .int .i64 0, .string ⟨#[]⟩] 158 (0, 0)))
      clear HB6
      refine (H1.out (((w.alloc (.cells #[.string S, .int .i64 (q : Int), .int .i64 er] 192 (0, 0))).alloc (.cells #[.string ⟨#[]⟩, .int .i64 0, .int .i64 0] 192 (0, 0))).alloc (.cells #[.int .i64 0, .int .i64 0, .string ⟨#[]⟩] 158 (0, 0)))).mono ?_
      rintro e w1 ⟨rfl, hb1⟩
      have HF11 := Lib.hid (blk_below HF7.out hb1)
      have HF12 := Lib.hid (blk_below HF8.out hb1)
      have HF13 := Lib.hid (blk_below HF9.out hb1)
      have HB14 := Lib.hid (HB10.out.trans (hb1.mono HB10.out.size))
      clear hb1 HB10 HF7 HF8 HF9
      have hk15 : w.heap.size < w1.heap.size := lt_of_block HF11.out
      have hk16 : w.heap.size + 1 < w1.heap.size := lt_of_block HF12.out
      have hk17 : w.heap.size + 2 < w1.heap.size := lt_of_block HF13.out
      go_wp2_with (first
        | refine wpList_store_rowY rfl 192 (.tmp 1) (.tmp 9) rfl (w.heap.size) #[.string S, .int .i64 (q1 : Int), .int .i64 e1] rfl rfl 192 _ HF11.out (info_sc3 _ _ _) rfl (one_sc3 _ _ _) w.heap.size w HB14.out (by omega) ?_)
      intro W2 hbk hoth hbel _
      have HF18 := Lib.hid hbk.out
      have HF19 := Lib.hid (blk_oth HF12.out hoth.out (by omega))
      have HF20 := Lib.hid (blk_oth HF13.out hoth.out (by omega))
      have HB21 := Lib.hid hbel.out
      clear hbk hoth hbel HB14 HF11 HF12 HF13
      have hk22 : w.heap.size < W2.heap.size := lt_of_block HF18.out
      have hk23 : w.heap.size + 1 < W2.heap.size := lt_of_block HF19.out
      have hk24 : w.heap.size + 2 < W2.heap.size := lt_of_block HF20.out
      have HF25 := Lib.hid (blk_alloc HF18.out (.cells #[.int .i64 1, .int .i64 0, .string ⟨#[]⟩] 158 (0, 0)))
      have HF26 := Lib.hid (blk_alloc HF19.out (.cells #[.int .i64 1, .int .i64 0, .string ⟨#[]⟩] 158 (0, 0)))
      have HF27 := Lib.hid (blk_alloc HF20.out (.cells #[.int .i64 1, .int .i64 0, .string ⟨#[]⟩] 158 (0, 0)))
      have HF28 := Lib.hid (blk_new W2 (.cells #[.int .i64 1, .int .i64 0, .string ⟨#[]⟩] 158 (0, 0)))
      have HB29 := Lib.hid (HB21.out.alloc HB21.out.size (.cells #[.int .i64 1, .int .i64 0, .string ⟨#[]⟩] 158 (0, 0)))
      clear HB21
      have hc30 : (W2.alloc (.cells #[.int .i64 1, .int .i64 0, .string ⟨#[]⟩] 158 (0, 0))).cell? ⟨w.heap.size, 0, none⟩ = some (.string S) := by rw [cell_of_row _ _ _ _ _ _ HF25.out]; rfl
      have hc31 : W2.cell? ⟨w.heap.size, 0, none⟩ = some (.string S) := by rw [cell_of_row _ _ _ _ _ _ HF18.out]; rfl
      have hc32 : (W2.alloc (.cells #[.int .i64 1, .int .i64 0, .string ⟨#[]⟩] 158 (0, 0))).cell? ⟨w.heap.size, 1, none⟩ = some (.int .i64 (q1 : Int)) := by rw [cell_of_row _ _ _ _ _ _ HF25.out]; rfl
      have hc33 : W2.cell? ⟨w.heap.size, 1, none⟩ = some (.int .i64 (q1 : Int)) := by rw [cell_of_row _ _ _ _ _ _ HF18.out]; rfl
      have hc34 : (W2.alloc (.cells #[.int .i64 1, .int .i64 0, .string ⟨#[]⟩] 158 (0, 0))).cell? ⟨w.heap.size, 2, none⟩ = some (.int .i64 e1) := by rw [cell_of_row _ _ _ _ _ _ HF25.out]; rfl
      have hc35 : W2.cell? ⟨w.heap.size, 2, none⟩ = some (.int .i64 e1) := by rw [cell_of_row _ _ _ _ _ _ HF18.out]; rfl
      have hl36 : w.heap.size < W2.heap.size := lt_of_block HF18.out
      have hl37 : ¬ w.heap.size = W2.heap.size := by omega
      go_wp2_with fail
      refine (H2.out (W2.alloc (.cells #[.int .i64 1, .int .i64 0, .string ⟨#[]⟩] 158 (0, 0)))).mono ?_
      rintro e w3 ⟨rfl, hb3⟩
      clear hc30 hc31 hc32 hc33 hc34 hc35 hl36 hl37
      have HF38 := Lib.hid (blk_below HF25.out hb3)
      have HF39 := Lib.hid (blk_below HF26.out hb3)
      have HF40 := Lib.hid (blk_below HF27.out hb3)
      have HF41 := Lib.hid (blk_below HF28.out hb3)
      have HB42 := Lib.hid (HB29.out.trans (hb3.mono HB29.out.size))
      clear hb3 HB29 HF25 HF18 HF26 HF19 HF27 HF20 HF28
      go_wp2_with (first
        | refine wpList_store_rowY rfl 192 (.tmp 1) (.tmp 18) rfl (w.heap.size) #[.string S, .int .i64 (q2 : Int), .int .i64 e2] rfl rfl 192 _ HF38.out (info_sc3 _ _ _) rfl (one_sc3 _ _ _) w.heap.size w HB42.out (by omega) ?_)
      intro W4 hbk hoth hbel _
      have HF43 := Lib.hid hbk.out
      have HF44 := Lib.hid (blk_oth HF39.out hoth.out (by omega))
      have HF45 := Lib.hid (blk_oth HF40.out hoth.out (by omega))
      have HF46 := Lib.hid (blk_oth HF41.out hoth.out (by omega))
      have HB47 := Lib.hid hbel.out
      clear hbk hoth hbel HB42 HF38 HF39 HF40 HF41
      have hc48 : W4.cell? ⟨W2.heap.size, 0, none⟩ = some (.int .i64 1) := by rw [cell_of_row _ _ _ _ _ _ HF46.out]; rfl
      have hc49 : W4.cell? ⟨W2.heap.size, 1, none⟩ = some (.int .i64 0) := by rw [cell_of_row _ _ _ _ _ _ HF46.out]; rfl
      have hc50 : W4.cell? ⟨W2.heap.size, 2, none⟩ = some (.string ⟨#[]⟩) := by rw [cell_of_row _ _ _ _ _ _ HF46.out]; rfl
      have hc51 : W4.cell? ⟨w.heap.size, 0, none⟩ = some (.string S) := by rw [cell_of_row _ _ _ _ _ _ HF43.out]; rfl
      have hc52 : W4.cell? ⟨w.heap.size, 1, none⟩ = some (.int .i64 (q2 : Int)) := by rw [cell_of_row _ _ _ _ _ _ HF43.out]; rfl
      have hc53 : W4.cell? ⟨w.heap.size, 2, none⟩ = some (.int .i64 e2) := by rw [cell_of_row _ _ _ _ _ _ HF43.out]; rfl
      have hz54 : W4.frozen? ⟨W2.heap.size, 1, none⟩ = false := frozen_of_row _ _ _ _ _ HF46.out
      have HF55 := Lib.hid (show (W4.setCell ⟨W2.heap.size, 1, none⟩ (.int .i64 n)).heap[w.heap.size]? = some (.cells #[.string S, .int .i64 (q2 : Int), .int .i64 e2] 192 (0, 0)) by rw [Below.heap_setCell _ _ _ _ (by show w.heap.size ≠ W2.heap.size; omega)]; exact HF43.out)
      have HF56 := Lib.hid (show (W4.setCell ⟨W2.heap.size, 1, none⟩ (.int .i64 n)).heap[w.heap.size + 1]? = some (.cells #[.string ⟨#[]⟩, .int .i64 0, .int .i64 0] 192 (0, 0)) by rw [Below.heap_setCell _ _ _ _ (by show w.heap.size + 1 ≠ W2.heap.size; omega)]; exact HF44.out)
      have HF57 := Lib.hid (show (W4.setCell ⟨W2.heap.size, 1, none⟩ (.int .i64 n)).heap[w.heap.size + 2]? = some (.cells #[.int .i64 0, .int .i64 0, .string ⟨#[]⟩] 158 (0, 0)) by rw [Below.heap_setCell _ _ _ _ (by show w.heap.size + 2 ≠ W2.heap.size; omega)]; exact HF45.out)
      have HF58 := Lib.hid (show (W4.setCell ⟨W2.heap.size, 1, none⟩ (.int .i64 n)).heap[W2.heap.size]? = some (.cells #[.int .i64 1, .int .i64 n, .string ⟨#[]⟩] 158 (0, 0)) by have h := heap_setCell_at (i := 1) (u := .int .i64 n) HF46.out; exact h)
      have HB59 := Lib.hid (HB47.out.setCell (p := ⟨W2.heap.size, 1, none⟩) (by show w.heap.size ≤ W2.heap.size; omega) (.int .i64 n))
      have hc60 : (W4.setCell ⟨W2.heap.size, 1, none⟩ (.int .i64 n)).cell? ⟨w.heap.size, 0, none⟩ = some (.string S) := by rw [cell_of_row _ _ _ _ _ _ HF55.out]; rfl
      have hc61 : (W4.setCell ⟨W2.heap.size, 1, none⟩ (.int .i64 n)).cell? ⟨w.heap.size, 1, none⟩ = some (.int .i64 (q2 : Int)) := by rw [cell_of_row _ _ _ _ _ _ HF55.out]; rfl
      have hc62 : (W4.setCell ⟨W2.heap.size, 1, none⟩ (.int .i64 n)).cell? ⟨w.heap.size, 2, none⟩ = some (.int .i64 e2) := by rw [cell_of_row _ _ _ _ _ _ HF55.out]; rfl
      have hc63 : (W4.setCell ⟨W2.heap.size, 1, none⟩ (.int .i64 n)).cell? ⟨W2.heap.size, 0, none⟩ = some (.int .i64 1) := by rw [cell_of_row _ _ _ _ _ _ HF58.out]; rfl
      have hc64 : (W4.setCell ⟨W2.heap.size, 1, none⟩ (.int .i64 n)).cell? ⟨W2.heap.size, 1, none⟩ = some (.int .i64 n) := by rw [cell_of_row _ _ _ _ _ _ HF58.out]; rfl
      have hc65 : (W4.setCell ⟨W2.heap.size, 1, none⟩ (.int .i64 n)).cell? ⟨W2.heap.size, 2, none⟩ = some (.string ⟨#[]⟩) := by rw [cell_of_row _ _ _ _ _ _ HF58.out]; rfl
      have hk66 : w.heap.size < (W4.setCell ⟨W2.heap.size, 1, none⟩ (.int .i64 n)).heap.size := lt_of_block HF55.out
      have hk67 : w.heap.size + 1 < (W4.setCell ⟨W2.heap.size, 1, none⟩ (.int .i64 n)).heap.size := lt_of_block HF56.out
      have hk68 : w.heap.size + 2 < (W4.setCell ⟨W2.heap.size, 1, none⟩ (.int .i64 n)).heap.size := lt_of_block HF57.out
      have hk69 : W2.heap.size < (W4.setCell ⟨W2.heap.size, 1, none⟩ (.int .i64 n)).heap.size := lt_of_block HF58.out
      go_wp2_with (first
        | refine wpList_store_rowY rfl 192 (.tmp 2) (.tmp 49) rfl (w.heap.size + 1) #[.string S, .int .i64 (q2 : Int), .int .i64 e2] rfl rfl 192 _ HF56.out (info_sc3 _ _ _) rfl (one_sc3 _ _ _) w.heap.size w HB59.out (by omega) ?_
        | refine wpList_load_row rfl 192 (.tmp 1) rfl (w.heap.size) rfl 192 #[.string S, .int .i64 (q2 : Int), .int .i64 e2] (0, 0) _ HF55.out Try.underlying192 rfl (info_sc3 _ _ _) ?_)
      intro W5 hbk hoth hbel _
      clear hc48 hc49 hc50 hc51 hc52 hc53 hz54 hc60 hc61 hc62 hc63 hc64 hc65
      have HF70 := Lib.hid (blk_oth HF55.out hoth.out (by omega))
      have HF71 := Lib.hid hbk.out
      have HF72 := Lib.hid (blk_oth HF57.out hoth.out (by omega))
      have HF73 := Lib.hid (blk_oth HF58.out hoth.out (by omega))
      have HB74 := Lib.hid hbel.out
      clear hbk hoth hbel HB59 HF55 HF56 HF57 HF58
      go_wp2_with (first
        | refine wpList_store_rowY rfl 158 (.tmp 3) (.tmp 50) rfl (w.heap.size + 2) #[.int .i64 0, .int .i64 0, .string ⟨#[]⟩] rfl rfl 158 _ HF72.out (info_val _ _ _) rfl (one_val _ _ _) w.heap.size w HB74.out (by omega) ?_)
      intro W6 hbk hoth hbel _
      have HF75 := Lib.hid (blk_oth HF70.out hoth.out (by omega))
      have HF76 := Lib.hid (blk_oth HF71.out hoth.out (by omega))
      have HF77 := Lib.hid hbk.out
      have HF78 := Lib.hid (blk_oth HF73.out hoth.out (by omega))
      have HB79 := Lib.hid hbel.out
      clear hbk hoth hbel HB74 HF70 HF71 HF72 HF73
      go_wp2_with fail
      refine bodyPost_ret (results_ccY rfl _ _ (w.heap.size + 1) (w.heap.size + 2) #[.string S, .int .i64 (q2 : Int), .int .i64 e2] #[.int .i64 0, .int .i64 0, .string ⟨#[]⟩] rfl (run_loadVar_row _ (w.heap.size + 1) 192 192 _ (0, 0) _ HF76.out Try.underlying192 rfl (info_sc3 _ _ _)) rfl (run_loadVar_row _ (w.heap.size + 2) 158 158 _ (0, 0) _ HF77.out Try.underlying158 rfl (info_val _ _ _))) rfl ?_
      exact ⟨rfl, HB79.out⟩
  · rw [if_neg k1] at hM
    have kb1 : (k == 1) = false := by simpa using k1
    by_cases k2 : k = 2
    · subst k2
      rw [if_pos rfl] at hM
      clear k1 kb1
      obtain ⟨n, q2, e2, h2⟩ : ∃ a b c, Rd.int S q1 e1 = (a, b, c) := ⟨_, _, _, rfl⟩
      rw [h2] at hM
      dsimp only at hM
      have H2 := Lib.hid (fun W : World => rintZ S q1 e1 _ _ _ W hS l1 h2)
      clear h2
      by_cases he : e2 = 0
      · cases hv : vok 2 n ⟨#[]⟩ with
        | false =>
          obtain ⟨r1, r2⟩ := rv_bad hM hv
          rw [show Rd.fail e2 3 = 3 from he ▸ rfl] at r1
          rw [r2, r1, hM]
          dsimp only [vvv]
          have HCK := Lib.hid (fun W : World => vis_any 2 n ⟨#[]⟩ W)
          rw [hv] at HCK
          subst he
          clear hM hv r1 r2
          have HB1 := Lib.hid (Below.refl w.heap.size w)
          go_enter Try.func200, Try.ntmps200
          go_wp2_with fail
          have HF2 := Lib.hid (blk_new w (.cells #[.string S, .int .i64 (q : Int), .int .i64 er] 192 (0, 0)))
          have HB3 := Lib.hid (HB1.out.alloc HB1.out.size (.cells #[.string S, .int .i64 (q : Int), .int .i64 er] 192 (0, 0)))
          clear HB1
          have HF4 := Lib.hid (blk_alloc HF2.out (.cells #[.string ⟨#[]⟩, .int .i64 0, .int .i64 0] 192 (0, 0)))
          clear HF2
          have HF5 : Hid (((w.alloc (.cells #[.string S, .int .i64 (q : Int), .int .i64 er] 192 (0, 0))).alloc (.cells #[.string ⟨#[]⟩, .int .i64 0, .int .i64 0] 192 (0, 0))).heap[w.heap.size + 1]? = some (.cells #[.string ⟨#[]⟩, .int .i64 0, .int .i64 0] 192 (0, 0))) := Lib.hid (blk_newN (W := (w.alloc (.cells #[.string S, .int .i64 (q : Int), .int .i64 er] 192 (0, 0)))) (o := (.cells #[.string ⟨#[]⟩, .int .i64 0, .int .i64 0] 192 (0, 0))) (by simp))
          have HB6 := Lib.hid (HB3.out.alloc (by have := HB3.out.size; simp at this ⊢ <;> omega) (.cells #[.string ⟨#[]⟩, .int .i64 0, .int .i64 0] 192 (0, 0)))
          clear HB3
          have HF7 := Lib.hid (blk_alloc HF4.out (.cells #[.int .i64 0, .int .i64 0, .string ⟨#[]⟩] 158 (0, 0)))
          clear HF4
          have HF8 := Lib.hid (blk_alloc HF5.out (.cells #[.int .i64 0, .int .i64 0, .string ⟨#[]⟩] 158 (0, 0)))
          clear HF5
          have HF9 : Hid ((((w.alloc (.cells #[.string S, .int .i64 (q : Int), .int .i64 er] 192 (0, 0))).alloc (.cells #[.string ⟨#[]⟩, .int .i64 0, .int .i64 0] 192 (0, 0))).alloc (.cells #[.int .i64 0, .int .i64 0, .string ⟨#[]⟩] 158 (0, 0))).heap[w.heap.size + 2]? = some (.cells #[.int .i64 0, .int .i64 0, .string ⟨#[]⟩] 158 (0, 0))) := Lib.hid (blk_newN (W := ((w.alloc (.cells #[.string S, .int .i64 (q : Int), .int .i64 er] 192 (0, 0))).alloc (.cells #[.string ⟨#[]⟩, .int .i64 0, .int .i64 0] 192 (0, 0)))) (o := (.cells #[.int .i64 0, .int .i64 0, .string ⟨#[]⟩] 158 (0, 0))) (by simp))
          have HB10 := Lib.hid (HB6.out.alloc (by have := HB6.out.size; simp at this ⊢ <;> omega) (.cells #[.int .i64 0, .int .i64 0, .string ⟨#[]⟩] 158 (0, 0)))
          clear HB6
          refine (H1.out (((w.alloc (.cells #[.string S, .int .i64 (q : Int), .int .i64 er] 192 (0, 0))).alloc (.cells #[.string ⟨#[]⟩, .int .i64 0, .int .i64 0] 192 (0, 0))).alloc (.cells #[.int .i64 0, .int .i64 0, .string ⟨#[]⟩] 158 (0, 0)))).mono ?_
          rintro e w1 ⟨rfl, hb1⟩
          have HF11 := Lib.hid (blk_below HF7.out hb1)
          have HF12 := Lib.hid (blk_below HF8.out hb1)
          have HF13 := Lib.hid (blk_below HF9.out hb1)
          have HB14 := Lib.hid (HB10.out.trans (hb1.mono HB10.out.size))
          clear hb1 HB10 HF7 HF8 HF9
          have hk15 : w.heap.size < w1.heap.size := lt_of_block HF11.out
          have hk16 : w.heap.size + 1 < w1.heap.size := lt_of_block HF12.out
          have hk17 : w.heap.size + 2 < w1.heap.size := lt_of_block HF13.out
          go_wp2_with (first
            | refine wpList_store_rowY rfl 192 (.tmp 1) (.tmp 9) rfl (w.heap.size) #[.string S, .int .i64 (q1 : Int), .int .i64 e1] rfl rfl 192 _ HF11.out (info_sc3 _ _ _) rfl (one_sc3 _ _ _) w.heap.size w HB14.out (by omega) ?_)
          intro W2 hbk hoth hbel _
          have HF18 := Lib.hid hbk.out
          have HF19 := Lib.hid (blk_oth HF12.out hoth.out (by omega))
          have HF20 := Lib.hid (blk_oth HF13.out hoth.out (by omega))
          have HB21 := Lib.hid hbel.out
          clear hbk hoth hbel HB14 HF11 HF12 HF13
          have hk22 : w.heap.size < W2.heap.size := lt_of_block HF18.out
          have hk23 : w.heap.size + 1 < W2.heap.size := lt_of_block HF19.out
          have hk24 : w.heap.size + 2 < W2.heap.size := lt_of_block HF20.out
          have HF25 := Lib.hid (blk_alloc HF18.out (.cells #[.int .i64 2, .int .i64 0, .string ⟨#[]⟩] 158 (0, 0)))
          have HF26 := Lib.hid (blk_alloc HF19.out (.cells #[.int .i64 2, .int .i64 0, .string ⟨#[]⟩] 158 (0, 0)))
          have HF27 := Lib.hid (blk_alloc HF20.out (.cells #[.int .i64 2, .int .i64 0, .string ⟨#[]⟩] 158 (0, 0)))
          have HF28 := Lib.hid (blk_new W2 (.cells #[.int .i64 2, .int .i64 0, .string ⟨#[]⟩] 158 (0, 0)))
          have HB29 := Lib.hid (HB21.out.alloc HB21.out.size (.cells #[.int .i64 2, .int .i64 0, .string ⟨#[]⟩] 158 (0, 0)))
          clear HB21
          have hc30 : (W2.alloc (.cells #[.int .i64 2, .int .i64 0, .string ⟨#[]⟩] 158 (0, 0))).cell? ⟨w.heap.size, 0, none⟩ = some (.string S) := by rw [cell_of_row _ _ _ _ _ _ HF25.out]; rfl
          have hc31 : W2.cell? ⟨w.heap.size, 0, none⟩ = some (.string S) := by rw [cell_of_row _ _ _ _ _ _ HF18.out]; rfl
          have hc32 : (W2.alloc (.cells #[.int .i64 2, .int .i64 0, .string ⟨#[]⟩] 158 (0, 0))).cell? ⟨w.heap.size, 1, none⟩ = some (.int .i64 (q1 : Int)) := by rw [cell_of_row _ _ _ _ _ _ HF25.out]; rfl
          have hc33 : W2.cell? ⟨w.heap.size, 1, none⟩ = some (.int .i64 (q1 : Int)) := by rw [cell_of_row _ _ _ _ _ _ HF18.out]; rfl
          have hc34 : (W2.alloc (.cells #[.int .i64 2, .int .i64 0, .string ⟨#[]⟩] 158 (0, 0))).cell? ⟨w.heap.size, 2, none⟩ = some (.int .i64 e1) := by rw [cell_of_row _ _ _ _ _ _ HF25.out]; rfl
          have hc35 : W2.cell? ⟨w.heap.size, 2, none⟩ = some (.int .i64 e1) := by rw [cell_of_row _ _ _ _ _ _ HF18.out]; rfl
          have hl36 : w.heap.size < W2.heap.size := lt_of_block HF18.out
          have hl37 : ¬ w.heap.size = W2.heap.size := by omega
          go_wp2_with fail
          refine (H2.out (W2.alloc (.cells #[.int .i64 2, .int .i64 0, .string ⟨#[]⟩] 158 (0, 0)))).mono ?_
          rintro e w3 ⟨rfl, hb3⟩
          clear hc30 hc31 hc32 hc33 hc34 hc35 hl36 hl37
          have HF38 := Lib.hid (blk_below HF25.out hb3)
          have HF39 := Lib.hid (blk_below HF26.out hb3)
          have HF40 := Lib.hid (blk_below HF27.out hb3)
          have HF41 := Lib.hid (blk_below HF28.out hb3)
          have HB42 := Lib.hid (HB29.out.trans (hb3.mono HB29.out.size))
          clear hb3 HB29 HF25 HF18 HF26 HF19 HF27 HF20 HF28
          go_wp2_with (first
            | refine wpList_store_rowY rfl 192 (.tmp 1) (.tmp 26) rfl (w.heap.size) #[.string S, .int .i64 (q2 : Int), .int .i64 0] rfl rfl 192 _ HF38.out (info_sc3 _ _ _) rfl (one_sc3 _ _ _) w.heap.size w HB42.out (by omega) ?_)
          intro W4 hbk hoth hbel _
          have HF43 := Lib.hid hbk.out
          have HF44 := Lib.hid (blk_oth HF39.out hoth.out (by omega))
          have HF45 := Lib.hid (blk_oth HF40.out hoth.out (by omega))
          have HF46 := Lib.hid (blk_oth HF41.out hoth.out (by omega))
          have HB47 := Lib.hid hbel.out
          clear hbk hoth hbel HB42 HF38 HF39 HF40 HF41
          have hc48 : W4.cell? ⟨W2.heap.size, 0, none⟩ = some (.int .i64 2) := by rw [cell_of_row _ _ _ _ _ _ HF46.out]; rfl
          have hc49 : W4.cell? ⟨W2.heap.size, 1, none⟩ = some (.int .i64 0) := by rw [cell_of_row _ _ _ _ _ _ HF46.out]; rfl
          have hc50 : W4.cell? ⟨W2.heap.size, 2, none⟩ = some (.string ⟨#[]⟩) := by rw [cell_of_row _ _ _ _ _ _ HF46.out]; rfl
          have hc51 : W4.cell? ⟨w.heap.size, 0, none⟩ = some (.string S) := by rw [cell_of_row _ _ _ _ _ _ HF43.out]; rfl
          have hc52 : W4.cell? ⟨w.heap.size, 1, none⟩ = some (.int .i64 (q2 : Int)) := by rw [cell_of_row _ _ _ _ _ _ HF43.out]; rfl
          have hc53 : W4.cell? ⟨w.heap.size, 2, none⟩ = some (.int .i64 0) := by rw [cell_of_row _ _ _ _ _ _ HF43.out]; rfl
          have hz54 : W4.frozen? ⟨W2.heap.size, 1, none⟩ = false := frozen_of_row _ _ _ _ _ HF46.out
          have HF55 := Lib.hid (show (W4.setCell ⟨W2.heap.size, 1, none⟩ (.int .i64 n)).heap[w.heap.size]? = some (.cells #[.string S, .int .i64 (q2 : Int), .int .i64 0] 192 (0, 0)) by rw [Below.heap_setCell _ _ _ _ (by show w.heap.size ≠ W2.heap.size; omega)]; exact HF43.out)
          have HF56 := Lib.hid (show (W4.setCell ⟨W2.heap.size, 1, none⟩ (.int .i64 n)).heap[w.heap.size + 1]? = some (.cells #[.string ⟨#[]⟩, .int .i64 0, .int .i64 0] 192 (0, 0)) by rw [Below.heap_setCell _ _ _ _ (by show w.heap.size + 1 ≠ W2.heap.size; omega)]; exact HF44.out)
          have HF57 := Lib.hid (show (W4.setCell ⟨W2.heap.size, 1, none⟩ (.int .i64 n)).heap[w.heap.size + 2]? = some (.cells #[.int .i64 0, .int .i64 0, .string ⟨#[]⟩] 158 (0, 0)) by rw [Below.heap_setCell _ _ _ _ (by show w.heap.size + 2 ≠ W2.heap.size; omega)]; exact HF45.out)
          have HF58 := Lib.hid (show (W4.setCell ⟨W2.heap.size, 1, none⟩ (.int .i64 n)).heap[W2.heap.size]? = some (.cells #[.int .i64 2, .int .i64 n, .string ⟨#[]⟩] 158 (0, 0)) by have h := heap_setCell_at (i := 1) (u := .int .i64 n) HF46.out; exact h)
          have HB59 := Lib.hid (HB47.out.setCell (p := ⟨W2.heap.size, 1, none⟩) (by show w.heap.size ≤ W2.heap.size; omega) (.int .i64 n))
          have hc60 : (W4.setCell ⟨W2.heap.size, 1, none⟩ (.int .i64 n)).cell? ⟨w.heap.size, 0, none⟩ = some (.string S) := by rw [cell_of_row _ _ _ _ _ _ HF55.out]; rfl
          have hc61 : (W4.setCell ⟨W2.heap.size, 1, none⟩ (.int .i64 n)).cell? ⟨w.heap.size, 1, none⟩ = some (.int .i64 (q2 : Int)) := by rw [cell_of_row _ _ _ _ _ _ HF55.out]; rfl
          have hc62 : (W4.setCell ⟨W2.heap.size, 1, none⟩ (.int .i64 n)).cell? ⟨w.heap.size, 2, none⟩ = some (.int .i64 0) := by rw [cell_of_row _ _ _ _ _ _ HF55.out]; rfl
          have hc63 : (W4.setCell ⟨W2.heap.size, 1, none⟩ (.int .i64 n)).cell? ⟨W2.heap.size, 0, none⟩ = some (.int .i64 2) := by rw [cell_of_row _ _ _ _ _ _ HF58.out]; rfl
          have hc64 : (W4.setCell ⟨W2.heap.size, 1, none⟩ (.int .i64 n)).cell? ⟨W2.heap.size, 1, none⟩ = some (.int .i64 n) := by rw [cell_of_row _ _ _ _ _ _ HF58.out]; rfl
          have hc65 : (W4.setCell ⟨W2.heap.size, 1, none⟩ (.int .i64 n)).cell? ⟨W2.heap.size, 2, none⟩ = some (.string ⟨#[]⟩) := by rw [cell_of_row _ _ _ _ _ _ HF58.out]; rfl
          go_wp2_with fail
          refine (HCK.out (W4.setCell ⟨W2.heap.size, 1, none⟩ (.int .i64 n))).mono ?_
          rintro e w5 ⟨rfl, hb5⟩
          clear hc48 hc49 hc50 hc51 hc52 hc53 hz54 hc60 hc61 hc62 hc63 hc64 hc65
          have HF66 := Lib.hid (blk_below HF55.out hb5)
          have HF67 := Lib.hid (blk_below HF56.out hb5)
          have HF68 := Lib.hid (blk_below HF57.out hb5)
          have HF69 := Lib.hid (blk_below HF58.out hb5)
          have HB70 := Lib.hid (HB59.out.trans (hb5.mono HB59.out.size))
          clear hb5 HB59 HF55 HF56 HF57 HF58
          have hc71 : w5.cell? ⟨w.heap.size, 0, none⟩ = some (.string S) := by rw [cell_of_row _ _ _ _ _ _ HF66.out]; rfl
          have hc72 : w5.cell? ⟨w.heap.size, 1, none⟩ = some (.int .i64 (q2 : Int)) := by rw [cell_of_row _ _ _ _ _ _ HF66.out]; rfl
          have hc73 : w5.cell? ⟨w.heap.size, 2, none⟩ = some (.int .i64 0) := by rw [cell_of_row _ _ _ _ _ _ HF66.out]; rfl
          have hz74 : w5.frozen? ⟨w.heap.size, 2, none⟩ = false := frozen_of_row _ _ _ _ _ HF66.out
          have HF75 := Lib.hid (show (w5.setCell ⟨w.heap.size, 2, none⟩ (.int .i64 3)).heap[w.heap.size]? = some (.cells #[.string S, .int .i64 (q2 : Int), .int .i64 3] 192 (0, 0)) by have h := heap_setCell_at (i := 2) (u := .int .i64 3) HF66.out; exact h)
          have HF76 := Lib.hid (show (w5.setCell ⟨w.heap.size, 2, none⟩ (.int .i64 3)).heap[w.heap.size + 1]? = some (.cells #[.string ⟨#[]⟩, .int .i64 0, .int .i64 0] 192 (0, 0)) by rw [Below.heap_setCell _ _ _ _ (by show w.heap.size + 1 ≠ w.heap.size; omega)]; exact HF67.out)
          have HF77 := Lib.hid (show (w5.setCell ⟨w.heap.size, 2, none⟩ (.int .i64 3)).heap[w.heap.size + 2]? = some (.cells #[.int .i64 0, .int .i64 0, .string ⟨#[]⟩] 158 (0, 0)) by rw [Below.heap_setCell _ _ _ _ (by show w.heap.size + 2 ≠ w.heap.size; omega)]; exact HF68.out)
          have HF78 := Lib.hid (show (w5.setCell ⟨w.heap.size, 2, none⟩ (.int .i64 3)).heap[W2.heap.size]? = some (.cells #[.int .i64 2, .int .i64 n, .string ⟨#[]⟩] 158 (0, 0)) by rw [Below.heap_setCell _ _ _ _ (by show W2.heap.size ≠ w.heap.size; omega)]; exact HF69.out)
          have HB79 := Lib.hid (HB70.out.setCell (p := ⟨w.heap.size, 2, none⟩) (by show w.heap.size ≤ w.heap.size; omega) (.int .i64 3))
          have hc80 : (w5.setCell ⟨w.heap.size, 2, none⟩ (.int .i64 3)).cell? ⟨w.heap.size, 0, none⟩ = some (.string S) := by rw [cell_of_row _ _ _ _ _ _ HF75.out]; rfl
          have hc81 : (w5.setCell ⟨w.heap.size, 2, none⟩ (.int .i64 3)).cell? ⟨w.heap.size, 1, none⟩ = some (.int .i64 (q2 : Int)) := by rw [cell_of_row _ _ _ _ _ _ HF75.out]; rfl
          have hc82 : (w5.setCell ⟨w.heap.size, 2, none⟩ (.int .i64 3)).cell? ⟨w.heap.size, 2, none⟩ = some (.int .i64 3) := by rw [cell_of_row _ _ _ _ _ _ HF75.out]; rfl
          have hk83 : w.heap.size < (w5.setCell ⟨w.heap.size, 2, none⟩ (.int .i64 3)).heap.size := lt_of_block HF75.out
          have hk84 : w.heap.size + 1 < (w5.setCell ⟨w.heap.size, 2, none⟩ (.int .i64 3)).heap.size := lt_of_block HF76.out
          have hk85 : w.heap.size + 2 < (w5.setCell ⟨w.heap.size, 2, none⟩ (.int .i64 3)).heap.size := lt_of_block HF77.out
          have hk86 : W2.heap.size < (w5.setCell ⟨w.heap.size, 2, none⟩ (.int .i64 3)).heap.size := lt_of_block HF78.out
          go_wp2_with (first
            | refine wpList_store_rowY rfl 192 (.tmp 2) (.tmp 49) rfl (w.heap.size + 1) #[.string S, .int .i64 (q2 : Int), .int .i64 3] rfl rfl 192 _ HF76.out (info_sc3 _ _ _) rfl (one_sc3 _ _ _) w.heap.size w HB79.out (by omega) ?_
            | refine wpList_load_row rfl 192 (.tmp 1) rfl (w.heap.size) rfl 192 #[.string S, .int .i64 (q2 : Int), .int .i64 3] (0, 0) _ HF75.out Try.underlying192 rfl (info_sc3 _ _ _) ?_)
          intro W6 hbk hoth hbel _
          clear hc71 hc72 hc73 hz74 hc80 hc81 hc82
          have HF87 := Lib.hid (blk_oth HF75.out hoth.out (by omega))
          have HF88 := Lib.hid hbk.out
          have HF89 := Lib.hid (blk_oth HF77.out hoth.out (by omega))
          have HF90 := Lib.hid (blk_oth HF78.out hoth.out (by omega))
          have HB91 := Lib.hid hbel.out
          clear hbk hoth hbel HB79 HF75 HF76 HF77 HF78
          go_wp2_with (first
            | refine wpList_store_rowY rfl 158 (.tmp 3) (.tmp 50) rfl (w.heap.size + 2) #[.int .i64 0, .int .i64 0, .string ⟨#[]⟩] rfl rfl 158 _ HF89.out (info_val _ _ _) rfl (one_val _ _ _) w.heap.size w HB91.out (by omega) ?_)
          intro W7 hbk hoth hbel _
          have HF92 := Lib.hid (blk_oth HF87.out hoth.out (by omega))
          have HF93 := Lib.hid (blk_oth HF88.out hoth.out (by omega))
          have HF94 := Lib.hid hbk.out
          have HF95 := Lib.hid (blk_oth HF90.out hoth.out (by omega))
          have HB96 := Lib.hid hbel.out
          clear hbk hoth hbel HB91 HF87 HF88 HF89 HF90
          go_wp2_with fail
          refine bodyPost_ret (results_ccY rfl _ _ (w.heap.size + 1) (w.heap.size + 2) #[.string S, .int .i64 (q2 : Int), .int .i64 3] #[.int .i64 0, .int .i64 0, .string ⟨#[]⟩] rfl (run_loadVar_row _ (w.heap.size + 1) 192 192 _ (0, 0) _ HF93.out Try.underlying192 rfl (info_sc3 _ _ _)) rfl (run_loadVar_row _ (w.heap.size + 2) 158 158 _ (0, 0) _ HF94.out Try.underlying158 rfl (info_val _ _ _))) rfl ?_
          exact ⟨rfl, HB96.out⟩
        | true =>
          obtain ⟨r1, r2⟩ := rv_good (he ▸ hM) hv
          rw [r2, r1, hM]
          dsimp only [vvv]
          have HCK := Lib.hid (fun W : World => vis_any 2 n ⟨#[]⟩ W)
          rw [hv] at HCK
          subst he
          clear hM hv r1 r2
          have HB1 := Lib.hid (Below.refl w.heap.size w)
          go_enter Try.func200, Try.ntmps200
          go_wp2_with fail
          have HF2 := Lib.hid (blk_new w (.cells #[.string S, .int .i64 (q : Int), .int .i64 er] 192 (0, 0)))
          have HB3 := Lib.hid (HB1.out.alloc HB1.out.size (.cells #[.string S, .int .i64 (q : Int), .int .i64 er] 192 (0, 0)))
          clear HB1
          have HF4 := Lib.hid (blk_alloc HF2.out (.cells #[.string ⟨#[]⟩, .int .i64 0, .int .i64 0] 192 (0, 0)))
          clear HF2
          have HF5 : Hid (((w.alloc (.cells #[.string S, .int .i64 (q : Int), .int .i64 er] 192 (0, 0))).alloc (.cells #[.string ⟨#[]⟩, .int .i64 0, .int .i64 0] 192 (0, 0))).heap[w.heap.size + 1]? = some (.cells #[.string ⟨#[]⟩, .int .i64 0, .int .i64 0] 192 (0, 0))) := Lib.hid (blk_newN (W := (w.alloc (.cells #[.string S, .int .i64 (q : Int), .int .i64 er] 192 (0, 0)))) (o := (.cells #[.string ⟨#[]⟩, .int .i64 0, .int .i64 0] 192 (0, 0))) (by simp))
          have HB6 := Lib.hid (HB3.out.alloc (by have := HB3.out.size; simp at this ⊢ <;> omega) (.cells #[.string ⟨#[]⟩, .int .i64 0, .int .i64 0] 192 (0, 0)))
          clear HB3
          have HF7 := Lib.hid (blk_alloc HF4.out (.cells #[.int .i64 0, .int .i64 0, .string ⟨#[]⟩] 158 (0, 0)))
          clear HF4
          have HF8 := Lib.hid (blk_alloc HF5.out (.cells #[.int .i64 0, .int .i64 0, .string ⟨#[]⟩] 158 (0, 0)))
          clear HF5
          have HF9 : Hid ((((w.alloc (.cells #[.string S, .int .i64 (q : Int), .int .i64 er] 192 (0, 0))).alloc (.cells #[.string ⟨#[]⟩, .int .i64 0, .int .i64 0] 192 (0, 0))).alloc (.cells #[.int .i64 0, .int .i64 0, .string ⟨#[]⟩] 158 (0, 0))).heap[w.heap.size + 2]? = some (.cells #[.int .i64 0, .int .i64 0, .string ⟨#[]⟩] 158 (0, 0))) := Lib.hid (blk_newN (W := ((w.alloc (.cells #[.string S, .int .i64 (q : Int), .int .i64 er] 192 (0, 0))).alloc (.cells #[.string ⟨#[]⟩, .int .i64 0, .int .i64 0] 192 (0, 0)))) (o := (.cells #[.int .i64 0, .int .i64 0, .string ⟨#[]⟩] 158 (0, 0))) (by simp))
          have HB10 := Lib.hid (HB6.out.alloc (by have := HB6.out.size; simp at this ⊢ <;> omega) (.cells #[.int .i64 0, .int .i64 0, .string ⟨#[]⟩] 158 (0, 0)))
          clear HB6
          refine (H1.out (((w.alloc (.cells #[.string S, .int .i64 (q : Int), .int .i64 er] 192 (0, 0))).alloc (.cells #[.string ⟨#[]⟩, .int .i64 0, .int .i64 0] 192 (0, 0))).alloc (.cells #[.int .i64 0, .int .i64 0, .string ⟨#[]⟩] 158 (0, 0)))).mono ?_
          rintro e w1 ⟨rfl, hb1⟩
          have HF11 := Lib.hid (blk_below HF7.out hb1)
          have HF12 := Lib.hid (blk_below HF8.out hb1)
          have HF13 := Lib.hid (blk_below HF9.out hb1)
          have HB14 := Lib.hid (HB10.out.trans (hb1.mono HB10.out.size))
          clear hb1 HB10 HF7 HF8 HF9
          have hk15 : w.heap.size < w1.heap.size := lt_of_block HF11.out
          have hk16 : w.heap.size + 1 < w1.heap.size := lt_of_block HF12.out
          have hk17 : w.heap.size + 2 < w1.heap.size := lt_of_block HF13.out
          go_wp2_with (first
            | refine wpList_store_rowY rfl 192 (.tmp 1) (.tmp 9) rfl (w.heap.size) #[.string S, .int .i64 (q1 : Int), .int .i64 e1] rfl rfl 192 _ HF11.out (info_sc3 _ _ _) rfl (one_sc3 _ _ _) w.heap.size w HB14.out (by omega) ?_)
          intro W2 hbk hoth hbel _
          have HF18 := Lib.hid hbk.out
          have HF19 := Lib.hid (blk_oth HF12.out hoth.out (by omega))
          have HF20 := Lib.hid (blk_oth HF13.out hoth.out (by omega))
          have HB21 := Lib.hid hbel.out
          clear hbk hoth hbel HB14 HF11 HF12 HF13
          have hk22 : w.heap.size < W2.heap.size := lt_of_block HF18.out
          have hk23 : w.heap.size + 1 < W2.heap.size := lt_of_block HF19.out
          have hk24 : w.heap.size + 2 < W2.heap.size := lt_of_block HF20.out
          have HF25 := Lib.hid (blk_alloc HF18.out (.cells #[.int .i64 2, .int .i64 0, .string ⟨#[]⟩] 158 (0, 0)))
          have HF26 := Lib.hid (blk_alloc HF19.out (.cells #[.int .i64 2, .int .i64 0, .string ⟨#[]⟩] 158 (0, 0)))
          have HF27 := Lib.hid (blk_alloc HF20.out (.cells #[.int .i64 2, .int .i64 0, .string ⟨#[]⟩] 158 (0, 0)))
          have HF28 := Lib.hid (blk_new W2 (.cells #[.int .i64 2, .int .i64 0, .string ⟨#[]⟩] 158 (0, 0)))
          have HB29 := Lib.hid (HB21.out.alloc HB21.out.size (.cells #[.int .i64 2, .int .i64 0, .string ⟨#[]⟩] 158 (0, 0)))
          clear HB21
          have hc30 : (W2.alloc (.cells #[.int .i64 2, .int .i64 0, .string ⟨#[]⟩] 158 (0, 0))).cell? ⟨w.heap.size, 0, none⟩ = some (.string S) := by rw [cell_of_row _ _ _ _ _ _ HF25.out]; rfl
          have hc31 : W2.cell? ⟨w.heap.size, 0, none⟩ = some (.string S) := by rw [cell_of_row _ _ _ _ _ _ HF18.out]; rfl
          have hc32 : (W2.alloc (.cells #[.int .i64 2, .int .i64 0, .string ⟨#[]⟩] 158 (0, 0))).cell? ⟨w.heap.size, 1, none⟩ = some (.int .i64 (q1 : Int)) := by rw [cell_of_row _ _ _ _ _ _ HF25.out]; rfl
          have hc33 : W2.cell? ⟨w.heap.size, 1, none⟩ = some (.int .i64 (q1 : Int)) := by rw [cell_of_row _ _ _ _ _ _ HF18.out]; rfl
          have hc34 : (W2.alloc (.cells #[.int .i64 2, .int .i64 0, .string ⟨#[]⟩] 158 (0, 0))).cell? ⟨w.heap.size, 2, none⟩ = some (.int .i64 e1) := by rw [cell_of_row _ _ _ _ _ _ HF25.out]; rfl
          have hc35 : W2.cell? ⟨w.heap.size, 2, none⟩ = some (.int .i64 e1) := by rw [cell_of_row _ _ _ _ _ _ HF18.out]; rfl
          have hl36 : w.heap.size < W2.heap.size := lt_of_block HF18.out
          have hl37 : ¬ w.heap.size = W2.heap.size := by omega
          go_wp2_with fail
          refine (H2.out (W2.alloc (.cells #[.int .i64 2, .int .i64 0, .string ⟨#[]⟩] 158 (0, 0)))).mono ?_
          rintro e w3 ⟨rfl, hb3⟩
          clear hc30 hc31 hc32 hc33 hc34 hc35 hl36 hl37
          have HF38 := Lib.hid (blk_below HF25.out hb3)
          have HF39 := Lib.hid (blk_below HF26.out hb3)
          have HF40 := Lib.hid (blk_below HF27.out hb3)
          have HF41 := Lib.hid (blk_below HF28.out hb3)
          have HB42 := Lib.hid (HB29.out.trans (hb3.mono HB29.out.size))
          clear hb3 HB29 HF25 HF18 HF26 HF19 HF27 HF20 HF28
          go_wp2_with (first
            | refine wpList_store_rowY rfl 192 (.tmp 1) (.tmp 26) rfl (w.heap.size) #[.string S, .int .i64 (q2 : Int), .int .i64 0] rfl rfl 192 _ HF38.out (info_sc3 _ _ _) rfl (one_sc3 _ _ _) w.heap.size w HB42.out (by omega) ?_)
          intro W4 hbk hoth hbel _
          have HF43 := Lib.hid hbk.out
          have HF44 := Lib.hid (blk_oth HF39.out hoth.out (by omega))
          have HF45 := Lib.hid (blk_oth HF40.out hoth.out (by omega))
          have HF46 := Lib.hid (blk_oth HF41.out hoth.out (by omega))
          have HB47 := Lib.hid hbel.out
          clear hbk hoth hbel HB42 HF38 HF39 HF40 HF41
          have hc48 : W4.cell? ⟨W2.heap.size, 0, none⟩ = some (.int .i64 2) := by rw [cell_of_row _ _ _ _ _ _ HF46.out]; rfl
          have hc49 : W4.cell? ⟨W2.heap.size, 1, none⟩ = some (.int .i64 0) := by rw [cell_of_row _ _ _ _ _ _ HF46.out]; rfl
          have hc50 : W4.cell? ⟨W2.heap.size, 2, none⟩ = some (.string ⟨#[]⟩) := by rw [cell_of_row _ _ _ _ _ _ HF46.out]; rfl
          have hc51 : W4.cell? ⟨w.heap.size, 0, none⟩ = some (.string S) := by rw [cell_of_row _ _ _ _ _ _ HF43.out]; rfl
          have hc52 : W4.cell? ⟨w.heap.size, 1, none⟩ = some (.int .i64 (q2 : Int)) := by rw [cell_of_row _ _ _ _ _ _ HF43.out]; rfl
          have hc53 : W4.cell? ⟨w.heap.size, 2, none⟩ = some (.int .i64 0) := by rw [cell_of_row _ _ _ _ _ _ HF43.out]; rfl
          have hz54 : W4.frozen? ⟨W2.heap.size, 1, none⟩ = false := frozen_of_row _ _ _ _ _ HF46.out
          have HF55 := Lib.hid (show (W4.setCell ⟨W2.heap.size, 1, none⟩ (.int .i64 n)).heap[w.heap.size]? = some (.cells #[.string S, .int .i64 (q2 : Int), .int .i64 0] 192 (0, 0)) by rw [Below.heap_setCell _ _ _ _ (by show w.heap.size ≠ W2.heap.size; omega)]; exact HF43.out)
          have HF56 := Lib.hid (show (W4.setCell ⟨W2.heap.size, 1, none⟩ (.int .i64 n)).heap[w.heap.size + 1]? = some (.cells #[.string ⟨#[]⟩, .int .i64 0, .int .i64 0] 192 (0, 0)) by rw [Below.heap_setCell _ _ _ _ (by show w.heap.size + 1 ≠ W2.heap.size; omega)]; exact HF44.out)
          have HF57 := Lib.hid (show (W4.setCell ⟨W2.heap.size, 1, none⟩ (.int .i64 n)).heap[w.heap.size + 2]? = some (.cells #[.int .i64 0, .int .i64 0, .string ⟨#[]⟩] 158 (0, 0)) by rw [Below.heap_setCell _ _ _ _ (by show w.heap.size + 2 ≠ W2.heap.size; omega)]; exact HF45.out)
          have HF58 := Lib.hid (show (W4.setCell ⟨W2.heap.size, 1, none⟩ (.int .i64 n)).heap[W2.heap.size]? = some (.cells #[.int .i64 2, .int .i64 n, .string ⟨#[]⟩] 158 (0, 0)) by have h := heap_setCell_at (i := 1) (u := .int .i64 n) HF46.out; exact h)
          have HB59 := Lib.hid (HB47.out.setCell (p := ⟨W2.heap.size, 1, none⟩) (by show w.heap.size ≤ W2.heap.size; omega) (.int .i64 n))
          have hc60 : (W4.setCell ⟨W2.heap.size, 1, none⟩ (.int .i64 n)).cell? ⟨w.heap.size, 0, none⟩ = some (.string S) := by rw [cell_of_row _ _ _ _ _ _ HF55.out]; rfl
          have hc61 : (W4.setCell ⟨W2.heap.size, 1, none⟩ (.int .i64 n)).cell? ⟨w.heap.size, 1, none⟩ = some (.int .i64 (q2 : Int)) := by rw [cell_of_row _ _ _ _ _ _ HF55.out]; rfl
          have hc62 : (W4.setCell ⟨W2.heap.size, 1, none⟩ (.int .i64 n)).cell? ⟨w.heap.size, 2, none⟩ = some (.int .i64 0) := by rw [cell_of_row _ _ _ _ _ _ HF55.out]; rfl
          have hc63 : (W4.setCell ⟨W2.heap.size, 1, none⟩ (.int .i64 n)).cell? ⟨W2.heap.size, 0, none⟩ = some (.int .i64 2) := by rw [cell_of_row _ _ _ _ _ _ HF58.out]; rfl
          have hc64 : (W4.setCell ⟨W2.heap.size, 1, none⟩ (.int .i64 n)).cell? ⟨W2.heap.size, 1, none⟩ = some (.int .i64 n) := by rw [cell_of_row _ _ _ _ _ _ HF58.out]; rfl
          have hc65 : (W4.setCell ⟨W2.heap.size, 1, none⟩ (.int .i64 n)).cell? ⟨W2.heap.size, 2, none⟩ = some (.string ⟨#[]⟩) := by rw [cell_of_row _ _ _ _ _ _ HF58.out]; rfl
          go_wp2_with fail
          refine (HCK.out (W4.setCell ⟨W2.heap.size, 1, none⟩ (.int .i64 n))).mono ?_
          rintro e w5 ⟨rfl, hb5⟩
          clear hc48 hc49 hc50 hc51 hc52 hc53 hz54 hc60 hc61 hc62 hc63 hc64 hc65
          have HF66 := Lib.hid (blk_below HF55.out hb5)
          have HF67 := Lib.hid (blk_below HF56.out hb5)
          have HF68 := Lib.hid (blk_below HF57.out hb5)
          have HF69 := Lib.hid (blk_below HF58.out hb5)
          have HB70 := Lib.hid (HB59.out.trans (hb5.mono HB59.out.size))
          clear hb5 HB59 HF55 HF56 HF57 HF58
          have hc71 : w5.cell? ⟨w.heap.size, 0, none⟩ = some (.string S) := by rw [cell_of_row _ _ _ _ _ _ HF66.out]; rfl
          have hc72 : w5.cell? ⟨w.heap.size, 1, none⟩ = some (.int .i64 (q2 : Int)) := by rw [cell_of_row _ _ _ _ _ _ HF66.out]; rfl
          have hc73 : w5.cell? ⟨w.heap.size, 2, none⟩ = some (.int .i64 0) := by rw [cell_of_row _ _ _ _ _ _ HF66.out]; rfl
          have hk74 : w.heap.size < w5.heap.size := lt_of_block HF66.out
          have hk75 : w.heap.size + 1 < w5.heap.size := lt_of_block HF67.out
          have hk76 : w.heap.size + 2 < w5.heap.size := lt_of_block HF68.out
          have hk77 : W2.heap.size < w5.heap.size := lt_of_block HF69.out
          have hc78 : w5.cell? ⟨W2.heap.size, 0, none⟩ = some (.int .i64 2) := by rw [cell_of_row _ _ _ _ _ _ HF69.out]; rfl
          have hc79 : w5.cell? ⟨W2.heap.size, 1, none⟩ = some (.int .i64 n) := by rw [cell_of_row _ _ _ _ _ _ HF69.out]; rfl
          have hc80 : w5.cell? ⟨W2.heap.size, 2, none⟩ = some (.string ⟨#[]⟩) := by rw [cell_of_row _ _ _ _ _ _ HF69.out]; rfl
          have hc81 : w5.cell? ⟨w.heap.size + 1, 0, none⟩ = some (.string ⟨#[]⟩) := by rw [cell_of_row _ _ _ _ _ _ HF67.out]; rfl
          have hc82 : w5.cell? ⟨w.heap.size + 1, 1, none⟩ = some (.int .i64 0) := by rw [cell_of_row _ _ _ _ _ _ HF67.out]; rfl
          have hc83 : w5.cell? ⟨w.heap.size + 1, 2, none⟩ = some (.int .i64 0) := by rw [cell_of_row _ _ _ _ _ _ HF67.out]; rfl
          have hc84 : w5.cell? ⟨w.heap.size + 2, 0, none⟩ = some (.int .i64 0) := by rw [cell_of_row _ _ _ _ _ _ HF68.out]; rfl
          have hc85 : w5.cell? ⟨w.heap.size + 2, 1, none⟩ = some (.int .i64 0) := by rw [cell_of_row _ _ _ _ _ _ HF68.out]; rfl
          have hc86 : w5.cell? ⟨w.heap.size + 2, 2, none⟩ = some (.string ⟨#[]⟩) := by rw [cell_of_row _ _ _ _ _ _ HF68.out]; rfl
          have hz87 : w5.frozen? ⟨w.heap.size + 1, 0, none⟩ = false := frozen_of_row _ _ _ _ _ HF67.out
          have hz88 : w5.frozen? ⟨w.heap.size + 1, 1, none⟩ = false := frozen_of_row _ _ _ _ _ HF67.out
          have hz89 : w5.frozen? ⟨w.heap.size + 1, 2, none⟩ = false := frozen_of_row _ _ _ _ _ HF67.out
          have hz90 : w5.frozen? ⟨w.heap.size + 2, 0, none⟩ = false := frozen_of_row _ _ _ _ _ HF68.out
          have hz91 : w5.frozen? ⟨w.heap.size + 2, 1, none⟩ = false := frozen_of_row _ _ _ _ _ HF68.out
          have hz92 : w5.frozen? ⟨w.heap.size + 2, 2, none⟩ = false := frozen_of_row _ _ _ _ _ HF68.out
          go_wp2_with fail
          go_region
          obtain ⟨z1, z2, z3⟩ := set33 w5 (w.heap.size + 1) (w.heap.size + 1 + 1) (by omega) _ _ _ (.string S) (.int .i64 (q2 : Int)) (.int .i64 0) _ _ _ (.int .i64 2) (.int .i64 n) (.string ⟨#[]⟩) HF67.out HF68.out w HB70.out (by omega) (by omega)
          generalize ((((((w5.setCell ⟨w.heap.size + 1, 0, none⟩ (.string S)).setCell ⟨w.heap.size + 1, 1, none⟩ (.int .i64 (q2 : Int))).setCell ⟨w.heap.size + 1, 2, none⟩ (.int .i64 0)).setCell ⟨w.heap.size + 1 + 1, 0, none⟩ (.int .i64 2)).setCell ⟨w.heap.size + 1 + 1, 1, none⟩ (.int .i64 n)).setCell ⟨w.heap.size + 1 + 1, 2, none⟩ (.string ⟨#[]⟩)).drew = Wz at z1 z2 z3 ⊢
          have Z1 := Lib.hid z1
          have Z2 := Lib.hid z2
          have Z3 := Lib.hid z3
          clear z1 z2 z3
          clear hc71 hc72 hc73 hc78 hc79 hc80 hc81 hc82 hc83 hc84 hc85 hc86 hz87 hz88 hz89 hz90 hz91 hz92
          go_wp2_with fail
          refine bodyPost_ret (results_ccY rfl _ _ (w.heap.size + 1) (w.heap.size + 1 + 1) #[.string S, .int .i64 (q2 : Int), .int .i64 0] #[.int .i64 2, .int .i64 n, .string ⟨#[]⟩] rfl (run_loadVar_row _ (w.heap.size + 1) 192 192 _ (0, 0) _ Z1.out Try.underlying192 rfl (info_sc3 _ _ _)) rfl (run_loadVar_row _ (w.heap.size + 1 + 1) 158 158 _ (0, 0) _ Z2.out Try.underlying158 rfl (info_val _ _ _))) rfl ?_
          exact ⟨rfl, Z3.out⟩
      · obtain ⟨r1, r2⟩ : rvE S q er = e2 ∧ rvV S q er = (0, 0, ⟨#[]⟩) := by
          cases hv : vok 2 n ⟨#[]⟩ with
          | true => exact rv_err hM hv he
          | false =>
            have g := rv_bad hM hv
            rw [show Rd.fail e2 3 = e2 by unfold Rd.fail; rw [if_pos he]] at g
            exact g
        rw [r2, r1, hM]
        dsimp only [vvv]
        have hn : (e2 != 0) = true := by simpa using he
        have hn2 : (e2 == 0) = false := by simpa using he
        clear hM r1 r2 he
        have HB1 := Lib.hid (Below.refl w.heap.size w)
        go_enter Try.func200, Try.ntmps200
        go_wp2_with fail
        have HF2 := Lib.hid (blk_new w (.cells #[.string S, .int .i64 (q : Int), .int .i64 er] 192 (0, 0)))
        have HB3 := Lib.hid (HB1.out.alloc HB1.out.size (.cells #[.string S, .int .i64 (q : Int), .int .i64 er] 192 (0, 0)))
        clear HB1
        have HF4 := Lib.hid (blk_alloc HF2.out (.cells #[.string ⟨#[]⟩, .int .i64 0, .int .i64 0] 192 (0, 0)))
        clear HF2
        have HF5 : Hid (((w.alloc (.cells #[.string S, .int .i64 (q : Int), .int .i64 er] 192 (0, 0))).alloc (.cells #[.string ⟨#[]⟩, .int .i64 0, .int .i64 0] 192 (0, 0))).heap[w.heap.size + 1]? = some (.cells #[.string ⟨#[]⟩, .int .i64 0, .int .i64 0] 192 (0, 0))) := Lib.hid (blk_newN (W := (w.alloc (.cells #[.string S, .int .i64 (q : Int), .int .i64 er] 192 (0, 0)))) (o := (.cells #[.string ⟨#[]⟩, .int .i64 0, .int .i64 0] 192 (0, 0))) (by simp))
        have HB6 := Lib.hid (HB3.out.alloc (by have := HB3.out.size; simp at this ⊢ <;> omega) (.cells #[.string ⟨#[]⟩, .int .i64 0, .int .i64 0] 192 (0, 0)))
        clear HB3
        have HF7 := Lib.hid (blk_alloc HF4.out (.cells #[.int .i64 0, .int .i64 0, .string ⟨#[]⟩] 158 (0, 0)))
        clear HF4
        have HF8 := Lib.hid (blk_alloc HF5.out (.cells #[.int .i64 0, .int .i64 0, .string ⟨#[]⟩] 158 (0, 0)))
        clear HF5
        have HF9 : Hid ((((w.alloc (.cells #[.string S, .int .i64 (q : Int), .int .i64 er] 192 (0, 0))).alloc (.cells #[.string ⟨#[]⟩, .int .i64 0, .int .i64 0] 192 (0, 0))).alloc (.cells #[.int .i64 0, .int .i64 0, .string ⟨#[]⟩] 158 (0, 0))).heap[w.heap.size + 2]? = some (.cells #[.int .i64 0, .int .i64 0, .string ⟨#[]⟩] 158 (0, 0))) := Lib.hid (blk_newN (W := ((w.alloc (.cells #[.string S, .int .i64 (q : Int), .int .i64 er] 192 (0, 0))).alloc (.cells #[.string ⟨#[]⟩, .int .i64 0, .int .i64 0] 192 (0, 0)))) (o := (.cells #[.int .i64 0, .int .i64 0, .string ⟨#[]⟩] 158 (0, 0))) (by simp))
        have HB10 := Lib.hid (HB6.out.alloc (by have := HB6.out.size; simp at this ⊢ <;> omega) (.cells #[.int .i64 0, .int .i64 0, .string ⟨#[]⟩] 158 (0, 0)))
        clear HB6
        refine (H1.out (((w.alloc (.cells #[.string S, .int .i64 (q : Int), .int .i64 er] 192 (0, 0))).alloc (.cells #[.string ⟨#[]⟩, .int .i64 0, .int .i64 0] 192 (0, 0))).alloc (.cells #[.int .i64 0, .int .i64 0, .string ⟨#[]⟩] 158 (0, 0)))).mono ?_
        rintro e w1 ⟨rfl, hb1⟩
        have HF11 := Lib.hid (blk_below HF7.out hb1)
        have HF12 := Lib.hid (blk_below HF8.out hb1)
        have HF13 := Lib.hid (blk_below HF9.out hb1)
        have HB14 := Lib.hid (HB10.out.trans (hb1.mono HB10.out.size))
        clear hb1 HB10 HF7 HF8 HF9
        have hk15 : w.heap.size < w1.heap.size := lt_of_block HF11.out
        have hk16 : w.heap.size + 1 < w1.heap.size := lt_of_block HF12.out
        have hk17 : w.heap.size + 2 < w1.heap.size := lt_of_block HF13.out
        go_wp2_with (first
          | refine wpList_store_rowY rfl 192 (.tmp 1) (.tmp 9) rfl (w.heap.size) #[.string S, .int .i64 (q1 : Int), .int .i64 e1] rfl rfl 192 _ HF11.out (info_sc3 _ _ _) rfl (one_sc3 _ _ _) w.heap.size w HB14.out (by omega) ?_)
        intro W2 hbk hoth hbel _
        have HF18 := Lib.hid hbk.out
        have HF19 := Lib.hid (blk_oth HF12.out hoth.out (by omega))
        have HF20 := Lib.hid (blk_oth HF13.out hoth.out (by omega))
        have HB21 := Lib.hid hbel.out
        clear hbk hoth hbel HB14 HF11 HF12 HF13
        have hk22 : w.heap.size < W2.heap.size := lt_of_block HF18.out
        have hk23 : w.heap.size + 1 < W2.heap.size := lt_of_block HF19.out
        have hk24 : w.heap.size + 2 < W2.heap.size := lt_of_block HF20.out
        have HF25 := Lib.hid (blk_alloc HF18.out (.cells #[.int .i64 2, .int .i64 0, .string ⟨#[]⟩] 158 (0, 0)))
        have HF26 := Lib.hid (blk_alloc HF19.out (.cells #[.int .i64 2, .int .i64 0, .string ⟨#[]⟩] 158 (0, 0)))
        have HF27 := Lib.hid (blk_alloc HF20.out (.cells #[.int .i64 2, .int .i64 0, .string ⟨#[]⟩] 158 (0, 0)))
        have HF28 := Lib.hid (blk_new W2 (.cells #[.int .i64 2, .int .i64 0, .string ⟨#[]⟩] 158 (0, 0)))
        have HB29 := Lib.hid (HB21.out.alloc HB21.out.size (.cells #[.int .i64 2, .int .i64 0, .string ⟨#[]⟩] 158 (0, 0)))
        clear HB21
        have hc30 : (W2.alloc (.cells #[.int .i64 2, .int .i64 0, .string ⟨#[]⟩] 158 (0, 0))).cell? ⟨w.heap.size, 0, none⟩ = some (.string S) := by rw [cell_of_row _ _ _ _ _ _ HF25.out]; rfl
        have hc31 : W2.cell? ⟨w.heap.size, 0, none⟩ = some (.string S) := by rw [cell_of_row _ _ _ _ _ _ HF18.out]; rfl
        have hc32 : (W2.alloc (.cells #[.int .i64 2, .int .i64 0, .string ⟨#[]⟩] 158 (0, 0))).cell? ⟨w.heap.size, 1, none⟩ = some (.int .i64 (q1 : Int)) := by rw [cell_of_row _ _ _ _ _ _ HF25.out]; rfl
        have hc33 : W2.cell? ⟨w.heap.size, 1, none⟩ = some (.int .i64 (q1 : Int)) := by rw [cell_of_row _ _ _ _ _ _ HF18.out]; rfl
        have hc34 : (W2.alloc (.cells #[.int .i64 2, .int .i64 0, .string ⟨#[]⟩] 158 (0, 0))).cell? ⟨w.heap.size, 2, none⟩ = some (.int .i64 e1) := by rw [cell_of_row _ _ _ _ _ _ HF25.out]; rfl
        have hc35 : W2.cell? ⟨w.heap.size, 2, none⟩ = some (.int .i64 e1) := by rw [cell_of_row _ _ _ _ _ _ HF18.out]; rfl
        have hl36 : w.heap.size < W2.heap.size := lt_of_block HF18.out
        have hl37 : ¬ w.heap.size = W2.heap.size := by omega
        go_wp2_with fail
        refine (H2.out (W2.alloc (.cells #[.int .i64 2, .int .i64 0, .string ⟨#[]⟩] 158 (0, 0)))).mono ?_
        rintro e w3 ⟨rfl, hb3⟩
        clear hc30 hc31 hc32 hc33 hc34 hc35 hl36 hl37
        have HF38 := Lib.hid (blk_below HF25.out hb3)
        have HF39 := Lib.hid (blk_below HF26.out hb3)
        have HF40 := Lib.hid (blk_below HF27.out hb3)
        have HF41 := Lib.hid (blk_below HF28.out hb3)
        have HB42 := Lib.hid (HB29.out.trans (hb3.mono HB29.out.size))
        clear hb3 HB29 HF25 HF18 HF26 HF19 HF27 HF20 HF28
        go_wp2_with (first
          | refine wpList_store_rowY rfl 192 (.tmp 1) (.tmp 26) rfl (w.heap.size) #[.string S, .int .i64 (q2 : Int), .int .i64 e2] rfl rfl 192 _ HF38.out (info_sc3 _ _ _) rfl (one_sc3 _ _ _) w.heap.size w HB42.out (by omega) ?_)
        intro W4 hbk hoth hbel _
        have HF43 := Lib.hid hbk.out
        have HF44 := Lib.hid (blk_oth HF39.out hoth.out (by omega))
        have HF45 := Lib.hid (blk_oth HF40.out hoth.out (by omega))
        have HF46 := Lib.hid (blk_oth HF41.out hoth.out (by omega))
        have HB47 := Lib.hid hbel.out
        clear hbk hoth hbel HB42 HF38 HF39 HF40 HF41
        have hc48 : W4.cell? ⟨W2.heap.size, 0, none⟩ = some (.int .i64 2) := by rw [cell_of_row _ _ _ _ _ _ HF46.out]; rfl
        have hc49 : W4.cell? ⟨W2.heap.size, 1, none⟩ = some (.int .i64 0) := by rw [cell_of_row _ _ _ _ _ _ HF46.out]; rfl
        have hc50 : W4.cell? ⟨W2.heap.size, 2, none⟩ = some (.string ⟨#[]⟩) := by rw [cell_of_row _ _ _ _ _ _ HF46.out]; rfl
        have hc51 : W4.cell? ⟨w.heap.size, 0, none⟩ = some (.string S) := by rw [cell_of_row _ _ _ _ _ _ HF43.out]; rfl
        have hc52 : W4.cell? ⟨w.heap.size, 1, none⟩ = some (.int .i64 (q2 : Int)) := by rw [cell_of_row _ _ _ _ _ _ HF43.out]; rfl
        have hc53 : W4.cell? ⟨w.heap.size, 2, none⟩ = some (.int .i64 e2) := by rw [cell_of_row _ _ _ _ _ _ HF43.out]; rfl
        have hz54 : W4.frozen? ⟨W2.heap.size, 1, none⟩ = false := frozen_of_row _ _ _ _ _ HF46.out
        have HF55 := Lib.hid (show (W4.setCell ⟨W2.heap.size, 1, none⟩ (.int .i64 n)).heap[w.heap.size]? = some (.cells #[.string S, .int .i64 (q2 : Int), .int .i64 e2] 192 (0, 0)) by rw [Below.heap_setCell _ _ _ _ (by show w.heap.size ≠ W2.heap.size; omega)]; exact HF43.out)
        have HF56 := Lib.hid (show (W4.setCell ⟨W2.heap.size, 1, none⟩ (.int .i64 n)).heap[w.heap.size + 1]? = some (.cells #[.string ⟨#[]⟩, .int .i64 0, .int .i64 0] 192 (0, 0)) by rw [Below.heap_setCell _ _ _ _ (by show w.heap.size + 1 ≠ W2.heap.size; omega)]; exact HF44.out)
        have HF57 := Lib.hid (show (W4.setCell ⟨W2.heap.size, 1, none⟩ (.int .i64 n)).heap[w.heap.size + 2]? = some (.cells #[.int .i64 0, .int .i64 0, .string ⟨#[]⟩] 158 (0, 0)) by rw [Below.heap_setCell _ _ _ _ (by show w.heap.size + 2 ≠ W2.heap.size; omega)]; exact HF45.out)
        have HF58 := Lib.hid (show (W4.setCell ⟨W2.heap.size, 1, none⟩ (.int .i64 n)).heap[W2.heap.size]? = some (.cells #[.int .i64 2, .int .i64 n, .string ⟨#[]⟩] 158 (0, 0)) by have h := heap_setCell_at (i := 1) (u := .int .i64 n) HF46.out; exact h)
        have HB59 := Lib.hid (HB47.out.setCell (p := ⟨W2.heap.size, 1, none⟩) (by show w.heap.size ≤ W2.heap.size; omega) (.int .i64 n))
        have hc60 : (W4.setCell ⟨W2.heap.size, 1, none⟩ (.int .i64 n)).cell? ⟨w.heap.size, 0, none⟩ = some (.string S) := by rw [cell_of_row _ _ _ _ _ _ HF55.out]; rfl
        have hc61 : (W4.setCell ⟨W2.heap.size, 1, none⟩ (.int .i64 n)).cell? ⟨w.heap.size, 1, none⟩ = some (.int .i64 (q2 : Int)) := by rw [cell_of_row _ _ _ _ _ _ HF55.out]; rfl
        have hc62 : (W4.setCell ⟨W2.heap.size, 1, none⟩ (.int .i64 n)).cell? ⟨w.heap.size, 2, none⟩ = some (.int .i64 e2) := by rw [cell_of_row _ _ _ _ _ _ HF55.out]; rfl
        have hc63 : (W4.setCell ⟨W2.heap.size, 1, none⟩ (.int .i64 n)).cell? ⟨W2.heap.size, 0, none⟩ = some (.int .i64 2) := by rw [cell_of_row _ _ _ _ _ _ HF58.out]; rfl
        have hc64 : (W4.setCell ⟨W2.heap.size, 1, none⟩ (.int .i64 n)).cell? ⟨W2.heap.size, 1, none⟩ = some (.int .i64 n) := by rw [cell_of_row _ _ _ _ _ _ HF58.out]; rfl
        have hc65 : (W4.setCell ⟨W2.heap.size, 1, none⟩ (.int .i64 n)).cell? ⟨W2.heap.size, 2, none⟩ = some (.string ⟨#[]⟩) := by rw [cell_of_row _ _ _ _ _ _ HF58.out]; rfl
        have hk66 : w.heap.size < (W4.setCell ⟨W2.heap.size, 1, none⟩ (.int .i64 n)).heap.size := lt_of_block HF55.out
        have hk67 : w.heap.size + 1 < (W4.setCell ⟨W2.heap.size, 1, none⟩ (.int .i64 n)).heap.size := lt_of_block HF56.out
        have hk68 : w.heap.size + 2 < (W4.setCell ⟨W2.heap.size, 1, none⟩ (.int .i64 n)).heap.size := lt_of_block HF57.out
        have hk69 : W2.heap.size < (W4.setCell ⟨W2.heap.size, 1, none⟩ (.int .i64 n)).heap.size := lt_of_block HF58.out
        go_wp2_with (first
          | refine wpList_store_rowY rfl 192 (.tmp 2) (.tmp 49) rfl (w.heap.size + 1) #[.string S, .int .i64 (q2 : Int), .int .i64 e2] rfl rfl 192 _ HF56.out (info_sc3 _ _ _) rfl (one_sc3 _ _ _) w.heap.size w HB59.out (by omega) ?_
          | refine wpList_load_row rfl 192 (.tmp 1) rfl (w.heap.size) rfl 192 #[.string S, .int .i64 (q2 : Int), .int .i64 e2] (0, 0) _ HF55.out Try.underlying192 rfl (info_sc3 _ _ _) ?_)
        intro W5 hbk hoth hbel _
        clear hc48 hc49 hc50 hc51 hc52 hc53 hz54 hc60 hc61 hc62 hc63 hc64 hc65
        have HF70 := Lib.hid (blk_oth HF55.out hoth.out (by omega))
        have HF71 := Lib.hid hbk.out
        have HF72 := Lib.hid (blk_oth HF57.out hoth.out (by omega))
        have HF73 := Lib.hid (blk_oth HF58.out hoth.out (by omega))
        have HB74 := Lib.hid hbel.out
        clear hbk hoth hbel HB59 HF55 HF56 HF57 HF58
        go_wp2_with (first
          | refine wpList_store_rowY rfl 158 (.tmp 3) (.tmp 50) rfl (w.heap.size + 2) #[.int .i64 0, .int .i64 0, .string ⟨#[]⟩] rfl rfl 158 _ HF72.out (info_val _ _ _) rfl (one_val _ _ _) w.heap.size w HB74.out (by omega) ?_)
        intro W6 hbk hoth hbel _
        have HF75 := Lib.hid (blk_oth HF70.out hoth.out (by omega))
        have HF76 := Lib.hid (blk_oth HF71.out hoth.out (by omega))
        have HF77 := Lib.hid hbk.out
        have HF78 := Lib.hid (blk_oth HF73.out hoth.out (by omega))
        have HB79 := Lib.hid hbel.out
        clear hbk hoth hbel HB74 HF70 HF71 HF72 HF73
        go_wp2_with fail
        refine bodyPost_ret (results_ccY rfl _ _ (w.heap.size + 1) (w.heap.size + 2) #[.string S, .int .i64 (q2 : Int), .int .i64 e2] #[.int .i64 0, .int .i64 0, .string ⟨#[]⟩] rfl (run_loadVar_row _ (w.heap.size + 1) 192 192 _ (0, 0) _ HF76.out Try.underlying192 rfl (info_sc3 _ _ _)) rfl (run_loadVar_row _ (w.heap.size + 2) 158 158 _ (0, 0) _ HF77.out Try.underlying158 rfl (info_val _ _ _))) rfl ?_
        exact ⟨rfl, HB79.out⟩
    · rw [if_neg k2] at hM
      have kb2 : (k == 2) = false := by simpa using k2
      by_cases k3 : k = 3
      · subst k3
        rw [if_pos rfl] at hM
        clear k1 k2 kb1 kb2
        obtain ⟨t, q2, e2, h2⟩ : ∃ a b c, Rd.text S q1 e1 64 = (a, b, c) := ⟨_, _, _, rfl⟩
        rw [h2] at hM
        dsimp only at hM
        have H2 := Lib.hid (fun W : World => rtextZ S q1 e1 _ _ _ W hS l1 h2)
        clear h2
        by_cases he : e2 = 0
        · cases hv : vok 3 0 t with
          | false =>
            obtain ⟨r1, r2⟩ := rv_bad hM hv
            rw [show Rd.fail e2 3 = 3 from he ▸ rfl] at r1
            rw [r2, r1, hM]
            dsimp only [vvv]
            have HCK := Lib.hid (fun W : World => vis_any 3 (0 : Int) t W)
            rw [hv] at HCK
            subst he
            clear hM hv r1 r2
            have HB1 := Lib.hid (Below.refl w.heap.size w)
            go_enter Try.func200, Try.ntmps200
            go_wp2_with fail
            have HF2 := Lib.hid (blk_new w (.cells #[.string S, .int .i64 (q : Int), .int .i64 er] 192 (0, 0)))
            have HB3 := Lib.hid (HB1.out.alloc HB1.out.size (.cells #[.string S, .int .i64 (q : Int), .int .i64 er] 192 (0, 0)))
            clear HB1
            have HF4 := Lib.hid (blk_alloc HF2.out (.cells #[.string ⟨#[]⟩, .int .i64 0, .int .i64 0] 192 (0, 0)))
            clear HF2
            have HF5 : Hid (((w.alloc (.cells #[.string S, .int .i64 (q : Int), .int .i64 er] 192 (0, 0))).alloc (.cells #[.string ⟨#[]⟩, .int .i64 0, .int .i64 0] 192 (0, 0))).heap[w.heap.size + 1]? = some (.cells #[.string ⟨#[]⟩, .int .i64 0, .int .i64 0] 192 (0, 0))) := Lib.hid (blk_newN (W := (w.alloc (.cells #[.string S, .int .i64 (q : Int), .int .i64 er] 192 (0, 0)))) (o := (.cells #[.string ⟨#[]⟩, .int .i64 0, .int .i64 0] 192 (0, 0))) (by simp))
            have HB6 := Lib.hid (HB3.out.alloc (by have := HB3.out.size; simp at this ⊢ <;> omega) (.cells #[.string ⟨#[]⟩, .int .i64 0, .int .i64 0] 192 (0, 0)))
            clear HB3
            have HF7 := Lib.hid (blk_alloc HF4.out (.cells #[.int .i64 0, .int .i64 0, .string ⟨#[]⟩] 158 (0, 0)))
            clear HF4
            have HF8 := Lib.hid (blk_alloc HF5.out (.cells #[.int .i64 0, .int .i64 0, .string ⟨#[]⟩] 158 (0, 0)))
            clear HF5
            have HF9 : Hid ((((w.alloc (.cells #[.string S, .int .i64 (q : Int), .int .i64 er] 192 (0, 0))).alloc (.cells #[.string ⟨#[]⟩, .int .i64 0, .int .i64 0] 192 (0, 0))).alloc (.cells #[.int .i64 0, .int .i64 0, .string ⟨#[]⟩] 158 (0, 0))).heap[w.heap.size + 2]? = some (.cells #[.int .i64 0, .int .i64 0, .string ⟨#[]⟩] 158 (0, 0))) := Lib.hid (blk_newN (W := ((w.alloc (.cells #[.string S, .int .i64 (q : Int), .int .i64 er] 192 (0, 0))).alloc (.cells #[.string ⟨#[]⟩, .int .i64 0, .int .i64 0] 192 (0, 0)))) (o := (.cells #[.int .i64 0, .int .i64 0, .string ⟨#[]⟩] 158 (0, 0))) (by simp))
            have HB10 := Lib.hid (HB6.out.alloc (by have := HB6.out.size; simp at this ⊢ <;> omega) (.cells #[.int .i64 0, .int .i64 0, .string ⟨#[]⟩] 158 (0, 0)))
            clear HB6
            refine (H1.out (((w.alloc (.cells #[.string S, .int .i64 (q : Int), .int .i64 er] 192 (0, 0))).alloc (.cells #[.string ⟨#[]⟩, .int .i64 0, .int .i64 0] 192 (0, 0))).alloc (.cells #[.int .i64 0, .int .i64 0, .string ⟨#[]⟩] 158 (0, 0)))).mono ?_
            rintro e w1 ⟨rfl, hb1⟩
            have HF11 := Lib.hid (blk_below HF7.out hb1)
            have HF12 := Lib.hid (blk_below HF8.out hb1)
            have HF13 := Lib.hid (blk_below HF9.out hb1)
            have HB14 := Lib.hid (HB10.out.trans (hb1.mono HB10.out.size))
            clear hb1 HB10 HF7 HF8 HF9
            have hk15 : w.heap.size < w1.heap.size := lt_of_block HF11.out
            have hk16 : w.heap.size + 1 < w1.heap.size := lt_of_block HF12.out
            have hk17 : w.heap.size + 2 < w1.heap.size := lt_of_block HF13.out
            go_wp2_with (first
              | refine wpList_store_rowY rfl 192 (.tmp 1) (.tmp 9) rfl (w.heap.size) #[.string S, .int .i64 (q1 : Int), .int .i64 e1] rfl rfl 192 _ HF11.out (info_sc3 _ _ _) rfl (one_sc3 _ _ _) w.heap.size w HB14.out (by omega) ?_)
            intro W2 hbk hoth hbel _
            have HF18 := Lib.hid hbk.out
            have HF19 := Lib.hid (blk_oth HF12.out hoth.out (by omega))
            have HF20 := Lib.hid (blk_oth HF13.out hoth.out (by omega))
            have HB21 := Lib.hid hbel.out
            clear hbk hoth hbel HB14 HF11 HF12 HF13
            have hk22 : w.heap.size < W2.heap.size := lt_of_block HF18.out
            have hk23 : w.heap.size + 1 < W2.heap.size := lt_of_block HF19.out
            have hk24 : w.heap.size + 2 < W2.heap.size := lt_of_block HF20.out
            have HF25 := Lib.hid (blk_alloc HF18.out (.cells #[.int .i64 3, .int .i64 0, .string ⟨#[]⟩] 158 (0, 0)))
            have HF26 := Lib.hid (blk_alloc HF19.out (.cells #[.int .i64 3, .int .i64 0, .string ⟨#[]⟩] 158 (0, 0)))
            have HF27 := Lib.hid (blk_alloc HF20.out (.cells #[.int .i64 3, .int .i64 0, .string ⟨#[]⟩] 158 (0, 0)))
            have HF28 := Lib.hid (blk_new W2 (.cells #[.int .i64 3, .int .i64 0, .string ⟨#[]⟩] 158 (0, 0)))
            have HB29 := Lib.hid (HB21.out.alloc HB21.out.size (.cells #[.int .i64 3, .int .i64 0, .string ⟨#[]⟩] 158 (0, 0)))
            clear HB21
            have hc30 : (W2.alloc (.cells #[.int .i64 3, .int .i64 0, .string ⟨#[]⟩] 158 (0, 0))).cell? ⟨w.heap.size, 0, none⟩ = some (.string S) := by rw [cell_of_row _ _ _ _ _ _ HF25.out]; rfl
            have hc31 : W2.cell? ⟨w.heap.size, 0, none⟩ = some (.string S) := by rw [cell_of_row _ _ _ _ _ _ HF18.out]; rfl
            have hc32 : (W2.alloc (.cells #[.int .i64 3, .int .i64 0, .string ⟨#[]⟩] 158 (0, 0))).cell? ⟨w.heap.size, 1, none⟩ = some (.int .i64 (q1 : Int)) := by rw [cell_of_row _ _ _ _ _ _ HF25.out]; rfl
            have hc33 : W2.cell? ⟨w.heap.size, 1, none⟩ = some (.int .i64 (q1 : Int)) := by rw [cell_of_row _ _ _ _ _ _ HF18.out]; rfl
            have hc34 : (W2.alloc (.cells #[.int .i64 3, .int .i64 0, .string ⟨#[]⟩] 158 (0, 0))).cell? ⟨w.heap.size, 2, none⟩ = some (.int .i64 e1) := by rw [cell_of_row _ _ _ _ _ _ HF25.out]; rfl
            have hc35 : W2.cell? ⟨w.heap.size, 2, none⟩ = some (.int .i64 e1) := by rw [cell_of_row _ _ _ _ _ _ HF18.out]; rfl
            have hl36 : w.heap.size < W2.heap.size := lt_of_block HF18.out
            have hl37 : ¬ w.heap.size = W2.heap.size := by omega
            go_wp2_with fail
            refine (H2.out (W2.alloc (.cells #[.int .i64 3, .int .i64 0, .string ⟨#[]⟩] 158 (0, 0)))).mono ?_
            rintro e w3 ⟨rfl, hb3⟩
            clear hc30 hc31 hc32 hc33 hc34 hc35 hl36 hl37
            have HF38 := Lib.hid (blk_below HF25.out hb3)
            have HF39 := Lib.hid (blk_below HF26.out hb3)
            have HF40 := Lib.hid (blk_below HF27.out hb3)
            have HF41 := Lib.hid (blk_below HF28.out hb3)
            have HB42 := Lib.hid (HB29.out.trans (hb3.mono HB29.out.size))
            clear hb3 HB29 HF25 HF18 HF26 HF19 HF27 HF20 HF28
            go_wp2_with (first
              | refine wpList_store_rowY rfl 192 (.tmp 1) (.tmp 34) rfl (w.heap.size) #[.string S, .int .i64 (q2 : Int), .int .i64 0] rfl rfl 192 _ HF38.out (info_sc3 _ _ _) rfl (one_sc3 _ _ _) w.heap.size w HB42.out (by omega) ?_)
            intro W4 hbk hoth hbel _
            have HF43 := Lib.hid hbk.out
            have HF44 := Lib.hid (blk_oth HF39.out hoth.out (by omega))
            have HF45 := Lib.hid (blk_oth HF40.out hoth.out (by omega))
            have HF46 := Lib.hid (blk_oth HF41.out hoth.out (by omega))
            have HB47 := Lib.hid hbel.out
            clear hbk hoth hbel HB42 HF38 HF39 HF40 HF41
            have hc48 : W4.cell? ⟨W2.heap.size, 0, none⟩ = some (.int .i64 3) := by rw [cell_of_row _ _ _ _ _ _ HF46.out]; rfl
            have hc49 : W4.cell? ⟨W2.heap.size, 1, none⟩ = some (.int .i64 0) := by rw [cell_of_row _ _ _ _ _ _ HF46.out]; rfl
            have hc50 : W4.cell? ⟨W2.heap.size, 2, none⟩ = some (.string ⟨#[]⟩) := by rw [cell_of_row _ _ _ _ _ _ HF46.out]; rfl
            have hc51 : W4.cell? ⟨w.heap.size, 0, none⟩ = some (.string S) := by rw [cell_of_row _ _ _ _ _ _ HF43.out]; rfl
            have hc52 : W4.cell? ⟨w.heap.size, 1, none⟩ = some (.int .i64 (q2 : Int)) := by rw [cell_of_row _ _ _ _ _ _ HF43.out]; rfl
            have hc53 : W4.cell? ⟨w.heap.size, 2, none⟩ = some (.int .i64 0) := by rw [cell_of_row _ _ _ _ _ _ HF43.out]; rfl
            have hz54 : W4.frozen? ⟨W2.heap.size, 2, none⟩ = false := frozen_of_row _ _ _ _ _ HF46.out
            have HF55 := Lib.hid (show (W4.setCell ⟨W2.heap.size, 2, none⟩ (.string t)).heap[w.heap.size]? = some (.cells #[.string S, .int .i64 (q2 : Int), .int .i64 0] 192 (0, 0)) by rw [Below.heap_setCell _ _ _ _ (by show w.heap.size ≠ W2.heap.size; omega)]; exact HF43.out)
            have HF56 := Lib.hid (show (W4.setCell ⟨W2.heap.size, 2, none⟩ (.string t)).heap[w.heap.size + 1]? = some (.cells #[.string ⟨#[]⟩, .int .i64 0, .int .i64 0] 192 (0, 0)) by rw [Below.heap_setCell _ _ _ _ (by show w.heap.size + 1 ≠ W2.heap.size; omega)]; exact HF44.out)
            have HF57 := Lib.hid (show (W4.setCell ⟨W2.heap.size, 2, none⟩ (.string t)).heap[w.heap.size + 2]? = some (.cells #[.int .i64 0, .int .i64 0, .string ⟨#[]⟩] 158 (0, 0)) by rw [Below.heap_setCell _ _ _ _ (by show w.heap.size + 2 ≠ W2.heap.size; omega)]; exact HF45.out)
            have HF58 := Lib.hid (show (W4.setCell ⟨W2.heap.size, 2, none⟩ (.string t)).heap[W2.heap.size]? = some (.cells #[.int .i64 3, .int .i64 0, .string t] 158 (0, 0)) by have h := heap_setCell_at (i := 2) (u := .string t) HF46.out; exact h)
            have HB59 := Lib.hid (HB47.out.setCell (p := ⟨W2.heap.size, 2, none⟩) (by show w.heap.size ≤ W2.heap.size; omega) (.string t))
            have hc60 : (W4.setCell ⟨W2.heap.size, 2, none⟩ (.string t)).cell? ⟨w.heap.size, 0, none⟩ = some (.string S) := by rw [cell_of_row _ _ _ _ _ _ HF55.out]; rfl
            have hc61 : (W4.setCell ⟨W2.heap.size, 2, none⟩ (.string t)).cell? ⟨w.heap.size, 1, none⟩ = some (.int .i64 (q2 : Int)) := by rw [cell_of_row _ _ _ _ _ _ HF55.out]; rfl
            have hc62 : (W4.setCell ⟨W2.heap.size, 2, none⟩ (.string t)).cell? ⟨w.heap.size, 2, none⟩ = some (.int .i64 0) := by rw [cell_of_row _ _ _ _ _ _ HF55.out]; rfl
            have hc63 : (W4.setCell ⟨W2.heap.size, 2, none⟩ (.string t)).cell? ⟨W2.heap.size, 0, none⟩ = some (.int .i64 3) := by rw [cell_of_row _ _ _ _ _ _ HF58.out]; rfl
            have hc64 : (W4.setCell ⟨W2.heap.size, 2, none⟩ (.string t)).cell? ⟨W2.heap.size, 1, none⟩ = some (.int .i64 0) := by rw [cell_of_row _ _ _ _ _ _ HF58.out]; rfl
            have hc65 : (W4.setCell ⟨W2.heap.size, 2, none⟩ (.string t)).cell? ⟨W2.heap.size, 2, none⟩ = some (.string t) := by rw [cell_of_row _ _ _ _ _ _ HF58.out]; rfl
            go_wp2_with fail
            refine (HCK.out (W4.setCell ⟨W2.heap.size, 2, none⟩ (.string t))).mono ?_
            rintro e w5 ⟨rfl, hb5⟩
            clear hc48 hc49 hc50 hc51 hc52 hc53 hz54 hc60 hc61 hc62 hc63 hc64 hc65
            have HF66 := Lib.hid (blk_below HF55.out hb5)
            have HF67 := Lib.hid (blk_below HF56.out hb5)
            have HF68 := Lib.hid (blk_below HF57.out hb5)
            have HF69 := Lib.hid (blk_below HF58.out hb5)
            have HB70 := Lib.hid (HB59.out.trans (hb5.mono HB59.out.size))
            clear hb5 HB59 HF55 HF56 HF57 HF58
            have hc71 : w5.cell? ⟨w.heap.size, 0, none⟩ = some (.string S) := by rw [cell_of_row _ _ _ _ _ _ HF66.out]; rfl
            have hc72 : w5.cell? ⟨w.heap.size, 1, none⟩ = some (.int .i64 (q2 : Int)) := by rw [cell_of_row _ _ _ _ _ _ HF66.out]; rfl
            have hc73 : w5.cell? ⟨w.heap.size, 2, none⟩ = some (.int .i64 0) := by rw [cell_of_row _ _ _ _ _ _ HF66.out]; rfl
            have hz74 : w5.frozen? ⟨w.heap.size, 2, none⟩ = false := frozen_of_row _ _ _ _ _ HF66.out
            have HF75 := Lib.hid (show (w5.setCell ⟨w.heap.size, 2, none⟩ (.int .i64 3)).heap[w.heap.size]? = some (.cells #[.string S, .int .i64 (q2 : Int), .int .i64 3] 192 (0, 0)) by have h := heap_setCell_at (i := 2) (u := .int .i64 3) HF66.out; exact h)
            have HF76 := Lib.hid (show (w5.setCell ⟨w.heap.size, 2, none⟩ (.int .i64 3)).heap[w.heap.size + 1]? = some (.cells #[.string ⟨#[]⟩, .int .i64 0, .int .i64 0] 192 (0, 0)) by rw [Below.heap_setCell _ _ _ _ (by show w.heap.size + 1 ≠ w.heap.size; omega)]; exact HF67.out)
            have HF77 := Lib.hid (show (w5.setCell ⟨w.heap.size, 2, none⟩ (.int .i64 3)).heap[w.heap.size + 2]? = some (.cells #[.int .i64 0, .int .i64 0, .string ⟨#[]⟩] 158 (0, 0)) by rw [Below.heap_setCell _ _ _ _ (by show w.heap.size + 2 ≠ w.heap.size; omega)]; exact HF68.out)
            have HF78 := Lib.hid (show (w5.setCell ⟨w.heap.size, 2, none⟩ (.int .i64 3)).heap[W2.heap.size]? = some (.cells #[.int .i64 3, .int .i64 0, .string t] 158 (0, 0)) by rw [Below.heap_setCell _ _ _ _ (by show W2.heap.size ≠ w.heap.size; omega)]; exact HF69.out)
            have HB79 := Lib.hid (HB70.out.setCell (p := ⟨w.heap.size, 2, none⟩) (by show w.heap.size ≤ w.heap.size; omega) (.int .i64 3))
            have hc80 : (w5.setCell ⟨w.heap.size, 2, none⟩ (.int .i64 3)).cell? ⟨w.heap.size, 0, none⟩ = some (.string S) := by rw [cell_of_row _ _ _ _ _ _ HF75.out]; rfl
            have hc81 : (w5.setCell ⟨w.heap.size, 2, none⟩ (.int .i64 3)).cell? ⟨w.heap.size, 1, none⟩ = some (.int .i64 (q2 : Int)) := by rw [cell_of_row _ _ _ _ _ _ HF75.out]; rfl
            have hc82 : (w5.setCell ⟨w.heap.size, 2, none⟩ (.int .i64 3)).cell? ⟨w.heap.size, 2, none⟩ = some (.int .i64 3) := by rw [cell_of_row _ _ _ _ _ _ HF75.out]; rfl
            have hk83 : w.heap.size < (w5.setCell ⟨w.heap.size, 2, none⟩ (.int .i64 3)).heap.size := lt_of_block HF75.out
            have hk84 : w.heap.size + 1 < (w5.setCell ⟨w.heap.size, 2, none⟩ (.int .i64 3)).heap.size := lt_of_block HF76.out
            have hk85 : w.heap.size + 2 < (w5.setCell ⟨w.heap.size, 2, none⟩ (.int .i64 3)).heap.size := lt_of_block HF77.out
            have hk86 : W2.heap.size < (w5.setCell ⟨w.heap.size, 2, none⟩ (.int .i64 3)).heap.size := lt_of_block HF78.out
            go_wp2_with (first
              | refine wpList_store_rowY rfl 192 (.tmp 2) (.tmp 49) rfl (w.heap.size + 1) #[.string S, .int .i64 (q2 : Int), .int .i64 3] rfl rfl 192 _ HF76.out (info_sc3 _ _ _) rfl (one_sc3 _ _ _) w.heap.size w HB79.out (by omega) ?_
              | refine wpList_load_row rfl 192 (.tmp 1) rfl (w.heap.size) rfl 192 #[.string S, .int .i64 (q2 : Int), .int .i64 3] (0, 0) _ HF75.out Try.underlying192 rfl (info_sc3 _ _ _) ?_)
            intro W6 hbk hoth hbel _
            clear hc71 hc72 hc73 hz74 hc80 hc81 hc82
            have HF87 := Lib.hid (blk_oth HF75.out hoth.out (by omega))
            have HF88 := Lib.hid hbk.out
            have HF89 := Lib.hid (blk_oth HF77.out hoth.out (by omega))
            have HF90 := Lib.hid (blk_oth HF78.out hoth.out (by omega))
            have HB91 := Lib.hid hbel.out
            clear hbk hoth hbel HB79 HF75 HF76 HF77 HF78
            go_wp2_with (first
              | refine wpList_store_rowY rfl 158 (.tmp 3) (.tmp 50) rfl (w.heap.size + 2) #[.int .i64 0, .int .i64 0, .string ⟨#[]⟩] rfl rfl 158 _ HF89.out (info_val _ _ _) rfl (one_val _ _ _) w.heap.size w HB91.out (by omega) ?_)
            intro W7 hbk hoth hbel _
            have HF92 := Lib.hid (blk_oth HF87.out hoth.out (by omega))
            have HF93 := Lib.hid (blk_oth HF88.out hoth.out (by omega))
            have HF94 := Lib.hid hbk.out
            have HF95 := Lib.hid (blk_oth HF90.out hoth.out (by omega))
            have HB96 := Lib.hid hbel.out
            clear hbk hoth hbel HB91 HF87 HF88 HF89 HF90
            go_wp2_with fail
            refine bodyPost_ret (results_ccY rfl _ _ (w.heap.size + 1) (w.heap.size + 2) #[.string S, .int .i64 (q2 : Int), .int .i64 3] #[.int .i64 0, .int .i64 0, .string ⟨#[]⟩] rfl (run_loadVar_row _ (w.heap.size + 1) 192 192 _ (0, 0) _ HF93.out Try.underlying192 rfl (info_sc3 _ _ _)) rfl (run_loadVar_row _ (w.heap.size + 2) 158 158 _ (0, 0) _ HF94.out Try.underlying158 rfl (info_val _ _ _))) rfl ?_
            exact ⟨rfl, HB96.out⟩
          | true =>
            obtain ⟨r1, r2⟩ := rv_good (he ▸ hM) hv
            rw [r2, r1, hM]
            dsimp only [vvv]
            have HCK := Lib.hid (fun W : World => vis_any 3 (0 : Int) t W)
            rw [hv] at HCK
            subst he
            clear hM hv r1 r2
            have HB1 := Lib.hid (Below.refl w.heap.size w)
            go_enter Try.func200, Try.ntmps200
            go_wp2_with fail
            have HF2 := Lib.hid (blk_new w (.cells #[.string S, .int .i64 (q : Int), .int .i64 er] 192 (0, 0)))
            have HB3 := Lib.hid (HB1.out.alloc HB1.out.size (.cells #[.string S, .int .i64 (q : Int), .int .i64 er] 192 (0, 0)))
            clear HB1
            have HF4 := Lib.hid (blk_alloc HF2.out (.cells #[.string ⟨#[]⟩, .int .i64 0, .int .i64 0] 192 (0, 0)))
            clear HF2
            have HF5 : Hid (((w.alloc (.cells #[.string S, .int .i64 (q : Int), .int .i64 er] 192 (0, 0))).alloc (.cells #[.string ⟨#[]⟩, .int .i64 0, .int .i64 0] 192 (0, 0))).heap[w.heap.size + 1]? = some (.cells #[.string ⟨#[]⟩, .int .i64 0, .int .i64 0] 192 (0, 0))) := Lib.hid (blk_newN (W := (w.alloc (.cells #[.string S, .int .i64 (q : Int), .int .i64 er] 192 (0, 0)))) (o := (.cells #[.string ⟨#[]⟩, .int .i64 0, .int .i64 0] 192 (0, 0))) (by simp))
            have HB6 := Lib.hid (HB3.out.alloc (by have := HB3.out.size; simp at this ⊢ <;> omega) (.cells #[.string ⟨#[]⟩, .int .i64 0, .int .i64 0] 192 (0, 0)))
            clear HB3
            have HF7 := Lib.hid (blk_alloc HF4.out (.cells #[.int .i64 0, .int .i64 0, .string ⟨#[]⟩] 158 (0, 0)))
            clear HF4
            have HF8 := Lib.hid (blk_alloc HF5.out (.cells #[.int .i64 0, .int .i64 0, .string ⟨#[]⟩] 158 (0, 0)))
            clear HF5
            have HF9 : Hid ((((w.alloc (.cells #[.string S, .int .i64 (q : Int), .int .i64 er] 192 (0, 0))).alloc (.cells #[.string ⟨#[]⟩, .int .i64 0, .int .i64 0] 192 (0, 0))).alloc (.cells #[.int .i64 0, .int .i64 0, .string ⟨#[]⟩] 158 (0, 0))).heap[w.heap.size + 2]? = some (.cells #[.int .i64 0, .int .i64 0, .string ⟨#[]⟩] 158 (0, 0))) := Lib.hid (blk_newN (W := ((w.alloc (.cells #[.string S, .int .i64 (q : Int), .int .i64 er] 192 (0, 0))).alloc (.cells #[.string ⟨#[]⟩, .int .i64 0, .int .i64 0] 192 (0, 0)))) (o := (.cells #[.int .i64 0, .int .i64 0, .string ⟨#[]⟩] 158 (0, 0))) (by simp))
            have HB10 := Lib.hid (HB6.out.alloc (by have := HB6.out.size; simp at this ⊢ <;> omega) (.cells #[.int .i64 0, .int .i64 0, .string ⟨#[]⟩] 158 (0, 0)))
            clear HB6
            refine (H1.out (((w.alloc (.cells #[.string S, .int .i64 (q : Int), .int .i64 er] 192 (0, 0))).alloc (.cells #[.string ⟨#[]⟩, .int .i64 0, .int .i64 0] 192 (0, 0))).alloc (.cells #[.int .i64 0, .int .i64 0, .string ⟨#[]⟩] 158 (0, 0)))).mono ?_
            rintro e w1 ⟨rfl, hb1⟩
            have HF11 := Lib.hid (blk_below HF7.out hb1)
            have HF12 := Lib.hid (blk_below HF8.out hb1)
            have HF13 := Lib.hid (blk_below HF9.out hb1)
            have HB14 := Lib.hid (HB10.out.trans (hb1.mono HB10.out.size))
            clear hb1 HB10 HF7 HF8 HF9
            have hk15 : w.heap.size < w1.heap.size := lt_of_block HF11.out
            have hk16 : w.heap.size + 1 < w1.heap.size := lt_of_block HF12.out
            have hk17 : w.heap.size + 2 < w1.heap.size := lt_of_block HF13.out
            go_wp2_with (first
              | refine wpList_store_rowY rfl 192 (.tmp 1) (.tmp 9) rfl (w.heap.size) #[.string S, .int .i64 (q1 : Int), .int .i64 e1] rfl rfl 192 _ HF11.out (info_sc3 _ _ _) rfl (one_sc3 _ _ _) w.heap.size w HB14.out (by omega) ?_)
            intro W2 hbk hoth hbel _
            have HF18 := Lib.hid hbk.out
            have HF19 := Lib.hid (blk_oth HF12.out hoth.out (by omega))
            have HF20 := Lib.hid (blk_oth HF13.out hoth.out (by omega))
            have HB21 := Lib.hid hbel.out
            clear hbk hoth hbel HB14 HF11 HF12 HF13
            have hk22 : w.heap.size < W2.heap.size := lt_of_block HF18.out
            have hk23 : w.heap.size + 1 < W2.heap.size := lt_of_block HF19.out
            have hk24 : w.heap.size + 2 < W2.heap.size := lt_of_block HF20.out
            have HF25 := Lib.hid (blk_alloc HF18.out (.cells #[.int .i64 3, .int .i64 0, .string ⟨#[]⟩] 158 (0, 0)))
            have HF26 := Lib.hid (blk_alloc HF19.out (.cells #[.int .i64 3, .int .i64 0, .string ⟨#[]⟩] 158 (0, 0)))
            have HF27 := Lib.hid (blk_alloc HF20.out (.cells #[.int .i64 3, .int .i64 0, .string ⟨#[]⟩] 158 (0, 0)))
            have HF28 := Lib.hid (blk_new W2 (.cells #[.int .i64 3, .int .i64 0, .string ⟨#[]⟩] 158 (0, 0)))
            have HB29 := Lib.hid (HB21.out.alloc HB21.out.size (.cells #[.int .i64 3, .int .i64 0, .string ⟨#[]⟩] 158 (0, 0)))
            clear HB21
            have hc30 : (W2.alloc (.cells #[.int .i64 3, .int .i64 0, .string ⟨#[]⟩] 158 (0, 0))).cell? ⟨w.heap.size, 0, none⟩ = some (.string S) := by rw [cell_of_row _ _ _ _ _ _ HF25.out]; rfl
            have hc31 : W2.cell? ⟨w.heap.size, 0, none⟩ = some (.string S) := by rw [cell_of_row _ _ _ _ _ _ HF18.out]; rfl
            have hc32 : (W2.alloc (.cells #[.int .i64 3, .int .i64 0, .string ⟨#[]⟩] 158 (0, 0))).cell? ⟨w.heap.size, 1, none⟩ = some (.int .i64 (q1 : Int)) := by rw [cell_of_row _ _ _ _ _ _ HF25.out]; rfl
            have hc33 : W2.cell? ⟨w.heap.size, 1, none⟩ = some (.int .i64 (q1 : Int)) := by rw [cell_of_row _ _ _ _ _ _ HF18.out]; rfl
            have hc34 : (W2.alloc (.cells #[.int .i64 3, .int .i64 0, .string ⟨#[]⟩] 158 (0, 0))).cell? ⟨w.heap.size, 2, none⟩ = some (.int .i64 e1) := by rw [cell_of_row _ _ _ _ _ _ HF25.out]; rfl
            have hc35 : W2.cell? ⟨w.heap.size, 2, none⟩ = some (.int .i64 e1) := by rw [cell_of_row _ _ _ _ _ _ HF18.out]; rfl
            have hl36 : w.heap.size < W2.heap.size := lt_of_block HF18.out
            have hl37 : ¬ w.heap.size = W2.heap.size := by omega
            go_wp2_with fail
            refine (H2.out (W2.alloc (.cells #[.int .i64 3, .int .i64 0, .string ⟨#[]⟩] 158 (0, 0)))).mono ?_
            rintro e w3 ⟨rfl, hb3⟩
            clear hc30 hc31 hc32 hc33 hc34 hc35 hl36 hl37
            have HF38 := Lib.hid (blk_below HF25.out hb3)
            have HF39 := Lib.hid (blk_below HF26.out hb3)
            have HF40 := Lib.hid (blk_below HF27.out hb3)
            have HF41 := Lib.hid (blk_below HF28.out hb3)
            have HB42 := Lib.hid (HB29.out.trans (hb3.mono HB29.out.size))
            clear hb3 HB29 HF25 HF18 HF26 HF19 HF27 HF20 HF28
            go_wp2_with (first
              | refine wpList_store_rowY rfl 192 (.tmp 1) (.tmp 34) rfl (w.heap.size) #[.string S, .int .i64 (q2 : Int), .int .i64 0] rfl rfl 192 _ HF38.out (info_sc3 _ _ _) rfl (one_sc3 _ _ _) w.heap.size w HB42.out (by omega) ?_)
            intro W4 hbk hoth hbel _
            have HF43 := Lib.hid hbk.out
            have HF44 := Lib.hid (blk_oth HF39.out hoth.out (by omega))
            have HF45 := Lib.hid (blk_oth HF40.out hoth.out (by omega))
            have HF46 := Lib.hid (blk_oth HF41.out hoth.out (by omega))
            have HB47 := Lib.hid hbel.out
            clear hbk hoth hbel HB42 HF38 HF39 HF40 HF41
            have hc48 : W4.cell? ⟨W2.heap.size, 0, none⟩ = some (.int .i64 3) := by rw [cell_of_row _ _ _ _ _ _ HF46.out]; rfl
            have hc49 : W4.cell? ⟨W2.heap.size, 1, none⟩ = some (.int .i64 0) := by rw [cell_of_row _ _ _ _ _ _ HF46.out]; rfl
            have hc50 : W4.cell? ⟨W2.heap.size, 2, none⟩ = some (.string ⟨#[]⟩) := by rw [cell_of_row _ _ _ _ _ _ HF46.out]; rfl
            have hc51 : W4.cell? ⟨w.heap.size, 0, none⟩ = some (.string S) := by rw [cell_of_row _ _ _ _ _ _ HF43.out]; rfl
            have hc52 : W4.cell? ⟨w.heap.size, 1, none⟩ = some (.int .i64 (q2 : Int)) := by rw [cell_of_row _ _ _ _ _ _ HF43.out]; rfl
            have hc53 : W4.cell? ⟨w.heap.size, 2, none⟩ = some (.int .i64 0) := by rw [cell_of_row _ _ _ _ _ _ HF43.out]; rfl
            have hz54 : W4.frozen? ⟨W2.heap.size, 2, none⟩ = false := frozen_of_row _ _ _ _ _ HF46.out
            have HF55 := Lib.hid (show (W4.setCell ⟨W2.heap.size, 2, none⟩ (.string t)).heap[w.heap.size]? = some (.cells #[.string S, .int .i64 (q2 : Int), .int .i64 0] 192 (0, 0)) by rw [Below.heap_setCell _ _ _ _ (by show w.heap.size ≠ W2.heap.size; omega)]; exact HF43.out)
            have HF56 := Lib.hid (show (W4.setCell ⟨W2.heap.size, 2, none⟩ (.string t)).heap[w.heap.size + 1]? = some (.cells #[.string ⟨#[]⟩, .int .i64 0, .int .i64 0] 192 (0, 0)) by rw [Below.heap_setCell _ _ _ _ (by show w.heap.size + 1 ≠ W2.heap.size; omega)]; exact HF44.out)
            have HF57 := Lib.hid (show (W4.setCell ⟨W2.heap.size, 2, none⟩ (.string t)).heap[w.heap.size + 2]? = some (.cells #[.int .i64 0, .int .i64 0, .string ⟨#[]⟩] 158 (0, 0)) by rw [Below.heap_setCell _ _ _ _ (by show w.heap.size + 2 ≠ W2.heap.size; omega)]; exact HF45.out)
            have HF58 := Lib.hid (show (W4.setCell ⟨W2.heap.size, 2, none⟩ (.string t)).heap[W2.heap.size]? = some (.cells #[.int .i64 3, .int .i64 0, .string t] 158 (0, 0)) by have h := heap_setCell_at (i := 2) (u := .string t) HF46.out; exact h)
            have HB59 := Lib.hid (HB47.out.setCell (p := ⟨W2.heap.size, 2, none⟩) (by show w.heap.size ≤ W2.heap.size; omega) (.string t))
            have hc60 : (W4.setCell ⟨W2.heap.size, 2, none⟩ (.string t)).cell? ⟨w.heap.size, 0, none⟩ = some (.string S) := by rw [cell_of_row _ _ _ _ _ _ HF55.out]; rfl
            have hc61 : (W4.setCell ⟨W2.heap.size, 2, none⟩ (.string t)).cell? ⟨w.heap.size, 1, none⟩ = some (.int .i64 (q2 : Int)) := by rw [cell_of_row _ _ _ _ _ _ HF55.out]; rfl
            have hc62 : (W4.setCell ⟨W2.heap.size, 2, none⟩ (.string t)).cell? ⟨w.heap.size, 2, none⟩ = some (.int .i64 0) := by rw [cell_of_row _ _ _ _ _ _ HF55.out]; rfl
            have hc63 : (W4.setCell ⟨W2.heap.size, 2, none⟩ (.string t)).cell? ⟨W2.heap.size, 0, none⟩ = some (.int .i64 3) := by rw [cell_of_row _ _ _ _ _ _ HF58.out]; rfl
            have hc64 : (W4.setCell ⟨W2.heap.size, 2, none⟩ (.string t)).cell? ⟨W2.heap.size, 1, none⟩ = some (.int .i64 0) := by rw [cell_of_row _ _ _ _ _ _ HF58.out]; rfl
            have hc65 : (W4.setCell ⟨W2.heap.size, 2, none⟩ (.string t)).cell? ⟨W2.heap.size, 2, none⟩ = some (.string t) := by rw [cell_of_row _ _ _ _ _ _ HF58.out]; rfl
            go_wp2_with fail
            refine (HCK.out (W4.setCell ⟨W2.heap.size, 2, none⟩ (.string t))).mono ?_
            rintro e w5 ⟨rfl, hb5⟩
            clear hc48 hc49 hc50 hc51 hc52 hc53 hz54 hc60 hc61 hc62 hc63 hc64 hc65
            have HF66 := Lib.hid (blk_below HF55.out hb5)
            have HF67 := Lib.hid (blk_below HF56.out hb5)
            have HF68 := Lib.hid (blk_below HF57.out hb5)
            have HF69 := Lib.hid (blk_below HF58.out hb5)
            have HB70 := Lib.hid (HB59.out.trans (hb5.mono HB59.out.size))
            clear hb5 HB59 HF55 HF56 HF57 HF58
            have hc71 : w5.cell? ⟨w.heap.size, 0, none⟩ = some (.string S) := by rw [cell_of_row _ _ _ _ _ _ HF66.out]; rfl
            have hc72 : w5.cell? ⟨w.heap.size, 1, none⟩ = some (.int .i64 (q2 : Int)) := by rw [cell_of_row _ _ _ _ _ _ HF66.out]; rfl
            have hc73 : w5.cell? ⟨w.heap.size, 2, none⟩ = some (.int .i64 0) := by rw [cell_of_row _ _ _ _ _ _ HF66.out]; rfl
            have hk74 : w.heap.size < w5.heap.size := lt_of_block HF66.out
            have hk75 : w.heap.size + 1 < w5.heap.size := lt_of_block HF67.out
            have hk76 : w.heap.size + 2 < w5.heap.size := lt_of_block HF68.out
            have hk77 : W2.heap.size < w5.heap.size := lt_of_block HF69.out
            have hc78 : w5.cell? ⟨W2.heap.size, 0, none⟩ = some (.int .i64 3) := by rw [cell_of_row _ _ _ _ _ _ HF69.out]; rfl
            have hc79 : w5.cell? ⟨W2.heap.size, 1, none⟩ = some (.int .i64 0) := by rw [cell_of_row _ _ _ _ _ _ HF69.out]; rfl
            have hc80 : w5.cell? ⟨W2.heap.size, 2, none⟩ = some (.string t) := by rw [cell_of_row _ _ _ _ _ _ HF69.out]; rfl
            have hc81 : w5.cell? ⟨w.heap.size + 1, 0, none⟩ = some (.string ⟨#[]⟩) := by rw [cell_of_row _ _ _ _ _ _ HF67.out]; rfl
            have hc82 : w5.cell? ⟨w.heap.size + 1, 1, none⟩ = some (.int .i64 0) := by rw [cell_of_row _ _ _ _ _ _ HF67.out]; rfl
            have hc83 : w5.cell? ⟨w.heap.size + 1, 2, none⟩ = some (.int .i64 0) := by rw [cell_of_row _ _ _ _ _ _ HF67.out]; rfl
            have hc84 : w5.cell? ⟨w.heap.size + 2, 0, none⟩ = some (.int .i64 0) := by rw [cell_of_row _ _ _ _ _ _ HF68.out]; rfl
            have hc85 : w5.cell? ⟨w.heap.size + 2, 1, none⟩ = some (.int .i64 0) := by rw [cell_of_row _ _ _ _ _ _ HF68.out]; rfl
            have hc86 : w5.cell? ⟨w.heap.size + 2, 2, none⟩ = some (.string ⟨#[]⟩) := by rw [cell_of_row _ _ _ _ _ _ HF68.out]; rfl
            have hz87 : w5.frozen? ⟨w.heap.size + 1, 0, none⟩ = false := frozen_of_row _ _ _ _ _ HF67.out
            have hz88 : w5.frozen? ⟨w.heap.size + 1, 1, none⟩ = false := frozen_of_row _ _ _ _ _ HF67.out
            have hz89 : w5.frozen? ⟨w.heap.size + 1, 2, none⟩ = false := frozen_of_row _ _ _ _ _ HF67.out
            have hz90 : w5.frozen? ⟨w.heap.size + 2, 0, none⟩ = false := frozen_of_row _ _ _ _ _ HF68.out
            have hz91 : w5.frozen? ⟨w.heap.size + 2, 1, none⟩ = false := frozen_of_row _ _ _ _ _ HF68.out
            have hz92 : w5.frozen? ⟨w.heap.size + 2, 2, none⟩ = false := frozen_of_row _ _ _ _ _ HF68.out
            go_wp2_with fail
            go_region
            obtain ⟨z1, z2, z3⟩ := set33 w5 (w.heap.size + 1) (w.heap.size + 1 + 1) (by omega) _ _ _ (.string S) (.int .i64 (q2 : Int)) (.int .i64 0) _ _ _ (.int .i64 3) (.int .i64 0) (.string t) HF67.out HF68.out w HB70.out (by omega) (by omega)
            generalize ((((((w5.setCell ⟨w.heap.size + 1, 0, none⟩ (.string S)).setCell ⟨w.heap.size + 1, 1, none⟩ (.int .i64 (q2 : Int))).setCell ⟨w.heap.size + 1, 2, none⟩ (.int .i64 0)).setCell ⟨w.heap.size + 1 + 1, 0, none⟩ (.int .i64 3)).setCell ⟨w.heap.size + 1 + 1, 1, none⟩ (.int .i64 0)).setCell ⟨w.heap.size + 1 + 1, 2, none⟩ (.string t)).drew = Wz at z1 z2 z3 ⊢
            have Z1 := Lib.hid z1
            have Z2 := Lib.hid z2
            have Z3 := Lib.hid z3
            clear z1 z2 z3
            clear hc71 hc72 hc73 hc78 hc79 hc80 hc81 hc82 hc83 hc84 hc85 hc86 hz87 hz88 hz89 hz90 hz91 hz92
            go_wp2_with fail
            refine bodyPost_ret (results_ccY rfl _ _ (w.heap.size + 1) (w.heap.size + 1 + 1) #[.string S, .int .i64 (q2 : Int), .int .i64 0] #[.int .i64 3, .int .i64 0, .string t] rfl (run_loadVar_row _ (w.heap.size + 1) 192 192 _ (0, 0) _ Z1.out Try.underlying192 rfl (info_sc3 _ _ _)) rfl (run_loadVar_row _ (w.heap.size + 1 + 1) 158 158 _ (0, 0) _ Z2.out Try.underlying158 rfl (info_val _ _ _))) rfl ?_
            exact ⟨rfl, Z3.out⟩
        · obtain ⟨r1, r2⟩ : rvE S q er = e2 ∧ rvV S q er = (0, 0, ⟨#[]⟩) := by
            cases hv : vok 3 (0 : Int) t with
            | true => exact rv_err hM hv he
            | false =>
              have g := rv_bad hM hv
              rw [show Rd.fail e2 3 = e2 by unfold Rd.fail; rw [if_pos he]] at g
              exact g
          rw [r2, r1, hM]
          dsimp only [vvv]
          have hn : (e2 != 0) = true := by simpa using he
          have hn2 : (e2 == 0) = false := by simpa using he
          clear hM r1 r2 he
          have HB1 := Lib.hid (Below.refl w.heap.size w)
          go_enter Try.func200, Try.ntmps200
          go_wp2_with fail
          have HF2 := Lib.hid (blk_new w (.cells #[.string S, .int .i64 (q : Int), .int .i64 er] 192 (0, 0)))
          have HB3 := Lib.hid (HB1.out.alloc HB1.out.size (.cells #[.string S, .int .i64 (q : Int), .int .i64 er] 192 (0, 0)))
          clear HB1
          have HF4 := Lib.hid (blk_alloc HF2.out (.cells #[.string ⟨#[]⟩, .int .i64 0, .int .i64 0] 192 (0, 0)))
          clear HF2
          have HF5 : Hid (((w.alloc (.cells #[.string S, .int .i64 (q : Int), .int .i64 er] 192 (0, 0))).alloc (.cells #[.string ⟨#[]⟩, .int .i64 0, .int .i64 0] 192 (0, 0))).heap[w.heap.size + 1]? = some (.cells #[.string ⟨#[]⟩, .int .i64 0, .int .i64 0] 192 (0, 0))) := Lib.hid (blk_newN (W := (w.alloc (.cells #[.string S, .int .i64 (q : Int), .int .i64 er] 192 (0, 0)))) (o := (.cells #[.string ⟨#[]⟩, .int .i64 0, .int .i64 0] 192 (0, 0))) (by simp))
          have HB6 := Lib.hid (HB3.out.alloc (by have := HB3.out.size; simp at this ⊢ <;> omega) (.cells #[.string ⟨#[]⟩, .int .i64 0, .int .i64 0] 192 (0, 0)))
          clear HB3
          have HF7 := Lib.hid (blk_alloc HF4.out (.cells #[.int .i64 0, .int .i64 0, .string ⟨#[]⟩] 158 (0, 0)))
          clear HF4
          have HF8 := Lib.hid (blk_alloc HF5.out (.cells #[.int .i64 0, .int .i64 0, .string ⟨#[]⟩] 158 (0, 0)))
          clear HF5
          have HF9 : Hid ((((w.alloc (.cells #[.string S, .int .i64 (q : Int), .int .i64 er] 192 (0, 0))).alloc (.cells #[.string ⟨#[]⟩, .int .i64 0, .int .i64 0] 192 (0, 0))).alloc (.cells #[.int .i64 0, .int .i64 0, .string ⟨#[]⟩] 158 (0, 0))).heap[w.heap.size + 2]? = some (.cells #[.int .i64 0, .int .i64 0, .string ⟨#[]⟩] 158 (0, 0))) := Lib.hid (blk_newN (W := ((w.alloc (.cells #[.string S, .int .i64 (q : Int), .int .i64 er] 192 (0, 0))).alloc (.cells #[.string ⟨#[]⟩, .int .i64 0, .int .i64 0] 192 (0, 0)))) (o := (.cells #[.int .i64 0, .int .i64 0, .string ⟨#[]⟩] 158 (0, 0))) (by simp))
          have HB10 := Lib.hid (HB6.out.alloc (by have := HB6.out.size; simp at this ⊢ <;> omega) (.cells #[.int .i64 0, .int .i64 0, .string ⟨#[]⟩] 158 (0, 0)))
          clear HB6
          refine (H1.out (((w.alloc (.cells #[.string S, .int .i64 (q : Int), .int .i64 er] 192 (0, 0))).alloc (.cells #[.string ⟨#[]⟩, .int .i64 0, .int .i64 0] 192 (0, 0))).alloc (.cells #[.int .i64 0, .int .i64 0, .string ⟨#[]⟩] 158 (0, 0)))).mono ?_
          rintro e w1 ⟨rfl, hb1⟩
          have HF11 := Lib.hid (blk_below HF7.out hb1)
          have HF12 := Lib.hid (blk_below HF8.out hb1)
          have HF13 := Lib.hid (blk_below HF9.out hb1)
          have HB14 := Lib.hid (HB10.out.trans (hb1.mono HB10.out.size))
          clear hb1 HB10 HF7 HF8 HF9
          have hk15 : w.heap.size < w1.heap.size := lt_of_block HF11.out
          have hk16 : w.heap.size + 1 < w1.heap.size := lt_of_block HF12.out
          have hk17 : w.heap.size + 2 < w1.heap.size := lt_of_block HF13.out
          go_wp2_with (first
            | refine wpList_store_rowY rfl 192 (.tmp 1) (.tmp 9) rfl (w.heap.size) #[.string S, .int .i64 (q1 : Int), .int .i64 e1] rfl rfl 192 _ HF11.out (info_sc3 _ _ _) rfl (one_sc3 _ _ _) w.heap.size w HB14.out (by omega) ?_)
          intro W2 hbk hoth hbel _
          have HF18 := Lib.hid hbk.out
          have HF19 := Lib.hid (blk_oth HF12.out hoth.out (by omega))
          have HF20 := Lib.hid (blk_oth HF13.out hoth.out (by omega))
          have HB21 := Lib.hid hbel.out
          clear hbk hoth hbel HB14 HF11 HF12 HF13
          have hk22 : w.heap.size < W2.heap.size := lt_of_block HF18.out
          have hk23 : w.heap.size + 1 < W2.heap.size := lt_of_block HF19.out
          have hk24 : w.heap.size + 2 < W2.heap.size := lt_of_block HF20.out
          have HF25 := Lib.hid (blk_alloc HF18.out (.cells #[.int .i64 3, .int .i64 0, .string ⟨#[]⟩] 158 (0, 0)))
          have HF26 := Lib.hid (blk_alloc HF19.out (.cells #[.int .i64 3, .int .i64 0, .string ⟨#[]⟩] 158 (0, 0)))
          have HF27 := Lib.hid (blk_alloc HF20.out (.cells #[.int .i64 3, .int .i64 0, .string ⟨#[]⟩] 158 (0, 0)))
          have HF28 := Lib.hid (blk_new W2 (.cells #[.int .i64 3, .int .i64 0, .string ⟨#[]⟩] 158 (0, 0)))
          have HB29 := Lib.hid (HB21.out.alloc HB21.out.size (.cells #[.int .i64 3, .int .i64 0, .string ⟨#[]⟩] 158 (0, 0)))
          clear HB21
          have hc30 : (W2.alloc (.cells #[.int .i64 3, .int .i64 0, .string ⟨#[]⟩] 158 (0, 0))).cell? ⟨w.heap.size, 0, none⟩ = some (.string S) := by rw [cell_of_row _ _ _ _ _ _ HF25.out]; rfl
          have hc31 : W2.cell? ⟨w.heap.size, 0, none⟩ = some (.string S) := by rw [cell_of_row _ _ _ _ _ _ HF18.out]; rfl
          have hc32 : (W2.alloc (.cells #[.int .i64 3, .int .i64 0, .string ⟨#[]⟩] 158 (0, 0))).cell? ⟨w.heap.size, 1, none⟩ = some (.int .i64 (q1 : Int)) := by rw [cell_of_row _ _ _ _ _ _ HF25.out]; rfl
          have hc33 : W2.cell? ⟨w.heap.size, 1, none⟩ = some (.int .i64 (q1 : Int)) := by rw [cell_of_row _ _ _ _ _ _ HF18.out]; rfl
          have hc34 : (W2.alloc (.cells #[.int .i64 3, .int .i64 0, .string ⟨#[]⟩] 158 (0, 0))).cell? ⟨w.heap.size, 2, none⟩ = some (.int .i64 e1) := by rw [cell_of_row _ _ _ _ _ _ HF25.out]; rfl
          have hc35 : W2.cell? ⟨w.heap.size, 2, none⟩ = some (.int .i64 e1) := by rw [cell_of_row _ _ _ _ _ _ HF18.out]; rfl
          have hl36 : w.heap.size < W2.heap.size := lt_of_block HF18.out
          have hl37 : ¬ w.heap.size = W2.heap.size := by omega
          go_wp2_with fail
          refine (H2.out (W2.alloc (.cells #[.int .i64 3, .int .i64 0, .string ⟨#[]⟩] 158 (0, 0)))).mono ?_
          rintro e w3 ⟨rfl, hb3⟩
          clear hc30 hc31 hc32 hc33 hc34 hc35 hl36 hl37
          have HF38 := Lib.hid (blk_below HF25.out hb3)
          have HF39 := Lib.hid (blk_below HF26.out hb3)
          have HF40 := Lib.hid (blk_below HF27.out hb3)
          have HF41 := Lib.hid (blk_below HF28.out hb3)
          have HB42 := Lib.hid (HB29.out.trans (hb3.mono HB29.out.size))
          clear hb3 HB29 HF25 HF18 HF26 HF19 HF27 HF20 HF28
          go_wp2_with (first
            | refine wpList_store_rowY rfl 192 (.tmp 1) (.tmp 34) rfl (w.heap.size) #[.string S, .int .i64 (q2 : Int), .int .i64 e2] rfl rfl 192 _ HF38.out (info_sc3 _ _ _) rfl (one_sc3 _ _ _) w.heap.size w HB42.out (by omega) ?_)
          intro W4 hbk hoth hbel _
          have HF43 := Lib.hid hbk.out
          have HF44 := Lib.hid (blk_oth HF39.out hoth.out (by omega))
          have HF45 := Lib.hid (blk_oth HF40.out hoth.out (by omega))
          have HF46 := Lib.hid (blk_oth HF41.out hoth.out (by omega))
          have HB47 := Lib.hid hbel.out
          clear hbk hoth hbel HB42 HF38 HF39 HF40 HF41
          have hc48 : W4.cell? ⟨W2.heap.size, 0, none⟩ = some (.int .i64 3) := by rw [cell_of_row _ _ _ _ _ _ HF46.out]; rfl
          have hc49 : W4.cell? ⟨W2.heap.size, 1, none⟩ = some (.int .i64 0) := by rw [cell_of_row _ _ _ _ _ _ HF46.out]; rfl
          have hc50 : W4.cell? ⟨W2.heap.size, 2, none⟩ = some (.string ⟨#[]⟩) := by rw [cell_of_row _ _ _ _ _ _ HF46.out]; rfl
          have hc51 : W4.cell? ⟨w.heap.size, 0, none⟩ = some (.string S) := by rw [cell_of_row _ _ _ _ _ _ HF43.out]; rfl
          have hc52 : W4.cell? ⟨w.heap.size, 1, none⟩ = some (.int .i64 (q2 : Int)) := by rw [cell_of_row _ _ _ _ _ _ HF43.out]; rfl
          have hc53 : W4.cell? ⟨w.heap.size, 2, none⟩ = some (.int .i64 e2) := by rw [cell_of_row _ _ _ _ _ _ HF43.out]; rfl
          have hz54 : W4.frozen? ⟨W2.heap.size, 2, none⟩ = false := frozen_of_row _ _ _ _ _ HF46.out
          have HF55 := Lib.hid (show (W4.setCell ⟨W2.heap.size, 2, none⟩ (.string t)).heap[w.heap.size]? = some (.cells #[.string S, .int .i64 (q2 : Int), .int .i64 e2] 192 (0, 0)) by rw [Below.heap_setCell _ _ _ _ (by show w.heap.size ≠ W2.heap.size; omega)]; exact HF43.out)
          have HF56 := Lib.hid (show (W4.setCell ⟨W2.heap.size, 2, none⟩ (.string t)).heap[w.heap.size + 1]? = some (.cells #[.string ⟨#[]⟩, .int .i64 0, .int .i64 0] 192 (0, 0)) by rw [Below.heap_setCell _ _ _ _ (by show w.heap.size + 1 ≠ W2.heap.size; omega)]; exact HF44.out)
          have HF57 := Lib.hid (show (W4.setCell ⟨W2.heap.size, 2, none⟩ (.string t)).heap[w.heap.size + 2]? = some (.cells #[.int .i64 0, .int .i64 0, .string ⟨#[]⟩] 158 (0, 0)) by rw [Below.heap_setCell _ _ _ _ (by show w.heap.size + 2 ≠ W2.heap.size; omega)]; exact HF45.out)
          have HF58 := Lib.hid (show (W4.setCell ⟨W2.heap.size, 2, none⟩ (.string t)).heap[W2.heap.size]? = some (.cells #[.int .i64 3, .int .i64 0, .string t] 158 (0, 0)) by have h := heap_setCell_at (i := 2) (u := .string t) HF46.out; exact h)
          have HB59 := Lib.hid (HB47.out.setCell (p := ⟨W2.heap.size, 2, none⟩) (by show w.heap.size ≤ W2.heap.size; omega) (.string t))
          have hc60 : (W4.setCell ⟨W2.heap.size, 2, none⟩ (.string t)).cell? ⟨w.heap.size, 0, none⟩ = some (.string S) := by rw [cell_of_row _ _ _ _ _ _ HF55.out]; rfl
          have hc61 : (W4.setCell ⟨W2.heap.size, 2, none⟩ (.string t)).cell? ⟨w.heap.size, 1, none⟩ = some (.int .i64 (q2 : Int)) := by rw [cell_of_row _ _ _ _ _ _ HF55.out]; rfl
          have hc62 : (W4.setCell ⟨W2.heap.size, 2, none⟩ (.string t)).cell? ⟨w.heap.size, 2, none⟩ = some (.int .i64 e2) := by rw [cell_of_row _ _ _ _ _ _ HF55.out]; rfl
          have hc63 : (W4.setCell ⟨W2.heap.size, 2, none⟩ (.string t)).cell? ⟨W2.heap.size, 0, none⟩ = some (.int .i64 3) := by rw [cell_of_row _ _ _ _ _ _ HF58.out]; rfl
          have hc64 : (W4.setCell ⟨W2.heap.size, 2, none⟩ (.string t)).cell? ⟨W2.heap.size, 1, none⟩ = some (.int .i64 0) := by rw [cell_of_row _ _ _ _ _ _ HF58.out]; rfl
          have hc65 : (W4.setCell ⟨W2.heap.size, 2, none⟩ (.string t)).cell? ⟨W2.heap.size, 2, none⟩ = some (.string t) := by rw [cell_of_row _ _ _ _ _ _ HF58.out]; rfl
          have hk66 : w.heap.size < (W4.setCell ⟨W2.heap.size, 2, none⟩ (.string t)).heap.size := lt_of_block HF55.out
          have hk67 : w.heap.size + 1 < (W4.setCell ⟨W2.heap.size, 2, none⟩ (.string t)).heap.size := lt_of_block HF56.out
          have hk68 : w.heap.size + 2 < (W4.setCell ⟨W2.heap.size, 2, none⟩ (.string t)).heap.size := lt_of_block HF57.out
          have hk69 : W2.heap.size < (W4.setCell ⟨W2.heap.size, 2, none⟩ (.string t)).heap.size := lt_of_block HF58.out
          go_wp2_with (first
            | refine wpList_store_rowY rfl 192 (.tmp 2) (.tmp 49) rfl (w.heap.size + 1) #[.string S, .int .i64 (q2 : Int), .int .i64 e2] rfl rfl 192 _ HF56.out (info_sc3 _ _ _) rfl (one_sc3 _ _ _) w.heap.size w HB59.out (by omega) ?_
            | refine wpList_load_row rfl 192 (.tmp 1) rfl (w.heap.size) rfl 192 #[.string S, .int .i64 (q2 : Int), .int .i64 e2] (0, 0) _ HF55.out Try.underlying192 rfl (info_sc3 _ _ _) ?_)
          intro W5 hbk hoth hbel _
          clear hc48 hc49 hc50 hc51 hc52 hc53 hz54 hc60 hc61 hc62 hc63 hc64 hc65
          have HF70 := Lib.hid (blk_oth HF55.out hoth.out (by omega))
          have HF71 := Lib.hid hbk.out
          have HF72 := Lib.hid (blk_oth HF57.out hoth.out (by omega))
          have HF73 := Lib.hid (blk_oth HF58.out hoth.out (by omega))
          have HB74 := Lib.hid hbel.out
          clear hbk hoth hbel HB59 HF55 HF56 HF57 HF58
          go_wp2_with (first
            | refine wpList_store_rowY rfl 158 (.tmp 3) (.tmp 50) rfl (w.heap.size + 2) #[.int .i64 0, .int .i64 0, .string ⟨#[]⟩] rfl rfl 158 _ HF72.out (info_val _ _ _) rfl (one_val _ _ _) w.heap.size w HB74.out (by omega) ?_)
          intro W6 hbk hoth hbel _
          have HF75 := Lib.hid (blk_oth HF70.out hoth.out (by omega))
          have HF76 := Lib.hid (blk_oth HF71.out hoth.out (by omega))
          have HF77 := Lib.hid hbk.out
          have HF78 := Lib.hid (blk_oth HF73.out hoth.out (by omega))
          have HB79 := Lib.hid hbel.out
          clear hbk hoth hbel HB74 HF70 HF71 HF72 HF73
          go_wp2_with fail
          refine bodyPost_ret (results_ccY rfl _ _ (w.heap.size + 1) (w.heap.size + 2) #[.string S, .int .i64 (q2 : Int), .int .i64 e2] #[.int .i64 0, .int .i64 0, .string ⟨#[]⟩] rfl (run_loadVar_row _ (w.heap.size + 1) 192 192 _ (0, 0) _ HF76.out Try.underlying192 rfl (info_sc3 _ _ _)) rfl (run_loadVar_row _ (w.heap.size + 2) 158 158 _ (0, 0) _ HF77.out Try.underlying158 rfl (info_val _ _ _))) rfl ?_
          exact ⟨rfl, HB79.out⟩
      · rw [if_neg k3] at hM
        have kb3 : (k == 3) = false := by simpa using k3
        by_cases he : e1 = 0
        · cases hv : vok k 0 ⟨#[]⟩ with
          | false =>
            obtain ⟨r1, r2⟩ := rv_bad hM hv
            rw [show Rd.fail e1 3 = 3 from he ▸ rfl] at r1
            rw [r2, r1, hM]
            dsimp only [vvv]
            have HCK := Lib.hid (fun W : World => vis_any k (0 : Int) ⟨#[]⟩ W)
            rw [hv] at HCK
            subst he
            clear k1 k2 k3 hM hv r1 r2
            have HB1 := Lib.hid (Below.refl w.heap.size w)
            go_enter Try.func200, Try.ntmps200
            go_wp2_with fail
            have HF2 := Lib.hid (blk_new w (.cells #[.string S, .int .i64 (q : Int), .int .i64 er] 192 (0, 0)))
            have HB3 := Lib.hid (HB1.out.alloc HB1.out.size (.cells #[.string S, .int .i64 (q : Int), .int .i64 er] 192 (0, 0)))
            clear HB1
            have HF4 := Lib.hid (blk_alloc HF2.out (.cells #[.string ⟨#[]⟩, .int .i64 0, .int .i64 0] 192 (0, 0)))
            clear HF2
            have HF5 : Hid (((w.alloc (.cells #[.string S, .int .i64 (q : Int), .int .i64 er] 192 (0, 0))).alloc (.cells #[.string ⟨#[]⟩, .int .i64 0, .int .i64 0] 192 (0, 0))).heap[w.heap.size + 1]? = some (.cells #[.string ⟨#[]⟩, .int .i64 0, .int .i64 0] 192 (0, 0))) := Lib.hid (blk_newN (W := (w.alloc (.cells #[.string S, .int .i64 (q : Int), .int .i64 er] 192 (0, 0)))) (o := (.cells #[.string ⟨#[]⟩, .int .i64 0, .int .i64 0] 192 (0, 0))) (by simp))
            have HB6 := Lib.hid (HB3.out.alloc (by have := HB3.out.size; simp at this ⊢ <;> omega) (.cells #[.string ⟨#[]⟩, .int .i64 0, .int .i64 0] 192 (0, 0)))
            clear HB3
            have HF7 := Lib.hid (blk_alloc HF4.out (.cells #[.int .i64 0, .int .i64 0, .string ⟨#[]⟩] 158 (0, 0)))
            clear HF4
            have HF8 := Lib.hid (blk_alloc HF5.out (.cells #[.int .i64 0, .int .i64 0, .string ⟨#[]⟩] 158 (0, 0)))
            clear HF5
            have HF9 : Hid ((((w.alloc (.cells #[.string S, .int .i64 (q : Int), .int .i64 er] 192 (0, 0))).alloc (.cells #[.string ⟨#[]⟩, .int .i64 0, .int .i64 0] 192 (0, 0))).alloc (.cells #[.int .i64 0, .int .i64 0, .string ⟨#[]⟩] 158 (0, 0))).heap[w.heap.size + 2]? = some (.cells #[.int .i64 0, .int .i64 0, .string ⟨#[]⟩] 158 (0, 0))) := Lib.hid (blk_newN (W := ((w.alloc (.cells #[.string S, .int .i64 (q : Int), .int .i64 er] 192 (0, 0))).alloc (.cells #[.string ⟨#[]⟩, .int .i64 0, .int .i64 0] 192 (0, 0)))) (o := (.cells #[.int .i64 0, .int .i64 0, .string ⟨#[]⟩] 158 (0, 0))) (by simp))
            have HB10 := Lib.hid (HB6.out.alloc (by have := HB6.out.size; simp at this ⊢ <;> omega) (.cells #[.int .i64 0, .int .i64 0, .string ⟨#[]⟩] 158 (0, 0)))
            clear HB6
            refine (H1.out (((w.alloc (.cells #[.string S, .int .i64 (q : Int), .int .i64 er] 192 (0, 0))).alloc (.cells #[.string ⟨#[]⟩, .int .i64 0, .int .i64 0] 192 (0, 0))).alloc (.cells #[.int .i64 0, .int .i64 0, .string ⟨#[]⟩] 158 (0, 0)))).mono ?_
            rintro e w1 ⟨rfl, hb1⟩
            have HF11 := Lib.hid (blk_below HF7.out hb1)
            have HF12 := Lib.hid (blk_below HF8.out hb1)
            have HF13 := Lib.hid (blk_below HF9.out hb1)
            have HB14 := Lib.hid (HB10.out.trans (hb1.mono HB10.out.size))
            clear hb1 HB10 HF7 HF8 HF9
            have hk15 : w.heap.size < w1.heap.size := lt_of_block HF11.out
            have hk16 : w.heap.size + 1 < w1.heap.size := lt_of_block HF12.out
            have hk17 : w.heap.size + 2 < w1.heap.size := lt_of_block HF13.out
            go_wp2_with (first
              | refine wpList_store_rowY rfl 192 (.tmp 1) (.tmp 9) rfl (w.heap.size) #[.string S, .int .i64 (q1 : Int), .int .i64 0] rfl rfl 192 _ HF11.out (info_sc3 _ _ _) rfl (one_sc3 _ _ _) w.heap.size w HB14.out (by omega) ?_)
            intro W2 hbk hoth hbel _
            have HF18 := Lib.hid hbk.out
            have HF19 := Lib.hid (blk_oth HF12.out hoth.out (by omega))
            have HF20 := Lib.hid (blk_oth HF13.out hoth.out (by omega))
            have HB21 := Lib.hid hbel.out
            clear hbk hoth hbel HB14 HF11 HF12 HF13
            have hk22 : w.heap.size < W2.heap.size := lt_of_block HF18.out
            have hk23 : w.heap.size + 1 < W2.heap.size := lt_of_block HF19.out
            have hk24 : w.heap.size + 2 < W2.heap.size := lt_of_block HF20.out
            have HF25 := Lib.hid (blk_alloc HF18.out (.cells #[.int .i64 k, .int .i64 0, .string ⟨#[]⟩] 158 (0, 0)))
            have HF26 := Lib.hid (blk_alloc HF19.out (.cells #[.int .i64 k, .int .i64 0, .string ⟨#[]⟩] 158 (0, 0)))
            have HF27 := Lib.hid (blk_alloc HF20.out (.cells #[.int .i64 k, .int .i64 0, .string ⟨#[]⟩] 158 (0, 0)))
            have HF28 := Lib.hid (blk_new W2 (.cells #[.int .i64 k, .int .i64 0, .string ⟨#[]⟩] 158 (0, 0)))
            have HB29 := Lib.hid (HB21.out.alloc HB21.out.size (.cells #[.int .i64 k, .int .i64 0, .string ⟨#[]⟩] 158 (0, 0)))
            clear HB21
            have hc30 : (W2.alloc (.cells #[.int .i64 k, .int .i64 0, .string ⟨#[]⟩] 158 (0, 0))).cell? ⟨w.heap.size, 0, none⟩ = some (.string S) := by rw [cell_of_row _ _ _ _ _ _ HF25.out]; rfl
            have hc31 : W2.cell? ⟨w.heap.size, 0, none⟩ = some (.string S) := by rw [cell_of_row _ _ _ _ _ _ HF18.out]; rfl
            have hc32 : (W2.alloc (.cells #[.int .i64 k, .int .i64 0, .string ⟨#[]⟩] 158 (0, 0))).cell? ⟨w.heap.size, 1, none⟩ = some (.int .i64 (q1 : Int)) := by rw [cell_of_row _ _ _ _ _ _ HF25.out]; rfl
            have hc33 : W2.cell? ⟨w.heap.size, 1, none⟩ = some (.int .i64 (q1 : Int)) := by rw [cell_of_row _ _ _ _ _ _ HF18.out]; rfl
            have hc34 : (W2.alloc (.cells #[.int .i64 k, .int .i64 0, .string ⟨#[]⟩] 158 (0, 0))).cell? ⟨w.heap.size, 2, none⟩ = some (.int .i64 0) := by rw [cell_of_row _ _ _ _ _ _ HF25.out]; rfl
            have hc35 : W2.cell? ⟨w.heap.size, 2, none⟩ = some (.int .i64 0) := by rw [cell_of_row _ _ _ _ _ _ HF18.out]; rfl
            have hl36 : w.heap.size < W2.heap.size := lt_of_block HF18.out
            have hl37 : ¬ w.heap.size = W2.heap.size := by omega
            go_wp2_with fail
            refine (HCK.out (W2.alloc (.cells #[.int .i64 k, .int .i64 0, .string ⟨#[]⟩] 158 (0, 0)))).mono ?_
            rintro e w3 ⟨rfl, hb3⟩
            clear hc30 hc31 hc32 hc33 hc34 hc35 hl36 hl37
            have HF38 := Lib.hid (blk_below HF25.out hb3)
            have HF39 := Lib.hid (blk_below HF26.out hb3)
            have HF40 := Lib.hid (blk_below HF27.out hb3)
            have HF41 := Lib.hid (blk_below HF28.out hb3)
            have HB42 := Lib.hid (HB29.out.trans (hb3.mono HB29.out.size))
            clear hb3 HB29 HF25 HF18 HF26 HF19 HF27 HF20 HF28
            have hc43 : w3.cell? ⟨w.heap.size, 0, none⟩ = some (.string S) := by rw [cell_of_row _ _ _ _ _ _ HF38.out]; rfl
            have hc44 : w3.cell? ⟨w.heap.size, 1, none⟩ = some (.int .i64 (q1 : Int)) := by rw [cell_of_row _ _ _ _ _ _ HF38.out]; rfl
            have hc45 : w3.cell? ⟨w.heap.size, 2, none⟩ = some (.int .i64 0) := by rw [cell_of_row _ _ _ _ _ _ HF38.out]; rfl
            have hz46 : w3.frozen? ⟨w.heap.size, 2, none⟩ = false := frozen_of_row _ _ _ _ _ HF38.out
            have HF47 := Lib.hid (show (w3.setCell ⟨w.heap.size, 2, none⟩ (.int .i64 3)).heap[w.heap.size]? = some (.cells #[.string S, .int .i64 (q1 : Int), .int .i64 3] 192 (0, 0)) by have h := heap_setCell_at (i := 2) (u := .int .i64 3) HF38.out; exact h)
            have HF48 := Lib.hid (show (w3.setCell ⟨w.heap.size, 2, none⟩ (.int .i64 3)).heap[w.heap.size + 1]? = some (.cells #[.string ⟨#[]⟩, .int .i64 0, .int .i64 0] 192 (0, 0)) by rw [Below.heap_setCell _ _ _ _ (by show w.heap.size + 1 ≠ w.heap.size; omega)]; exact HF39.out)
            have HF49 := Lib.hid (show (w3.setCell ⟨w.heap.size, 2, none⟩ (.int .i64 3)).heap[w.heap.size + 2]? = some (.cells #[.int .i64 0, .int .i64 0, .string ⟨#[]⟩] 158 (0, 0)) by rw [Below.heap_setCell _ _ _ _ (by show w.heap.size + 2 ≠ w.heap.size; omega)]; exact HF40.out)
            have HF50 := Lib.hid (show (w3.setCell ⟨w.heap.size, 2, none⟩ (.int .i64 3)).heap[W2.heap.size]? = some (.cells #[.int .i64 k, .int .i64 0, .string ⟨#[]⟩] 158 (0, 0)) by rw [Below.heap_setCell _ _ _ _ (by show W2.heap.size ≠ w.heap.size; omega)]; exact HF41.out)
            have HB51 := Lib.hid (HB42.out.setCell (p := ⟨w.heap.size, 2, none⟩) (by show w.heap.size ≤ w.heap.size; omega) (.int .i64 3))
            have hc52 : (w3.setCell ⟨w.heap.size, 2, none⟩ (.int .i64 3)).cell? ⟨w.heap.size, 0, none⟩ = some (.string S) := by rw [cell_of_row _ _ _ _ _ _ HF47.out]; rfl
            have hc53 : (w3.setCell ⟨w.heap.size, 2, none⟩ (.int .i64 3)).cell? ⟨w.heap.size, 1, none⟩ = some (.int .i64 (q1 : Int)) := by rw [cell_of_row _ _ _ _ _ _ HF47.out]; rfl
            have hc54 : (w3.setCell ⟨w.heap.size, 2, none⟩ (.int .i64 3)).cell? ⟨w.heap.size, 2, none⟩ = some (.int .i64 3) := by rw [cell_of_row _ _ _ _ _ _ HF47.out]; rfl
            have hk55 : w.heap.size < (w3.setCell ⟨w.heap.size, 2, none⟩ (.int .i64 3)).heap.size := lt_of_block HF47.out
            have hk56 : w.heap.size + 1 < (w3.setCell ⟨w.heap.size, 2, none⟩ (.int .i64 3)).heap.size := lt_of_block HF48.out
            have hk57 : w.heap.size + 2 < (w3.setCell ⟨w.heap.size, 2, none⟩ (.int .i64 3)).heap.size := lt_of_block HF49.out
            have hk58 : W2.heap.size < (w3.setCell ⟨w.heap.size, 2, none⟩ (.int .i64 3)).heap.size := lt_of_block HF50.out
            go_wp2_with (first
              | refine wpList_store_rowY rfl 192 (.tmp 2) (.tmp 49) rfl (w.heap.size + 1) #[.string S, .int .i64 (q1 : Int), .int .i64 3] rfl rfl 192 _ HF48.out (info_sc3 _ _ _) rfl (one_sc3 _ _ _) w.heap.size w HB51.out (by omega) ?_
              | refine wpList_load_row rfl 192 (.tmp 1) rfl (w.heap.size) rfl 192 #[.string S, .int .i64 (q1 : Int), .int .i64 3] (0, 0) _ HF47.out Try.underlying192 rfl (info_sc3 _ _ _) ?_)
            intro W4 hbk hoth hbel _
            clear hc43 hc44 hc45 hz46 hc52 hc53 hc54
            have HF59 := Lib.hid (blk_oth HF47.out hoth.out (by omega))
            have HF60 := Lib.hid hbk.out
            have HF61 := Lib.hid (blk_oth HF49.out hoth.out (by omega))
            have HF62 := Lib.hid (blk_oth HF50.out hoth.out (by omega))
            have HB63 := Lib.hid hbel.out
            clear hbk hoth hbel HB51 HF47 HF48 HF49 HF50
            go_wp2_with (first
              | refine wpList_store_rowY rfl 158 (.tmp 3) (.tmp 50) rfl (w.heap.size + 2) #[.int .i64 0, .int .i64 0, .string ⟨#[]⟩] rfl rfl 158 _ HF61.out (info_val _ _ _) rfl (one_val _ _ _) w.heap.size w HB63.out (by omega) ?_)
            intro W5 hbk hoth hbel _
            have HF64 := Lib.hid (blk_oth HF59.out hoth.out (by omega))
            have HF65 := Lib.hid (blk_oth HF60.out hoth.out (by omega))
            have HF66 := Lib.hid hbk.out
            have HF67 := Lib.hid (blk_oth HF62.out hoth.out (by omega))
            have HB68 := Lib.hid hbel.out
            clear hbk hoth hbel HB63 HF59 HF60 HF61 HF62
            go_wp2_with fail
            refine bodyPost_ret (results_ccY rfl _ _ (w.heap.size + 1) (w.heap.size + 2) #[.string S, .int .i64 (q1 : Int), .int .i64 3] #[.int .i64 0, .int .i64 0, .string ⟨#[]⟩] rfl (run_loadVar_row _ (w.heap.size + 1) 192 192 _ (0, 0) _ HF65.out Try.underlying192 rfl (info_sc3 _ _ _)) rfl (run_loadVar_row _ (w.heap.size + 2) 158 158 _ (0, 0) _ HF66.out Try.underlying158 rfl (info_val _ _ _))) rfl ?_
            exact ⟨rfl, HB68.out⟩
          | true =>
            exfalso
            unfold vok at hv
            rw [if_neg k1, if_neg k2] at hv
            simp [k3] at hv
        · obtain ⟨r1, r2⟩ : rvE S q er = e1 ∧ rvV S q er = (0, 0, ⟨#[]⟩) := by
            cases hv : vok k (0 : Int) ⟨#[]⟩ with
            | true => exact rv_err hM hv he
            | false =>
              have g := rv_bad hM hv
              rw [show Rd.fail e1 3 = e1 by unfold Rd.fail; rw [if_pos he]] at g
              exact g
          rw [r2, r1, hM]
          dsimp only [vvv]
          have hn : (e1 != 0) = true := by simpa using he
          have hn2 : (e1 == 0) = false := by simpa using he
          clear k1 k2 k3 hM r1 r2 he
          have HB1 := Lib.hid (Below.refl w.heap.size w)
          go_enter Try.func200, Try.ntmps200
          go_wp2_with fail
          have HF2 := Lib.hid (blk_new w (.cells #[.string S, .int .i64 (q : Int), .int .i64 er] 192 (0, 0)))
          have HB3 := Lib.hid (HB1.out.alloc HB1.out.size (.cells #[.string S, .int .i64 (q : Int), .int .i64 er] 192 (0, 0)))
          clear HB1
          have HF4 := Lib.hid (blk_alloc HF2.out (.cells #[.string ⟨#[]⟩, .int .i64 0, .int .i64 0] 192 (0, 0)))
          clear HF2
          have HF5 : Hid (((w.alloc (.cells #[.string S, .int .i64 (q : Int), .int .i64 er] 192 (0, 0))).alloc (.cells #[.string ⟨#[]⟩, .int .i64 0, .int .i64 0] 192 (0, 0))).heap[w.heap.size + 1]? = some (.cells #[.string ⟨#[]⟩, .int .i64 0, .int .i64 0] 192 (0, 0))) := Lib.hid (blk_newN (W := (w.alloc (.cells #[.string S, .int .i64 (q : Int), .int .i64 er] 192 (0, 0)))) (o := (.cells #[.string ⟨#[]⟩, .int .i64 0, .int .i64 0] 192 (0, 0))) (by simp))
          have HB6 := Lib.hid (HB3.out.alloc (by have := HB3.out.size; simp at this ⊢ <;> omega) (.cells #[.string ⟨#[]⟩, .int .i64 0, .int .i64 0] 192 (0, 0)))
          clear HB3
          have HF7 := Lib.hid (blk_alloc HF4.out (.cells #[.int .i64 0, .int .i64 0, .string ⟨#[]⟩] 158 (0, 0)))
          clear HF4
          have HF8 := Lib.hid (blk_alloc HF5.out (.cells #[.int .i64 0, .int .i64 0, .string ⟨#[]⟩] 158 (0, 0)))
          clear HF5
          have HF9 : Hid ((((w.alloc (.cells #[.string S, .int .i64 (q : Int), .int .i64 er] 192 (0, 0))).alloc (.cells #[.string ⟨#[]⟩, .int .i64 0, .int .i64 0] 192 (0, 0))).alloc (.cells #[.int .i64 0, .int .i64 0, .string ⟨#[]⟩] 158 (0, 0))).heap[w.heap.size + 2]? = some (.cells #[.int .i64 0, .int .i64 0, .string ⟨#[]⟩] 158 (0, 0))) := Lib.hid (blk_newN (W := ((w.alloc (.cells #[.string S, .int .i64 (q : Int), .int .i64 er] 192 (0, 0))).alloc (.cells #[.string ⟨#[]⟩, .int .i64 0, .int .i64 0] 192 (0, 0)))) (o := (.cells #[.int .i64 0, .int .i64 0, .string ⟨#[]⟩] 158 (0, 0))) (by simp))
          have HB10 := Lib.hid (HB6.out.alloc (by have := HB6.out.size; simp at this ⊢ <;> omega) (.cells #[.int .i64 0, .int .i64 0, .string ⟨#[]⟩] 158 (0, 0)))
          clear HB6
          refine (H1.out (((w.alloc (.cells #[.string S, .int .i64 (q : Int), .int .i64 er] 192 (0, 0))).alloc (.cells #[.string ⟨#[]⟩, .int .i64 0, .int .i64 0] 192 (0, 0))).alloc (.cells #[.int .i64 0, .int .i64 0, .string ⟨#[]⟩] 158 (0, 0)))).mono ?_
          rintro e w1 ⟨rfl, hb1⟩
          have HF11 := Lib.hid (blk_below HF7.out hb1)
          have HF12 := Lib.hid (blk_below HF8.out hb1)
          have HF13 := Lib.hid (blk_below HF9.out hb1)
          have HB14 := Lib.hid (HB10.out.trans (hb1.mono HB10.out.size))
          clear hb1 HB10 HF7 HF8 HF9
          have hk15 : w.heap.size < w1.heap.size := lt_of_block HF11.out
          have hk16 : w.heap.size + 1 < w1.heap.size := lt_of_block HF12.out
          have hk17 : w.heap.size + 2 < w1.heap.size := lt_of_block HF13.out
          go_wp2_with (first
            | refine wpList_store_rowY rfl 192 (.tmp 1) (.tmp 9) rfl (w.heap.size) #[.string S, .int .i64 (q1 : Int), .int .i64 e1] rfl rfl 192 _ HF11.out (info_sc3 _ _ _) rfl (one_sc3 _ _ _) w.heap.size w HB14.out (by omega) ?_)
          intro W2 hbk hoth hbel _
          have HF18 := Lib.hid hbk.out
          have HF19 := Lib.hid (blk_oth HF12.out hoth.out (by omega))
          have HF20 := Lib.hid (blk_oth HF13.out hoth.out (by omega))
          have HB21 := Lib.hid hbel.out
          clear hbk hoth hbel HB14 HF11 HF12 HF13
          have hk22 : w.heap.size < W2.heap.size := lt_of_block HF18.out
          have hk23 : w.heap.size + 1 < W2.heap.size := lt_of_block HF19.out
          have hk24 : w.heap.size + 2 < W2.heap.size := lt_of_block HF20.out
          have HF25 := Lib.hid (blk_alloc HF18.out (.cells #[.int .i64 k, .int .i64 0, .string ⟨#[]⟩] 158 (0, 0)))
          have HF26 := Lib.hid (blk_alloc HF19.out (.cells #[.int .i64 k, .int .i64 0, .string ⟨#[]⟩] 158 (0, 0)))
          have HF27 := Lib.hid (blk_alloc HF20.out (.cells #[.int .i64 k, .int .i64 0, .string ⟨#[]⟩] 158 (0, 0)))
          have HF28 := Lib.hid (blk_new W2 (.cells #[.int .i64 k, .int .i64 0, .string ⟨#[]⟩] 158 (0, 0)))
          have HB29 := Lib.hid (HB21.out.alloc HB21.out.size (.cells #[.int .i64 k, .int .i64 0, .string ⟨#[]⟩] 158 (0, 0)))
          clear HB21
          have hc30 : (W2.alloc (.cells #[.int .i64 k, .int .i64 0, .string ⟨#[]⟩] 158 (0, 0))).cell? ⟨w.heap.size, 0, none⟩ = some (.string S) := by rw [cell_of_row _ _ _ _ _ _ HF25.out]; rfl
          have hc31 : W2.cell? ⟨w.heap.size, 0, none⟩ = some (.string S) := by rw [cell_of_row _ _ _ _ _ _ HF18.out]; rfl
          have hc32 : (W2.alloc (.cells #[.int .i64 k, .int .i64 0, .string ⟨#[]⟩] 158 (0, 0))).cell? ⟨w.heap.size, 1, none⟩ = some (.int .i64 (q1 : Int)) := by rw [cell_of_row _ _ _ _ _ _ HF25.out]; rfl
          have hc33 : W2.cell? ⟨w.heap.size, 1, none⟩ = some (.int .i64 (q1 : Int)) := by rw [cell_of_row _ _ _ _ _ _ HF18.out]; rfl
          have hc34 : (W2.alloc (.cells #[.int .i64 k, .int .i64 0, .string ⟨#[]⟩] 158 (0, 0))).cell? ⟨w.heap.size, 2, none⟩ = some (.int .i64 e1) := by rw [cell_of_row _ _ _ _ _ _ HF25.out]; rfl
          have hc35 : W2.cell? ⟨w.heap.size, 2, none⟩ = some (.int .i64 e1) := by rw [cell_of_row _ _ _ _ _ _ HF18.out]; rfl
          have hl36 : w.heap.size < W2.heap.size := lt_of_block HF18.out
          have hl37 : ¬ w.heap.size = W2.heap.size := by omega
          go_wp2_with (first
            | refine wpList_store_rowY rfl 192 (.tmp 2) (.tmp 49) rfl (w.heap.size + 1) #[.string S, .int .i64 (q1 : Int), .int .i64 e1] rfl rfl 192 _ HF26.out (info_sc3 _ _ _) rfl (one_sc3 _ _ _) w.heap.size w HB29.out (by omega) ?_
            | refine wpList_load_row rfl 192 (.tmp 1) rfl (w.heap.size) rfl 192 #[.string S, .int .i64 (q1 : Int), .int .i64 e1] (0, 0) _ HF25.out Try.underlying192 rfl (info_sc3 _ _ _) ?_)
          intro W3 hbk hoth hbel _
          clear hc30 hc31 hc32 hc33 hc34 hc35 hl36 hl37
          have HF38 := Lib.hid (blk_oth HF25.out hoth.out (by omega))
          have HF39 := Lib.hid hbk.out
          have HF40 := Lib.hid (blk_oth HF27.out hoth.out (by omega))
          have HF41 := Lib.hid (blk_oth HF28.out hoth.out (by omega))
          have HB42 := Lib.hid hbel.out
          clear hbk hoth hbel HB29 HF25 HF26 HF27 HF28
          go_wp2_with (first
            | refine wpList_store_rowY rfl 158 (.tmp 3) (.tmp 50) rfl (w.heap.size + 2) #[.int .i64 0, .int .i64 0, .string ⟨#[]⟩] rfl rfl 158 _ HF40.out (info_val _ _ _) rfl (one_val _ _ _) w.heap.size w HB42.out (by omega) ?_)
          intro W4 hbk hoth hbel _
          have HF43 := Lib.hid (blk_oth HF38.out hoth.out (by omega))
          have HF44 := Lib.hid (blk_oth HF39.out hoth.out (by omega))
          have HF45 := Lib.hid hbk.out
          have HF46 := Lib.hid (blk_oth HF41.out hoth.out (by omega))
          have HB47 := Lib.hid hbel.out
          clear hbk hoth hbel HB42 HF38 HF39 HF40 HF41
          go_wp2_with fail
          refine bodyPost_ret (results_ccY rfl _ _ (w.heap.size + 1) (w.heap.size + 2) #[.string S, .int .i64 (q1 : Int), .int .i64 e1] #[.int .i64 0, .int .i64 0, .string ⟨#[]⟩] rfl (run_loadVar_row _ (w.heap.size + 1) 192 192 _ (0, 0) _ HF44.out Try.underlying192 rfl (info_sc3 _ _ _)) rfl (run_loadVar_row _ (w.heap.size + 2) 158 158 _ (0, 0) _ HF45.out Try.underlying158 rfl (info_val _ _ _))) rfl ?_
          exact ⟨rfl, HB47.out⟩
end Go.Proofs.Ytbjngbacnkmjhaa
