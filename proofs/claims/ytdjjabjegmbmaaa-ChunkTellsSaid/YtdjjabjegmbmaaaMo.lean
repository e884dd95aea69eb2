/- chunk.Over over this translation. Condition: slices of at most 2 to the 62nd, at most 1000 twigs. -/
import Derived.Test.YtdjjabjegmbmaaaMb
import Derived.Test.YtdjjabjegmbmaaaPx
import Derived.IntWalk
import Derived.Deep.DeepCutAuto
namespace Go.Proofs.Ytdjjabjegmbmaaa
open Go.RowKit Vi

abbrev Tw := ByteArray × ByteArray × Int
def twC (t : Tw) : List Value := [.string t.1, .string t.2.1, .int .i64 t.2.2]
def twE (ts : List Tw) : List En := ts.map fun t => (t.1, t.2.1)
def twI (ts : List Tw) : List Int := ts.map fun t => t.2.2
theorem info_enO : (Try.prog.info? 36).map (fun i => (i.zero, i.size, i.bytes)) = some (some (.agg #[.string ⟨#[]⟩, .string ⟨#[]⟩]), 2, 32) := by kernel_rfl
theorem info_inO : (Try.prog.info? 3).map (fun i => (i.zero, i.size, i.bytes)) = some (some (.int .i64 0), 1, 8) := by kernel_rfl
theorem one_chO {lv : Int} {vE vC : Value} (h1 : vE.oneCell' = true) (h2 : vC.oneCell' = true) : (#[.int .i64 lv, vE, vC] : Array Value).all (·.oneCell') = true := by
  have h0 : (Value.int .i64 lv).oneCell' = true := rfl
  simp [h0, h1, h2]
def OverP (lv : Int) (ts : List Tw) (w : World) (e : Ending) (w' : World) : Prop :=
  ∃ vE vC : Value, e = .returned (.agg #[.int .i64 lv, vE, vC]) ∧ OwX enC 2 36 w' w.heap.size vE (twE ts) ∧ OwX inC 1 3 w' w.heap.size vC (twI ts) ∧ Below w.heap.size w w'
set_option maxRecDepth 100000 in
set_option maxHeartbeats 4000000 in
theorem cover_any (lv : Int) (A : Option Addr) (n c0 : Nat) (ts : List Tw) (w : World) (h : RdX twC 3 w A n ts) (hn : n ≤ 1000) :
    Calls Try.prog 23 #[.int .i64 lv, .slice A n c0] w (OverP lv ts w) := by
  have H := Lib.hid h
  have LL := Lib.hid h.1
  clear h
  have HB1 := Lib.hid (Below.refl w.heap.size w)
  go_enter Try.func23, Try.ntmps23
  have HF2 := Lib.hid (blk_alloc (blk_new w (.cells #[.int .i64 0, .slice none 0 0, .slice none 0 0] 26 (0, 0))) (.cells #[.int .i64 lv, .slice none 0 0, .slice none 0 0] 26 (0, 0)))
  have HC2 := Lib.hid (two_blk w (.cells #[.int .i64 0, .slice none 0 0, .slice none 0 0] 26 (0, 0)) (.cells #[.int .i64 lv, .slice none 0 0, .slice none 0 0] 26 (0, 0)))
  have HB2 := Lib.hid ((HB1.out.alloc HB1.out.size (.cells #[.int .i64 0, .slice none 0 0, .slice none 0 0] 26 (0, 0))).alloc (HB1.out.alloc HB1.out.size (.cells #[.int .i64 0, .slice none 0 0, .slice none 0 0] 26 (0, 0))).size (.cells #[.int .i64 lv, .slice none 0 0, .slice none 0 0] 26 (0, 0)))
  clear HB1
  go_wp2_with fail
  go_loopw [12] (fun i wr => ∃ (k : Nat) (vE vC : Value) (es : List En) (cs : List Int), i = .int .i64 (k : Int) ∧ k ≤ n ∧ es = twE (ts.take k) ∧ cs = twI (ts.take k) ∧ wr.heap[w.heap.size + 1]? = some (.cells #[.int .i64 lv, vE, vC] 26 (0, 0)) ∧ wr.heap[w.heap.size]? = some (.cells #[.int .i64 0, .slice none 0 0, .slice none 0 0] 26 (0, 0)) ∧ OwX enC 2 36 wr (w.heap.size + 2) vE es ∧ OwX inC 1 3 wr (w.heap.size + 2) vC cs ∧ Below w.heap.size w wr) (fun i _ => n - (intOf i).toNat)
  case atStart => exact ⟨0, _, _, [], [], rfl, Nat.zero_le _, rfl, rfl, HC2.out, HF2.out, OwX.nil _, OwX.nil _, HB2.out⟩
  case round =>
    obtain ⟨k, vE, vC, es, cs, rfl, hk, hes, hcs, hbc, hbr, hoe, hoc, hb⟩ := hrel
    have HES := Lib.hid hes
    have HCS := Lib.hid hcs
    have HC := Lib.hid hbc
    have HRV := Lib.hid hbr
    have HE := Lib.hid hoe
    have HI := Lib.hid hoc
    have HB := Lib.hid hb
    have hlE : es.length ≤ 1000 := by rw [hes]; unfold twE; rw [List.length_map, List.length_take]; omega
    have hlC : cs.length ≤ 1000 := by rw [hcs]; unfold twI; rw [List.length_map, List.length_take]; omega
    have hCl := lt_of_block hbc
    have hvE := hoe.one
    have hvC := hoc.one
    clear hes hcs hbc hbr hoe hoc hb HF2 HC2 HB2
    by_cases hlt : k < n
    · have hd1 : decide ((k : Int) < (n : Int)) = true := decide_eq_true (by omega)
      obtain ⟨b, off, hl, rfl, hbb, hc⟩ := (H.out.below HB.out).at hlt
      have HE1 := Lib.hid (show twE (ts.take (k + 1)) = es ++ [(ts[k].1, ts[k].2.1)] by rw [HES.out, List.take_succ_eq_append_getElem hl]; unfold twE; rw [List.map_append]; rfl)
      have HC1 := Lib.hid (show twI (ts.take (k + 1)) = cs ++ [ts[k].2.2] by rw [HCS.out, List.take_succ_eq_append_getElem hl]; unfold twI; rw [List.map_append]; rfl)
      obtain ⟨y, hy⟩ : ∃ y, ts[k] = y := ⟨_, rfl⟩
      rw [hy] at hc HE1 HC1
      obtain ⟨s, v, c⟩ := y
      have a0 := hc 0 _ rfl
      have a1 := hc 1 _ rfl
      have a2 := hc 2 _ rfl
      rw [Nat.add_zero] at a0
      have hi0 : (0 : Int) ≤ (k : Int) := by omega
      clear hc hy
      go_upto_region 5 with (fail)
      clear a0 a1 a2 hd1 hi0
      have HFa := Lib.hid (blk_alloc HC.out (.cells #[.string s, .string v, .int .i64 c] 39 (0, 0)))
      have HRa := Lib.hid (blk_alloc HRV.out (.cells #[.string s, .string v, .int .i64 c] 39 (0, 0)))
      have HTa := Lib.hid (blk_new wr (.cells #[.string s, .string v, .int .i64 c] 39 (0, 0)))
      have HEa := Lib.hid (HE.out.alloc (.cells #[.string s, .string v, .int .i64 c] 39 (0, 0)))
      have HIa := Lib.hid (HI.out.alloc (.cells #[.string s, .string v, .int .i64 c] 39 (0, 0)))
      have HBa := Lib.hid (HB.out.alloc HB.out.size (.cells #[.string s, .string v, .int .i64 c] 39 (0, 0)))
      obtain ⟨wa, hwa⟩ : ∃ wa, wa = (wr.alloc (.cells #[.string s, .string v, .int .i64 c] 39 (0, 0))) := ⟨_, rfl⟩
      rw [← hwa] at HFa HRa HTa HEa HIa HBa
      rw [← hwa]
      clear hwa HC HRV HE HI HB
      have hCa : w.heap.size + 1 < wa.heap.size := lt_of_block HFa.out
      have hTa : wr.heap.size < wa.heap.size := lt_of_block HTa.out
      have HZa := Lib.hid (Below.refl (w.heap.size + 2) wa)
      have hca0 : wa.cell? ⟨w.heap.size + 1, 0, none⟩ = some (.int .i64 lv) := by rw [cell_of_row _ _ _ _ _ _ HFa.out]; rfl
      have hca1 : wa.cell? ⟨w.heap.size + 1, 1, none⟩ = some (vE) := by rw [cell_of_row _ _ _ _ _ _ HFa.out]; rfl
      have hca2 : wa.cell? ⟨w.heap.size + 1, 2, none⟩ = some (vC) := by rw [cell_of_row _ _ _ _ _ _ HFa.out]; rfl
      have hta0 : wa.cell? ⟨wr.heap.size, 0, none⟩ = some (.string s) := by rw [cell_of_row _ _ _ _ _ _ HTa.out]; rfl
      have hta1 : wa.cell? ⟨wr.heap.size, 1, none⟩ = some (.string v) := by rw [cell_of_row _ _ _ _ _ _ HTa.out]; rfl
      have hta2 : wa.cell? ⟨wr.heap.size, 2, none⟩ = some (.int .i64 c) := by rw [cell_of_row _ _ _ _ _ _ HTa.out]; rfl
      go_wp2_with (at_builtin; refine wpList_appX rfl (.tmp 17) (.tmp 23) 23 36 _ 32 rfl Try.underlying23 info_enO rfl (by omega) (by omega) enC_len enC_one (w.heap.size + 2) wa (HZa.out.alloc (by omega) _) (by simp; omega) vE es rfl (HEa.out.alloc _) wa.heap.size 1 (s, v) #[.string s, .string v] 36 (0, 0) rfl (heap_alloc_new wa _) rfl (by omega) ?_)
      intro v7 w7 HO7 HB7 HZ7 HG7
      clear hca0 hca1 hca2 hta0 hta1 hta2
      have HC7 := Lib.hid ((HB7.out.block (w.heap.size + 1) (by omega)).trans HFa.out)
      have HR7 := Lib.hid ((HB7.out.block (w.heap.size) (by omega)).trans HRa.out)
      have HT7 := Lib.hid ((HEa.out.alloc _).box HG7.out (blk_alloc HTa.out _) (Or.inl (by decide)))
      have HI7 := Lib.hid ((HIa.out.alloc _).other (HEa.out.alloc _) (by decide) HG7.out)
      have HL7 := Lib.hid (HBa.out.trans (HB7.out.mono (by omega)))
      have hC7 : w.heap.size + 1 < w7.heap.size := lt_of_block HC7.out
      have hT7 : wr.heap.size < w7.heap.size := lt_of_block HT7.out
      have hv7 := HO7.out.one
      obtain ⟨A7, n7, c7, rfl⟩ := HO7.out.sl3
      clear HZa HEa HIa HBa HFa HRa HTa
      have hca0 : w7.cell? ⟨w.heap.size + 1, 0, none⟩ = some (.int .i64 lv) := by rw [cell_of_row _ _ _ _ _ _ HC7.out]; rfl
      have hca1 : w7.cell? ⟨w.heap.size + 1, 1, none⟩ = some (vE) := by rw [cell_of_row _ _ _ _ _ _ HC7.out]; rfl
      have hca2 : w7.cell? ⟨w.heap.size + 1, 2, none⟩ = some (vC) := by rw [cell_of_row _ _ _ _ _ _ HC7.out]; rfl
      have hz7 : w7.frozen? ⟨w.heap.size + 1, 1, none⟩ = false := frozen_of_row _ _ _ _ _ HC7.out
      go_upto_region 6 with (fail)
      clear hca0 hca1 hca2 hz7
      have HKb := Lib.hid ((KK.refl [w.heap.size + 1] w7).set (b := w.heap.size + 1) (by simp) 1 (.slice A7 n7 c7))
      have HFb := Lib.hid (show (w7.setCell ⟨w.heap.size + 1, 1, none⟩ (.slice A7 n7 c7)).heap[w.heap.size + 1]? = some (.cells #[.int .i64 lv, .slice A7 n7 c7, vC] 26 (0, 0)) by have h := heap_setCell_at (i := 1) (u := .slice A7 n7 c7) HC7.out; exact h)
      have HRb := Lib.hid (HKb.out.blk HR7.out (by simp))
      have HTb := Lib.hid (HKb.out.blk HT7.out (by simp; omega))
      obtain ⟨wb, hwb⟩ : ∃ wb, wb = (w7.setCell ⟨w.heap.size + 1, 1, none⟩ (.slice A7 n7 c7)) := ⟨_, rfl⟩
      rw [← hwb] at HKb HFb HRb HTb
      rw [← hwb]
      clear hwb
      have HEb := Lib.hid (HO7.out.kk HKb.out (by simp))
      have HIb := Lib.hid (HI7.out.kk HKb.out (by simp))
      have HBb := Lib.hid (HKb.out.below HL7.out (by simp) (by omega))
      have hCb : w.heap.size + 1 < wb.heap.size := lt_of_block HFb.out
      have hTb : wr.heap.size < wb.heap.size := lt_of_block HTb.out
      have HZb := Lib.hid (Below.refl (w.heap.size + 2) wb)
      clear HO7 HI7 HL7 HC7 HR7 HT7 HKb HB7 HZ7 HG7
      have hca0 : wb.cell? ⟨w.heap.size + 1, 0, none⟩ = some (.int .i64 lv) := by rw [cell_of_row _ _ _ _ _ _ HFb.out]; rfl
      have hca1 : wb.cell? ⟨w.heap.size + 1, 1, none⟩ = some (.slice A7 n7 c7) := by rw [cell_of_row _ _ _ _ _ _ HFb.out]; rfl
      have hca2 : wb.cell? ⟨w.heap.size + 1, 2, none⟩ = some (vC) := by rw [cell_of_row _ _ _ _ _ _ HFb.out]; rfl
      have hta0 : wb.cell? ⟨wr.heap.size, 0, none⟩ = some (.string s) := by rw [cell_of_row _ _ _ _ _ _ HTb.out]; rfl
      have hta1 : wb.cell? ⟨wr.heap.size, 1, none⟩ = some (.string v) := by rw [cell_of_row _ _ _ _ _ _ HTb.out]; rfl
      have hta2 : wb.cell? ⟨wr.heap.size, 2, none⟩ = some (.int .i64 c) := by rw [cell_of_row _ _ _ _ _ _ HTb.out]; rfl
      go_wp2_with (at_builtin; refine wpList_appX rfl (.tmp 27) (.tmp 30) 24 3 _ 8 rfl Try.underlying24 info_inO rfl (by omega) (by omega) inC_len inC_one (w.heap.size + 2) wb (HZb.out.alloc (by omega) _) (by simp; omega) vC cs rfl (HIb.out.alloc _) wb.heap.size 1 c #[.int .i64 c] 3 (0, 0) rfl (heap_alloc_new wb _) rfl (by omega) ?_)
      intro v8 w8 HO8 HB8 HZ8 HG8
      clear hca0 hca1 hca2 hta0 hta1 hta2
      have HC8 := Lib.hid ((HB8.out.block (w.heap.size + 1) (by omega)).trans HFb.out)
      have HR8 := Lib.hid ((HB8.out.block (w.heap.size) (by omega)).trans HRb.out)
      have HE8 := Lib.hid ((HEb.out.alloc _).other (HIb.out.alloc _) (by decide) HG8.out)
      have HL8 := Lib.hid (HBb.out.trans (HB8.out.mono (by omega)))
      have hC8 : w.heap.size + 1 < w8.heap.size := lt_of_block HC8.out
      have hv8 := HO8.out.one
      obtain ⟨A8, n8, c8, rfl⟩ := HO8.out.sl3
      clear HZb HEb HIb HBb HFb HRb HTb
      have hca0 : w8.cell? ⟨w.heap.size + 1, 0, none⟩ = some (.int .i64 lv) := by rw [cell_of_row _ _ _ _ _ _ HC8.out]; rfl
      have hca1 : w8.cell? ⟨w.heap.size + 1, 1, none⟩ = some (.slice A7 n7 c7) := by rw [cell_of_row _ _ _ _ _ _ HC8.out]; rfl
      have hca2 : w8.cell? ⟨w.heap.size + 1, 2, none⟩ = some (vC) := by rw [cell_of_row _ _ _ _ _ _ HC8.out]; rfl
      have hz8 : w8.frozen? ⟨w.heap.size + 1, 2, none⟩ = false := frozen_of_row _ _ _ _ _ HC8.out
      go_wp2_with fail
      clear hca0 hca1 hca2 hz8
      have HKc := Lib.hid ((KK.refl [w.heap.size + 1] w8).set (b := w.heap.size + 1) (by simp) 2 (.slice A8 n8 c8))
      have HFc := Lib.hid (show (w8.setCell ⟨w.heap.size + 1, 2, none⟩ (.slice A8 n8 c8)).heap[w.heap.size + 1]? = some (.cells #[.int .i64 lv, .slice A7 n7 c7, .slice A8 n8 c8] 26 (0, 0)) by have h := heap_setCell_at (i := 2) (u := .slice A8 n8 c8) HC8.out; exact h)
      have HRc := Lib.hid (HKc.out.blk HR8.out (by simp))
      go_roundw
      case rel => exact ⟨k + 1, .slice A7 n7 c7, .slice A8 n8 c8, es ++ [(s, v)], cs ++ [c], by go_num, by omega, HE1.out.symm, HC1.out.symm, HFc.out, HRc.out, HE8.out.kk HKc.out (by simp), HO8.out.kk HKc.out (by simp), HKc.out.below HL8.out (by simp) (by omega)⟩
      case measure => simp [intOf] <;> omega
    · have hd1 : decide ((k : Int) < (n : Int)) = false := decide_eq_false (by omega)
      have HT := Lib.hid (show ts.take k = ts by rw [List.take_of_length_le (by rw [LL.out]; omega)])
      have HK1 := Lib.hid (KK.refl [w.heap.size] wr)
      have hRl : w.heap.size < wr.heap.size := lt_of_block HRV.out
      go_wp2_with (first
        | refine wpList_store_rowY rfl 26 (.tmp 4) (.tmp 34) rfl (w.heap.size) #[.int .i64 lv, vE, vC] rfl rfl 26 _ HRV.out (info_ch _ _ _) rfl (one_chO hvE hvC) (w.heap.size) wr (Below.refl _ _) (Nat.le_refl _) ?_
        | refine wpList_load_row rfl 26 (.tmp 5) rfl (w.heap.size + 1) rfl 26 #[.int .i64 lv, vE, vC] (0, 0) _ HC.out Try.underlying26 rfl (info_ch _ _ _) ?_)
      intro W21 hbk hoth hbel _
      have HF3 := Lib.hid hbk.out
      have HK4 := Lib.hid (HK1.out.row (b := w.heap.size) (Or.inl (by simp)) hbel.out hoth.out)
      clear hbk hoth hbel HK1 HRV
      go_wp2_with fail
      refine bodyPost_ret (results_cY rfl _ _ (w.heap.size) #[.int .i64 lv, vE, vC] rfl (run_loadVar_row _ (w.heap.size) 26 26 _ (0, 0) _ HF3.out Try.underlying26 rfl (info_ch _ _ _))) rfl ?_
      exact ⟨vE, vC, rfl, by have q := (HE.out.kk HK4.out (by simp)).mono (B' := w.heap.size) (by omega); rw [HES.out, HT.out] at q; exact q, by have q := (HI.out.kk HK4.out (by simp)).mono (B' := w.heap.size) (by omega); rw [HCS.out, HT.out] at q; exact q, HK4.out.below HB.out (by simp) (by have := HB.out.size; omega)⟩
theorem rd_blkM {α : Type} {f : α → List Value} {s : Nat} (hf : ∀ x, (f x).length = s) {w : World} {b : Nat} {T : TypeId} {fr : Nat × Nat} {cs : Array Value} (l : List α) (h : w.heap[b]? = some (.cells cs T fr)) (hc : cs.toList = flat f l) : RdX f s w (some ⟨b, 0, none⟩) l.length l :=
  ⟨rfl, fun _ => ⟨b, 0, rfl, lt_of_block h, fun k x j u hx hu => by
    have hg := flat_get hf l k j x u hx hu
    rw [← hc] at hg
    rw [cell_of_row _ _ _ _ _ _ h, Nat.zero_add]
    simpa using hg⟩⟩
theorem twC_len (t : Tw) : (twC t).length = 3 := rfl
def Over2P (lv : Int) (a b d e : ByteArray) (c f : Int) (w : World) (x : Ending) (w' : World) : Prop :=
  ∃ A1 c1 A2 c2, x = .returned (.agg #[.int .i64 lv, .slice A1 2 c1, .slice A2 2 c2]) ∧ ChR w' A1 A2 2 2 [(a, b), (d, e)] [c, f] ∧ Below w.heap.size w w'
theorem cover2_any (lv : Int) (g c0 : Nat) (a b d e : ByteArray) (c f : Int) (T : TypeId) (fr : Nat × Nat) (w : World) (h : w.heap[g]? = some (.cells #[.string a, .string b, .int .i64 c, .string d, .string e, .int .i64 f] T fr)) :
    Calls Try.prog 23 #[.int .i64 lv, .slice (some ⟨g, 0, none⟩) 2 c0] w (Over2P lv a b d e c f w) := by
  refine (cover_any lv (some ⟨g, 0, none⟩) 2 c0 [(a, b, c), (d, e, f)] w (rd_blkM twC_len [(a, b, c), (d, e, f)] h rfl) (by omega)).mono ?_
  rintro x w' ⟨vE, vC, rfl, hE, hC, hb⟩
  obtain ⟨A1, c1, h1, r1, _, _⟩ := hE.rd enC_len
  obtain ⟨A2, c2, h2, r2, _, _⟩ := hC.rd inC_len
  exact ⟨A1, c1, A2, c2, by rw [h1, h2]; rfl, ⟨r1, r2⟩, hb⟩
end Go.Proofs.Ytdjjabjegmbmaaa
