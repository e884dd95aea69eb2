/- The library's Grow and Concat over facts. Condition: at most 100 slices, 100,000 facts. -/
import Derived.Test.YtjnichiblljmjaaIa
import Derived.Test.YtjnichiblljmjaaPm
import Derived.Test.YtjnichiblljmjaaPx
import Derived.Lib.AppendZerosOnto
import Derived.Laws.OwnMore
namespace Go.Proofs.Ytjnichiblljmjaa
open Go.RowKit Vi

theorem info_fcB : (Try.prog.info? 73).map (fun i => (i.zero, i.size, i.bytes)) = some (some (.agg #[.int .i64 0, .string ⟨#[]⟩, .string ⟨#[]⟩, .string ⟨#[]⟩]), 4, 56) := by kernel_rfl
def RetF0 (w : World) (L : List Fc) (e : Ending) (w' : World) : Prop := ∃ v, e = .returned v ∧ OwX fcC 4 73 w' w.heap.size v L ∧ Below w.heap.size w w'
set_option maxRecDepth 100000 in
set_option maxHeartbeats 1600000 in
theorem fgrow_any (n : Nat) (w : World) (hn : n ≤ 300000) :
    Calls Try.prog 138 #[.slice none 0 0, .int .i64 (n : Int)] w (RetF0 w []) := by
  rcases Nat.eq_zero_or_pos n with rfl | hp
  · go_enter Try.func138, Try.ntmps138
    go_wp2
    go_ret
    exact ⟨_, rfl, OwX.nil w, Below.refl _ _⟩
  · obtain ⟨i0, hi, hz0, hz1, hz2⟩ := info_parts info_fcB
    have hrz := fun ty => Lib.run_append_nil_zeros (P := Try.prog) w 69 3 ty 73 i0 (.agg #[.int .i64 0, .string ⟨#[]⟩, .string ⟨#[]⟩, .string ⟨#[]⟩]) .i64 .i64 Try.underlying69 Try.underlying3 hi hz0 n hp (by omega) (by omega) (by rw [hz2]; omega)
    have hGn : n ≤ grownCap w n 0 73 := grownCap_ge w _ _ _
    have hGm : grownCap w n 0 73 ≤ maxLen := grownCap_le_maxLen w n 0 73 (by unfold maxLen; omega)
    obtain ⟨G, hG⟩ : ∃ G, G = grownCap w n 0 73 := ⟨_, rfl⟩
    rw [← hG] at hGn hGm
    simp only [← hG] at hrz
    clear hG
    have hGm2 := hGm
    unfold maxLen at hGm2
    have h4 : (n : Int) > 0 := by omega
    have h1 : ¬ ((n : Int) < 0) := by omega
    have HRZ := Lib.hid hrz
    clear hrz hi hz0 hz1 hz2
    go_enter Try.func138, Try.ntmps138
    go_wp2_with (at_builtin; refine Lib.wpList_append_run _ rfl _ _ _ _ rfl _ _ rfl rfl _ _ (HRZ.out _) ?_)
    all_goals go_ret
    all_goals exact ⟨_, rfl, OwX.zero (heap_alloc_new w.drew _) (Nat.le_refl _) hGm (by simp [size_zeroCells]; omega), ((Below.refl _ w).drew).alloc (Nat.le_refl _) _⟩
theorem newF_one (w : World) (o : Obj) : (w.alloc o).drew.heap[w.heap.size]? = some o := (MapKept.heap_alloc w o).1
theorem belF_one (w : World) (o : Obj) : Below w.heap.size w (w.alloc o).drew := ((Below.refl _ w).alloc (Nat.le_refl _) o).drew
theorem sizF_one (w : World) (o : Obj) : w.heap.size < (w.alloc o).drew.heap.size := by show _ < (w.heap.push o).size; simp
/-- a slice of facts that came in -/
structure SlF where
  a : Option Addr
  n : Nat
  c : Nat
  l : List Fc
def slFC (x : SlF) : List Value := [.slice x.a x.n x.c]
def totF (xs : List SlF) : Nat := (xs.map (·.n)).sum
theorem totF_take (xs : List SlF) (k : Nat) (h : k < xs.length) : totF (xs.take (k + 1)) = totF (xs.take k) + xs[k].n := by
  rw [List.take_succ_eq_append_getElem h]; unfold totF; simp only [List.map_append, List.sum_append, List.map_cons, List.map_nil, List.sum_cons, List.sum_nil]; omega
theorem totF_le (xs : List SlF) (k : Nat) : totF (xs.take k) ≤ totF xs := by
  have : totF xs = totF (xs.take k) + totF (xs.drop k) := by
    unfold totF
    rw [← List.sum_append, ← List.map_append, List.take_append_drop]
  omega
theorem catF_take (xs : List SlF) (k : Nat) (h : k < xs.length) : (xs.take (k + 1)).flatMap (·.l) = (xs.take k).flatMap (·.l) ++ xs[k].l := by
  rw [List.take_succ_eq_append_getElem h, List.flatMap_append]; simp only [List.flatMap_cons, List.flatMap_nil, List.append_nil]
theorem catF_len (w : World) (xs : List SlF) (h : ∀ x ∈ xs, RdX fcC 4 w x.a x.n x.l) : (xs.flatMap (·.l)).length = totF xs := by
  induction xs with
  | nil => rfl
  | cons x r ih =>
    rw [List.flatMap_cons, List.length_append, ih (fun y hy => h y (List.mem_cons_of_mem _ hy)), (h x (by simp)).1]
    unfold totF; simp
set_option maxRecDepth 100000 in
set_option maxHeartbeats 2000000 in
theorem fconcat_any (b off m cp : Nat) (xs : List SlF) (w : World) (h : RdX slFC 1 w (some ⟨b, off, none⟩) m xs) (hx : ∀ x ∈ xs, RdX fcC 4 w x.a x.n x.l) (hm : m ≤ 100) (ht : totF xs ≤ 100000) :
    Calls Try.prog 89 #[.slice (some ⟨b, off, none⟩) m cp] w (RetF0 w (xs.flatMap (·.l))) := by
  have H := Lib.hid h
  have HX := Lib.hid hx
  have L := Lib.hid h.1
  have HTT := Lib.hid (fun k => totF_le xs k)
  clear h hx
  go_enter Try.func89, Try.ntmps89
  go_wp2
  go_loop [3, 5, 11] (fun v _ i => ∃ (k t : Nat), i = .int .i64 (k : Int) ∧ v = .int .i64 (t : Int) ∧ k ≤ m ∧ t = totF (xs.take k)) (fun _ _ i => m - (intOf i).toNat)
  case atStart => exact ⟨0, 0, rfl, rfl, Nat.zero_le _, rfl⟩
  case round =>
    obtain ⟨k, t, rfl, rfl, hk, htk⟩ := hrel
    have HTK := Lib.hid htk
    have ht1 : t ≤ 100000 := by have := HTT.out k; rw [htk]; omega
    clear htk
    by_cases hlt : k < m
    · have hd1 : decide ((k : Int) < (m : Int)) = true := decide_eq_true (by omega)
      have hl : k < xs.length := by rw [L.out]; exact hlt
      have HA := Lib.hid (totF_take xs k hl)
      have hle := HTT.out (k + 1)
      rw [HA.out, ← HTK.out] at hle
      obtain ⟨x, hx⟩ : ∃ x, xs[k] = x := ⟨_, rfl⟩
      have HXK := Lib.hid (show xs[k]? = some x by rw [List.getElem?_eq_getElem hl, hx])
      rw [hx] at HA hle
      obtain ⟨xa, xn, xc, xl⟩ := x
      have a0 : w.cell? ⟨b, off + k, none⟩ = some (.slice xa xn xc) := by have h := H.out.cellAt HXK.out hlt 0 _ rfl; rw [Nat.add_zero, Nat.mul_one] at h; exact h
      have hxn : t + xn ≤ 100000 := Nat.le_trans hle ht
      have HA : Hid (totF (xs.take (k + 1)) = totF (xs.take k) + xn) := HA
      have HR := Lib.hid (show t + xn = totF (xs.take (k + 1)) by rw [HA.out, HTK.out])
      have hi0 : (0 : Int) ≤ (k : Int) := by omega
      have hneg : decide ((t : Int) + (xn : Int) < 0) = false := decide_eq_false (by omega)
      clear hx hle
      go_wp2_with fail
      go_round
      case rel => exact ⟨k + 1, t + xn, by go_num, by go_num, by omega, HR.out⟩
      case measure => simp [intOf] <;> omega
    · have hd1 : decide ((k : Int) < (m : Int)) = false := decide_eq_false (by omega)
      go_wp2_with fail
      refine (fgrow_any t w (by omega)).mono ?_
      rintro e w1 ⟨v1, rfl, ho1, hb1⟩
      have HO1 := Lib.hid ho1
      have HB1 := Lib.hid hb1
      have hv1 := ho1.one
      clear ho1 hb1 hd1
      go_wp2_with fail
      go_loopw [6, 8, 27] (fun vv _ i wr => ∃ (j : Nat) (v : Value), v = vv ∧ i = .int .i64 (j : Int) ∧ j ≤ m ∧ OwX fcC 4 73 wr w.heap.size v ((xs.take j).flatMap (·.l)) ∧ Below w.heap.size w wr) (fun _ _ i _ => m - (intOf i).toNat)
      case atStart => exact ⟨0, _, rfl, rfl, Nat.zero_le _, HO1.out, HB1.out⟩
      case round =>
        obtain ⟨j, v, rfl, rfl, hj, ho, hb⟩ := hrel
        have HO := Lib.hid ho
        have HB := Lib.hid hb
        have hv := ho.one
        clear ho hb
        by_cases hlt2 : j < m
        · have hd1 : decide ((j : Int) < (m : Int)) = true := decide_eq_true (by omega)
          have hl : j < xs.length := by rw [L.out]; exact hlt2
          have HCT := Lib.hid (catF_take xs j hl)
          have HRJ := Lib.hid (HX.out _ (List.getElem_mem hl))
          have HTJ := Lib.hid (totF_take xs j hl)
          have hle := HTT.out (j + 1)
          rw [HTJ.out] at hle
          have HLJ := Lib.hid (catF_len w (xs.take j) (fun y hy => HX.out y (List.mem_of_mem_take hy)))
          obtain ⟨x, hx⟩ : ∃ x, xs[j] = x := ⟨_, rfl⟩
          have HXK := Lib.hid (show xs[j]? = some x by rw [List.getElem?_eq_getElem hl, hx])
          rw [hx] at HCT HRJ hle
          obtain ⟨xa, xn, xc, xl⟩ := x
          have a0 : wr.cell? ⟨b, off + j, none⟩ = some (.slice xa xn xc) := by have h := (H.out.below HB.out).cellAt HXK.out hlt2 0 _ rfl; rw [Nat.add_zero, Nat.mul_one] at h; exact h
          have HRJ : Hid (RdX fcC 4 w xa xn xl) := HRJ
          have HCT : Hid ((xs.take (j + 1)).flatMap (·.l) = (xs.take j).flatMap (·.l) ++ xl) := HCT
          have hle : totF (xs.take j) + xn ≤ totF xs := hle
          have hi0 : (0 : Int) ≤ (j : Int) := by omega
          clear hx
          go_wp2_with (at_builtin; refine wpList_appXs rfl _ _ 69 73 _ 56 rfl Try.underlying69 info_fcB rfl (by omega) (by omega) fcC_len fcC_one w.heap.size w HB.out HB.out.size v _ rfl HO.out xa xn xc xl rfl (HRJ.out.below HB.out) (by rw [HLJ.out]; omega) ?_)
          intro v2 w2 HO2 HB2 HZ2 HG2
          have hv2 := HO2.out.one
          go_wp2_with fail
          go_roundw
          case rel => exact ⟨j + 1, v2, rfl, by go_num, by omega, by rw [HCT.out]; exact HO2.out, HB2.out⟩
          case measure => simp [intOf] <;> omega
        · have hd1 : decide ((j : Int) < (m : Int)) = false := decide_eq_false (by omega)
          have HE := Lib.hid (show xs.take j = xs from List.take_of_length_le (by rw [L.out]; omega))
          rw [HE.out] at HO
          go_wp2_with fail
          go_ret
          exact ⟨v, rfl, HO.out, HB.out⟩
end Go.Proofs.Ytjnichiblljmjaa
