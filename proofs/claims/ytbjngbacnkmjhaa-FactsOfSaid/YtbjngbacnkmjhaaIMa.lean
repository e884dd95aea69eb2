/- Facts: what stands first, Rise, Grow, Concat, Same, in one. Conditions: as in the texts it is made of. -/
import Derived.Test.YtbjngbacnkmjhaaAa
import Derived.Test.YtbjngbacnkmjhaaWb
import Derived.Test.YtbjngbacnkmjhaaNp
import Derived.Test.YtbjngbacnkmjhaaPm
import Derived.Test.YtbjngbacnkmjhaaPx
import Derived.Lib.AppendZerosOnto
import Derived.Laws.OwnMore
import Derived.IntWalk
import Derived.BigQuiet
namespace Go.Proofs.Ytbjngbacnkmjhaa
open Go.RowKit Vi

abbrev Fc := Int × ByteArray × ByteArray × ByteArray
def fcC (f : Fc) : List Value := [.int .i64 f.1, .string f.2.1, .string f.2.2.1, .string f.2.2.2]
theorem fcC_len (f : Fc) : (fcC f).length = 4 := rfl
theorem fcC_one (f : Fc) : ∀ u ∈ fcC f, u.oneCell' = true := by
  intro u hu
  simp only [fcC, List.mem_cons, List.not_mem_nil, or_false] at hu
  rcases hu with h | h | h | h <;> (subst h; rfl)
def cmpF (a b : Fc) : Int := orL [cmpI a.1 b.1, cmpS a.2.1 b.2.1, cmpS a.2.2.1 b.2.2.1]
def lessF (a b : Fc) : Bool := if a.1 ≠ b.1 then decide (a.1 < b.1) else if (a.2.1.toList == b.2.1.toList) = true then Op.bytesLess a.2.2.1.toList b.2.2.1.toList else Op.bytesLess a.2.1.toList b.2.1.toList
theorem cmpS_lt (s t : ByteArray) : cmpS s t < 0 ↔ Op.bytesLess s.toList t.toList = true := by
  unfold cmpS
  cases Op.bytesLess s.toList t.toList <;> cases Op.bytesLess t.toList s.toList <;> simp
theorem cmpS_self (s t : ByteArray) (h : (s.toList == t.toList) = true) : cmpS s t = 0 := by
  have e : s.toList = t.toList := by simpa using h
  unfold cmpS
  rw [e, bl_irrefl]
  rfl
theorem cmpS_ne (s t : ByteArray) (h : (s.toList == t.toList) = false) : cmpS s t ≠ 0 := by
  have e : s.toList ≠ t.toList := by simpa using h
  unfold cmpS
  cases h1 : Op.bytesLess s.toList t.toList <;> cases h2 : Op.bytesLess t.toList s.toList
  · exact absurd (bl_total _ _ h1 h2) e
  · simp
  · simp
  · simp
theorem cmpF_lt (a b : Fc) : cmpF a b < 0 ↔ lessF a b = true := by
  unfold cmpF lessF
  by_cases h1 : a.1 = b.1
  · have hz : cmpI a.1 b.1 = 0 := by unfold cmpI; rw [if_neg (by omega), if_neg (by omega)]
    rw [hz, if_neg (show ¬ a.1 ≠ b.1 from fun q => q h1)]
    rw [show orL [0, cmpS a.2.1 b.2.1, cmpS a.2.2.1 b.2.2.1] = orL [cmpS a.2.1 b.2.1, cmpS a.2.2.1 b.2.2.1] from rfl]
    cases h2 : (a.2.1.toList == b.2.1.toList) with
    | true =>
      rw [if_pos rfl, cmpS_self _ _ h2, show orL [0, cmpS a.2.2.1 b.2.2.1] = orL [cmpS a.2.2.1 b.2.2.1] from rfl, ← cmpS_lt]
      unfold orL
      by_cases h3 : cmpS a.2.2.1 b.2.2.1 = 0
      · rw [if_neg (fun q => q h3), h3]; rfl
      · rw [if_pos h3]
    | false =>
      rw [if_neg (by simp), ← cmpS_lt]
      unfold orL
      rw [if_pos (cmpS_ne _ _ h2)]
  · have hz : cmpI a.1 b.1 ≠ 0 := by unfold cmpI; split <;> (try split) <;> omega
    rw [if_pos h1]
    unfold orL
    rw [if_pos hz, decide_eq_true_iff]
    unfold cmpI
    split <;> (try split) <;> omega
set_option maxRecDepth 100000 in
set_option maxHeartbeats 1000000 in
theorem orInt_any (g off n c : Nat) (l : List Int) (w : World) (h : RdX ieC 1 w (some ⟨g, off, none⟩) n l) (hn : (n : Int) ≤ 9223372036854775807) :
    Calls Try.prog 143 #[.slice (some ⟨g, off, none⟩) n c] w fun e w' => e = .returned (.int .i64 (orL l)) ∧ w = w' := by
  have H := Lib.hid h
  have L := Lib.hid h.1
  clear h
  go_enter Try.func143, Try.ntmps143
  go_wp2_with fail
  go_loop [8] (fun i => ∃ k : Nat, i = .int .i64 (k : Int) ∧ k ≤ n ∧ orL (l.drop k) = orL l) (fun i => n - (intOf i).toNat)
  case atStart => exact ⟨0, rfl, Nat.zero_le _, rfl⟩
  case round =>
    obtain ⟨k, rfl, hk, hs⟩ := hrel
    have HS := Lib.hid hs
    clear hs
    by_cases hlt : k < n
    · have hd1 : decide ((k : Int) < (n : Int)) = true := decide_eq_true (by omega)
      have hl : k < l.length := by rw [L.out]; exact hlt
      have HA := Lib.hid (orL_at l k hl)
      obtain ⟨x, hx⟩ : ∃ x, l[k] = x := ⟨_, rfl⟩
      have HX := Lib.hid (show l[k]? = some x by rw [List.getElem?_eq_getElem hl, hx])
      have a0 : w.cell? ⟨g, off + k, none⟩ = some (.int .i64 x) := by have h := H.out.cellAt HX.out hlt 0 _ rfl; rw [Nat.add_zero, Nat.mul_one] at h; exact h
      rw [hx] at HA
      have hi0 : (0 : Int) ≤ (k : Int) := by omega
      clear hx
      by_cases hz : x = 0
      · have hz1 : (x != 0) = false := by rw [hz]; rfl
        have HR := Lib.hid (show orL (l.drop (k + 1)) = orL l by rw [← HS.out, HA.out, if_neg (by omega)])
        clear hz
        go_wp2_with fail
        go_round
        case rel => exact ⟨k + 1, by go_num, by omega, HR.out⟩
        case measure => simp [intOf] <;> omega
      · have hz1 : (x != 0) = true := by simpa using hz
        have HR := Lib.hid (show x = orL l by rw [← HS.out, HA.out, if_pos hz])
        clear hz
        go_wp2_with fail
        go_ret
        exact ⟨retI HR.out, rfl⟩
    · have hd1 : decide ((k : Int) < (n : Int)) = false := decide_eq_false (by omega)
      have HR := Lib.hid (show (0 : Int) = orL l by rw [← HS.out, orL_end l k (by rw [L.out]; omega)])
      go_wp2_with fail
      go_ret
      exact ⟨retI HR.out, rfl⟩
set_option maxRecDepth 100000 in
set_option maxHeartbeats 2000000 in
theorem fcmp_any (a1 : Int) (a2 a3 a4 : ByteArray) (b1 : Int) (b2 b3 b4 : ByteArray) (w : World) :
    Calls Try.prog 133 #[.agg #[.int .i64 a1, .string a2, .string a3, .string a4], .agg #[.int .i64 b1, .string b2, .string b3, .string b4]] w fun e w' => e = .returned (.int .i64 (cmpF (a1, a2, a3, a4) (b1, b2, b3, b4))) ∧ Below w.heap.size w w' := by
  have HV := Lib.hid (show cmpF (a1, a2, a3, a4) (b1, b2, b3, b4) = orL [cmpI a1 b1, cmpS a2 b2, cmpS a3 b3] from rfl)
  have HX := Lib.hid (fun W : World => cmpI_any a1 b1 W)
  have HY := Lib.hid (fun W : World => cmpS_any a2 b2 W)
  have HZ := Lib.hid (fun W : World => cmpS_any a3 b3 W)
  rw [HV.out]
  clear HV
  generalize cmpI a1 b1 = x at *
  generalize cmpS a2 b2 = y at *
  generalize cmpS a3 b3 = z at *
  have HB1 := Lib.hid (Below.refl w.heap.size w)
  go_enter Try.func133, Try.ntmps133
  have HFa := Lib.hid (blk_alloc (blk_new w (.cells #[.int .i64 a1, .string a2, .string a3, .string a4] 178 (0, 0))) (.cells #[.int .i64 b1, .string b2, .string b3, .string b4] 178 (0, 0)))
  have HFb := Lib.hid (two_blk w (.cells #[.int .i64 a1, .string a2, .string a3, .string a4] 178 (0, 0)) (.cells #[.int .i64 b1, .string b2, .string b3, .string b4] 178 (0, 0)))
  have HB5 := Lib.hid ((HB1.out.alloc HB1.out.size (.cells #[.int .i64 a1, .string a2, .string a3, .string a4] 178 (0, 0))).alloc (HB1.out.alloc HB1.out.size (.cells #[.int .i64 a1, .string a2, .string a3, .string a4] 178 (0, 0))).size (.cells #[.int .i64 b1, .string b2, .string b3, .string b4] 178 (0, 0)))
  clear HB1
  have ha0 : ((w.alloc (.cells #[.int .i64 a1, .string a2, .string a3, .string a4] 178 (0, 0))).alloc (.cells #[.int .i64 b1, .string b2, .string b3, .string b4] 178 (0, 0))).cell? ⟨w.heap.size, 0, none⟩ = some (.int .i64 a1) := by rw [cell_of_row _ _ _ _ _ _ HFa.out]; rfl
  have ha1 : ((w.alloc (.cells #[.int .i64 a1, .string a2, .string a3, .string a4] 178 (0, 0))).alloc (.cells #[.int .i64 b1, .string b2, .string b3, .string b4] 178 (0, 0))).cell? ⟨w.heap.size, 1, none⟩ = some (.string a2) := by rw [cell_of_row _ _ _ _ _ _ HFa.out]; rfl
  have ha2 : ((w.alloc (.cells #[.int .i64 a1, .string a2, .string a3, .string a4] 178 (0, 0))).alloc (.cells #[.int .i64 b1, .string b2, .string b3, .string b4] 178 (0, 0))).cell? ⟨w.heap.size, 2, none⟩ = some (.string a3) := by rw [cell_of_row _ _ _ _ _ _ HFa.out]; rfl
  have ha3 : ((w.alloc (.cells #[.int .i64 a1, .string a2, .string a3, .string a4] 178 (0, 0))).alloc (.cells #[.int .i64 b1, .string b2, .string b3, .string b4] 178 (0, 0))).cell? ⟨w.heap.size, 3, none⟩ = some (.string a4) := by rw [cell_of_row _ _ _ _ _ _ HFa.out]; rfl
  have hb0 : ((w.alloc (.cells #[.int .i64 a1, .string a2, .string a3, .string a4] 178 (0, 0))).alloc (.cells #[.int .i64 b1, .string b2, .string b3, .string b4] 178 (0, 0))).cell? ⟨w.heap.size + 1, 0, none⟩ = some (.int .i64 b1) := by rw [cell_of_row _ _ _ _ _ _ HFb.out]; rfl
  have hb1 : ((w.alloc (.cells #[.int .i64 a1, .string a2, .string a3, .string a4] 178 (0, 0))).alloc (.cells #[.int .i64 b1, .string b2, .string b3, .string b4] 178 (0, 0))).cell? ⟨w.heap.size + 1, 1, none⟩ = some (.string b2) := by rw [cell_of_row _ _ _ _ _ _ HFb.out]; rfl
  have hb2 : ((w.alloc (.cells #[.int .i64 a1, .string a2, .string a3, .string a4] 178 (0, 0))).alloc (.cells #[.int .i64 b1, .string b2, .string b3, .string b4] 178 (0, 0))).cell? ⟨w.heap.size + 1, 2, none⟩ = some (.string b3) := by rw [cell_of_row _ _ _ _ _ _ HFb.out]; rfl
  have hb3 : ((w.alloc (.cells #[.int .i64 a1, .string a2, .string a3, .string a4] 178 (0, 0))).alloc (.cells #[.int .i64 b1, .string b2, .string b3, .string b4] 178 (0, 0))).cell? ⟨w.heap.size + 1, 3, none⟩ = some (.string b4) := by rw [cell_of_row _ _ _ _ _ _ HFb.out]; rfl
  go_wp2_with fail
  have ra0 := fun d os => cell_regrown ha0 d os
  have ra1 := fun d os => cell_regrown ha1 d os
  have ra2 := fun d os => cell_regrown ha2 d os
  have ra3 := fun d os => cell_regrown ha3 d os
  have rb0 := fun d os => cell_regrown hb0 d os
  have rb1 := fun d os => cell_regrown hb1 d os
  have rb2 := fun d os => cell_regrown hb2 d os
  have rb3 := fun d os => cell_regrown hb3 d os
  refine wp_region_quiet_tail 15 (by kernel_rfl) (by kernel_rfl) ?_
  simp only [List.take_succ_cons, List.take_zero, List.drop_succ_cons, List.drop_zero]
  repeat (any_goals (first | go_big_quiet_step ((first | (go_at_call 144; with_reducible exact Calls.regrown_of (of_same (HX.out _))) | (go_at_call 145; with_reducible exact Calls.regrown_of (of_same (HY.out _))) | (go_at_call 145; with_reducible exact Calls.regrown_of (of_same (HZ.out _))))) | quiet_step ((first | (go_at_call 144; with_reducible exact Calls.regrown_of (of_same (HX.out _))) | (go_at_call 145; with_reducible exact Calls.regrown_of (of_same (HY.out _))) | (go_at_call 145; with_reducible exact Calls.regrown_of (of_same (HZ.out _)))))))
  refine wpQuiet_nil ?_
  intro w1 hw1
  have hb9 := below_anyY hw1
  clear hw1 ra0 ra1 ra2 ra3 rb0 rb1 rb2 rb3
  clear ha0 ha1 ha2 ha3 hb0 hb1 hb2 hb3
  have HB6 := Lib.hid (HB5.out.trans (hb9.mono HB5.out.size))
  clear hb9 HB5 HFa HFb
  have HO := Lib.hid (blk_new w1 (.cells #[.int .i64 x, .int .i64 y, .int .i64 z] 3 (0, 0)))
  have HB7 := Lib.hid (HB6.out.alloc HB6.out.size (.cells #[.int .i64 x, .int .i64 y, .int .i64 z] 3 (0, 0)))
  go_wp2_with fail
  refine (orInt_any _ 0 3 3 [x, y, z] _ (rd_blk (f := ieC) (s := 1) (fun _ => rfl) [x, y, z] HO.out rfl) (by omega)).mono ?_
  rintro e w' ⟨rfl, rfl⟩
  go_wp2_with fail
  go_ret
  exact ⟨rfl, HB7.out⟩
end Go.Proofs.Ytbjngbacnkmjhaa
namespace Go.Proofs.Ytbjngbacnkmjhaa
open Go.RowKit Vi

theorem info_fcB : (Try.prog.info? 178).map (fun i => (i.zero, i.size, i.bytes)) = some (some (.agg #[.int .i64 0, .string ⟨#[]⟩, .string ⟨#[]⟩, .string ⟨#[]⟩]), 4, 56) := by kernel_rfl
def RetF0 (w : World) (L : List Fc) (e : Ending) (w' : World) : Prop := ∃ v, e = .returned v ∧ OwX fcC 4 178 w' w.heap.size v L ∧ Below w.heap.size w w'
set_option maxRecDepth 100000 in
set_option maxHeartbeats 1600000 in
theorem fgrow_any (n : Nat) (w : World) (hn : n ≤ 300000) :
    Calls Try.prog 191 #[.slice none 0 0, .int .i64 (n : Int)] w (RetF0 w []) := by
  rcases Nat.eq_zero_or_pos n with rfl | hp
  · go_enter Try.func191, Try.ntmps191
    go_wp2
    go_ret
    exact ⟨_, rfl, OwX.nil w, Below.refl _ _⟩
  · obtain ⟨i0, hi, hz0, hz1, hz2⟩ := info_parts info_fcB
    have hrz := fun ty => Lib.run_append_nil_zeros (P := Try.prog) w 71 3 ty 178 i0 (.agg #[.int .i64 0, .string ⟨#[]⟩, .string ⟨#[]⟩, .string ⟨#[]⟩]) .i64 .i64 Try.underlying71 Try.underlying3 hi hz0 n hp (by omega) (by omega) (by rw [hz2]; omega)
    have hGn : n ≤ grownCap w n 0 178 := grownCap_ge w _ _ _
    have hGm : grownCap w n 0 178 ≤ maxLen := grownCap_le_maxLen w n 0 178 (by unfold maxLen; omega)
    obtain ⟨G, hG⟩ : ∃ G, G = grownCap w n 0 178 := ⟨_, rfl⟩
    rw [← hG] at hGn hGm
    simp only [← hG] at hrz
    clear hG
    have hGm2 := hGm
    unfold maxLen at hGm2
    have h4 : (n : Int) > 0 := by omega
    have h1 : ¬ ((n : Int) < 0) := by omega
    have HRZ := Lib.hid hrz
    clear hrz hi hz0 hz1 hz2
    go_enter Try.func191, Try.ntmps191
    go_wp2_with (at_builtin; refine Lib.wpList_append_run _ rfl _ _ _ _ rfl _ _ rfl rfl _ _ (HRZ.out _) ?_)
    all_goals go_ret
    all_goals exact ⟨_, rfl, OwX.zero (heap_alloc_new w.drew _) (Nat.le_refl _) hGm (by simp [size_zeroCells]; omega), ((Below.refl _ w).drew).alloc (Nat.le_refl _) _⟩
theorem newF_one (w : World) (o : Obj) : (w.alloc o).drew.heap[w.heap.size]? = some o := (MapKept.heap_alloc w o).1
theorem belF_one (w : World) (o : Obj) : Below w.heap.size w (w.alloc o).drew := ((Below.refl _ w).alloc (Nat.le_refl _) o).drew
theorem sizF_one (w : World) (o : Obj) : w.heap.size < (w.alloc o).drew.heap.size := by show _ < (w.heap.push o).size; simp
/-- a slice of facts that came in -/
structure SlF where
  a : Option Addr
  n : Nat
  c : Nat
  l : List Fc
def slFC (x : SlF) : List Value := [.slice x.a x.n x.c]
def totF (xs : List SlF) : Nat := (xs.map (·.n)).sum
theorem totF_take (xs : List SlF) (k : Nat) (h : k < xs.length) : totF (xs.take (k + 1)) = totF (xs.take k) + xs[k].n := by
  rw [List.take_succ_eq_append_getElem h]; unfold totF; simp only [List.map_append, List.sum_append, List.map_cons, List.map_nil, List.sum_cons, List.sum_nil]; omega
theorem totF_le (xs : List SlF) (k : Nat) : totF (xs.take k) ≤ totF xs := by
  have : totF xs = totF (xs.take k) + totF (xs.drop k) := by
    unfold totF
    rw [← List.sum_append, ← List.map_append, List.take_append_drop]
  omega
theorem catF_take (xs : List SlF) (k : Nat) (h : k < xs.length) : (xs.take (k + 1)).flatMap (·.l) = (xs.take k).flatMap (·.l) ++ xs[k].l := by
  rw [List.take_succ_eq_append_getElem h, List.flatMap_append]; simp only [List.flatMap_cons, List.flatMap_nil, List.append_nil]
theorem catF_len (w : World) (xs : List SlF) (h : ∀ x ∈ xs, RdX fcC 4 w x.a x.n x.l) : (xs.flatMap (·.l)).length = totF xs := by
  induction xs with
  | nil => rfl
  | cons x r ih =>
    rw [List.flatMap_cons, List.length_append, ih (fun y hy => h y (List.mem_cons_of_mem _ hy)), (h x (by simp)).1]
    unfold totF; simp
set_option maxRecDepth 100000 in
set_option maxHeartbeats 2000000 in
theorem fconcat_any (b off m cp : Nat) (xs : List SlF) (w : World) (h : RdX slFC 1 w (some ⟨b, off, none⟩) m xs) (hx : ∀ x ∈ xs, RdX fcC 4 w x.a x.n x.l) (hm : m ≤ 100) (ht : totF xs ≤ 100000) :
    Calls Try.prog 131 #[.slice (some ⟨b, off, none⟩) m cp] w (RetF0 w (xs.flatMap (·.l))) := by
  have H := Lib.hid h
  have HX := Lib.hid hx
  have L := Lib.hid h.1
  have HTT := Lib.hid (fun k => totF_le xs k)
  clear h hx
  go_enter Try.func131, Try.ntmps131
  go_wp2
  go_loop [3, 5, 11] (fun v _ i => ∃ (k t : Nat), i = .int .i64 (k : Int) ∧ v = .int .i64 (t : Int) ∧ k ≤ m ∧ t = totF (xs.take k)) (fun _ _ i => m - (intOf i).toNat)
  case atStart => exact ⟨0, 0, rfl, rfl, Nat.zero_le _, rfl⟩
  case round =>
    obtain ⟨k, t, rfl, rfl, hk, htk⟩ := hrel
    have HTK := Lib.hid htk
    have ht1 : t ≤ 100000 := by have := HTT.out k; rw [htk]; omega
    clear htk
    by_cases hlt : k < m
    · have hd1 : decide ((k : Int) < (m : Int)) = true := decide_eq_true (by omega)
      have hl : k < xs.length := by rw [L.out]; exact hlt
      have HA := Lib.hid (totF_take xs k hl)
      have hle := HTT.out (k + 1)
      rw [HA.out, ← HTK.out] at hle
      obtain ⟨x, hx⟩ : ∃ x, xs[k] = x := ⟨_, rfl⟩
      have HXK := Lib.hid (show xs[k]? = some x by rw [List.getElem?_eq_getElem hl, hx])
      rw [hx] at HA hle
      obtain ⟨xa, xn, xc, xl⟩ := x
      have a0 : w.cell? ⟨b, off + k, none⟩ = some (.slice xa xn xc) := by have h := H.out.cellAt HXK.out hlt 0 _ rfl; rw [Nat.add_zero, Nat.mul_one] at h; exact h
      have hxn : t + xn ≤ 100000 := Nat.le_trans hle ht
      have HA : Hid (totF (xs.take (k + 1)) = totF (xs.take k) + xn) := HA
      have HR := Lib.hid (show t + xn = totF (xs.take (k + 1)) by rw [HA.out, HTK.out])
      have hi0 : (0 : Int) ≤ (k : Int) := by omega
      have hneg : decide ((t : Int) + (xn : Int) < 0) = false := decide_eq_false (by omega)
      clear hx hle
      go_wp2_with fail
      go_round
      case rel => exact ⟨k + 1, t + xn, by go_num, by go_num, by omega, HR.out⟩
      case measure => simp [intOf] <;> omega
    · have hd1 : decide ((k : Int) < (m : Int)) = false := decide_eq_false (by omega)
      go_wp2_with fail
      refine (fgrow_any t w (by omega)).mono ?_
      rintro e w1 ⟨v1, rfl, ho1, hb1⟩
      have HO1 := Lib.hid ho1
      have HB1 := Lib.hid hb1
      have hv1 := ho1.one
      clear ho1 hb1 hd1
      go_wp2_with fail
      go_loopw [6, 8, 27] (fun vv _ i wr => ∃ (j : Nat) (v : Value), v = vv ∧ i = .int .i64 (j : Int) ∧ j ≤ m ∧ OwX fcC 4 178 wr w.heap.size v ((xs.take j).flatMap (·.l)) ∧ Below w.heap.size w wr) (fun _ _ i _ => m - (intOf i).toNat)
      case atStart => exact ⟨0, _, rfl, rfl, Nat.zero_le _, HO1.out, HB1.out⟩
      case round =>
        obtain ⟨j, v, rfl, rfl, hj, ho, hb⟩ := hrel
        have HO := Lib.hid ho
        have HB := Lib.hid hb
        have hv := ho.one
        clear ho hb
        by_cases hlt2 : j < m
        · have hd1 : decide ((j : Int) < (m : Int)) = true := decide_eq_true (by omega)
          have hl : j < xs.length := by rw [L.out]; exact hlt2
          have HCT := Lib.hid (catF_take xs j hl)
          have HRJ := Lib.hid (HX.out _ (List.getElem_mem hl))
          have HTJ := Lib.hid (totF_take xs j hl)
          have hle := HTT.out (j + 1)
          rw [HTJ.out] at hle
          have HLJ := Lib.hid (catF_len w (xs.take j) (fun y hy => HX.out y (List.mem_of_mem_take hy)))
          obtain ⟨x, hx⟩ : ∃ x, xs[j] = x := ⟨_, rfl⟩
          have HXK := Lib.hid (show xs[j]? = some x by rw [List.getElem?_eq_getElem hl, hx])
          rw [hx] at HCT HRJ hle
          obtain ⟨xa, xn, xc, xl⟩ := x
          have a0 : wr.cell? ⟨b, off + j, none⟩ = some (.slice xa xn xc) := by have h := (H.out.below HB.out).cellAt HXK.out hlt2 0 _ rfl; rw [Nat.add_zero, Nat.mul_one] at h; exact h
          have HRJ : Hid (RdX fcC 4 w xa xn xl) := HRJ
          have HCT : Hid ((xs.take (j + 1)).flatMap (·.l) = (xs.take j).flatMap (·.l) ++ xl) := HCT
          have hle : totF (xs.take j) + xn ≤ totF xs := hle
          have hi0 : (0 : Int) ≤ (j : Int) := by omega
          clear hx
          go_wp2_with (at_builtin; refine wpList_appXs rfl _ _ 71 178 _ 56 rfl Try.underlying71 info_fcB rfl (by omega) (by omega) fcC_len fcC_one w.heap.size w HB.out HB.out.size v _ rfl HO.out xa xn xc xl rfl (HRJ.out.below HB.out) (by rw [HLJ.out]; omega) ?_)
          intro v2 w2 HO2 HB2 HZ2 HG2
          have hv2 := HO2.out.one
          go_wp2_with fail
          go_roundw
          case rel => exact ⟨j + 1, v2, rfl, by go_num, by omega, by rw [HCT.out]; exact HO2.out, HB2.out⟩
          case measure => simp [intOf] <;> omega
        · have hd1 : decide ((j : Int) < (m : Int)) = false := decide_eq_false (by omega)
          have HE := Lib.hid (show xs.take j = xs from List.take_of_length_le (by rw [L.out]; omega))
          rw [HE.out] at HO
          go_wp2_with fail
          go_ret
          exact ⟨v, rfl, HO.out, HB.out⟩
end Go.Proofs.Ytbjngbacnkmjhaa
namespace Go.Proofs.Ytbjngbacnkmjhaa
open Go.RowKit Vi

def risesF : List Fc → Bool
  | a :: b :: r => lessF a b && risesF (b :: r)
  | _ => true
def riseE (l : List Fc) : Int := if risesF l = true then 0 else 4
theorem riseE_yes {l : List Fc} (h : risesF l = true) : riseE l = 0 := by unfold riseE; rw [if_pos h]
theorem riseE_no {l : List Fc} (h : risesF l = false) : riseE l = 4 := by unfold riseE; rw [if_neg (by rw [h]; simp)]
set_option maxRecDepth 100000 in
set_option maxHeartbeats 2000000 in
theorem frise_any (A : Option Addr) (n c : Nat) (l : List Fc) (w : World) (h : RdX fcC 4 w A n l) (hn : (n : Int) ≤ 9223372036854775806) :
    Calls Try.prog 47 #[.slice A n c] w fun e w' => e = .returned (.int .i64 (riseE l)) ∧ Below w.heap.size w w' := by
  have H := Lib.hid h
  have LL := Lib.hid h.1
  have HB1 := Lib.hid (Below.refl w.heap.size w)
  clear h
  go_enter Try.func47, Try.ntmps47
  go_wp2_with fail
  go_loopw [3] (fun i wr => ∃ j k : Nat, i = .int .i64 (k : Int) ∧ k = j + 1 ∧ j ≤ n ∧ risesF (l.drop j) = risesF l ∧ Below w.heap.size w wr) (fun i _ => n + 1 - (intOf i).toNat)
  case atStart => exact ⟨0, 1, rfl, rfl, Nat.zero_le _, rfl, HB1.out⟩
  case round =>
    obtain ⟨j, k, rfl, hkj, hk, hs, hb⟩ := hrel
    have HS := Lib.hid hs
    have HB := Lib.hid hb
    clear hs hb
    by_cases hlt : k < n
    · have hd1 : decide ((k : Int) < (n : Int)) = true := decide_eq_true (by omega)
      have hl0 : j < l.length := by rw [LL.out]; omega
      have hl1 : k < l.length := by rw [LL.out]; omega
      obtain ⟨b, off, _, hA, hbb, hc⟩ := (H.out.below HB.out).at (show j < n by omega)
      obtain ⟨b', off', _, hA', _, hd⟩ := (H.out.below HB.out).at (show k < n by omega)
      rw [hA] at hA'
      injection hA' with q1
      injection q1 with q2 q3
      subst q2 q3
      have HST := Lib.hid (show risesF (l.drop j) = (lessF l[j] l[k] && risesF (l.drop k)) by
        rw [List.drop_eq_getElem_cons hl0, ← hkj, List.drop_eq_getElem_cons hl1]; rfl)
      obtain ⟨x, hx⟩ : ∃ x, l[j] = x := ⟨_, rfl⟩
      obtain ⟨y, hy⟩ : ∃ y, l[k] = y := ⟨_, rfl⟩
      rw [hx] at hc HST
      rw [hy] at hd HST
      obtain ⟨x1, x2, x3, x4⟩ := x
      obtain ⟨y1, y2, y3, y4⟩ := y
      have a0 : wr.cell? ⟨b, off + j * 4, none⟩ = _ := hc 0 _ rfl
      have a1 := hc 1 _ rfl
      have a2 := hc 2 _ rfl
      have a3 := hc 3 _ rfl
      have b0 : wr.cell? ⟨b, off + k * 4, none⟩ = _ := hd 0 _ rfl
      have b1 := hd 1 _ rfl
      have b2 := hd 2 _ rfl
      have b3 := hd 3 _ rfl
      have hi0 : (0 : Int) ≤ (k : Int) := by omega
      have hi1 : (0 : Int) ≤ (j : Int) := by omega
      have hi2 : (j : Int) < (n : Int) := by omega
      have hi3 : (k : Int) < (n : Int) := by omega
      have hjn : j < n := by omega
      have hw : IntKind.i64.wrap ((k : Int) - 1) = (j : Int) := by rw [IntWalk.i64_in _ (by omega)]; omega
      have HF := Lib.hid (fun W : World => fcmp_any x1 x2 x3 x4 y1 y2 y3 y4 W)
      have HLT := Lib.hid (cmpF_lt (x1, x2, x3, x4) (y1, y2, y3, y4))
      generalize cmpF (x1, x2, x3, x4) (y1, y2, y3, y4) = cv at HF HLT
      subst hA
      have HKJ := Lib.hid hkj
      clear hc hd hx hy hkj
      cases hp : lessF (x1, x2, x3, x4) (y1, y2, y3, y4) with
      | true =>
        have hcv := HLT.out.mpr hp
        have d1 : decide (cv < 0) = true := decide_eq_true hcv
        have d2 : decide (0 ≤ cv) = false := decide_eq_false (by omega)
        clear hcv HLT
        have HR := Lib.hid (show risesF l = risesF (l.drop k) by rw [← HS.out, HST.out, hp]; rfl)
        clear hp HST
        go_wp2_with fail
        have r0 := fun d os => cell_regrown a0 d os
        have r1 := fun d os => cell_regrown a1 d os
        have r2 := fun d os => cell_regrown a2 d os
        have r3 := fun d os => cell_regrown a3 d os
        have s0 := fun d os => cell_regrown b0 d os
        have s1 := fun d os => cell_regrown b1 d os
        have s2 := fun d os => cell_regrown b2 d os
        have s3 := fun d os => cell_regrown b3 d os
        refine wp_region_quiet_below (by kernel_rfl) (by kernel_rfl) ?_
        repeat (any_goals (first | go_big_quiet_step ((first | (go_at_call 133; with_reducible exact Calls.regrown_of (HF.out _)))) | quiet_step ((first | (go_at_call 133; with_reducible exact Calls.regrown_of (HF.out _))))))
        refine wpQuiet_nil ?_
        intro w1 hw1
        have hb1 := below_anyY hw1
        clear hw1 r0 r1 r2 r3 s0 s1 s2 s3
        clear a0 a1 a2 a3 b0 b1 b2 b3 hw
        have HB2 := Lib.hid (HB.out.trans (hb1.mono HB.out.size))
        clear hb1 HB
        go_wp2_with fail
        go_roundw
        case rel => exact ⟨k, k + 1, by go_num, rfl, by omega, HR.out.symm, HB2.out⟩
        case measure => simp [intOf] <;> omega
      | false =>
        have hcv : ¬ cv < 0 := fun q => by rw [HLT.out.mp q] at hp; cases hp
        have d1 : decide (cv < 0) = false := decide_eq_false hcv
        have d2 : decide (0 ≤ cv) = true := decide_eq_true (by omega)
        clear hcv HLT
        have HR := Lib.hid (show risesF l = false by rw [← HS.out, HST.out, hp]; rfl)
        clear hp HST
        go_wp2_with fail
        have r0 := fun d os => cell_regrown a0 d os
        have r1 := fun d os => cell_regrown a1 d os
        have r2 := fun d os => cell_regrown a2 d os
        have r3 := fun d os => cell_regrown a3 d os
        have s0 := fun d os => cell_regrown b0 d os
        have s1 := fun d os => cell_regrown b1 d os
        have s2 := fun d os => cell_regrown b2 d os
        have s3 := fun d os => cell_regrown b3 d os
        refine wp_region_quiet_below (by kernel_rfl) (by kernel_rfl) ?_
        repeat (any_goals (first | go_big_quiet_step ((first | (go_at_call 133; with_reducible exact Calls.regrown_of (HF.out _)))) | quiet_step ((first | (go_at_call 133; with_reducible exact Calls.regrown_of (HF.out _))))))
        refine wpQuiet_nil ?_
        intro w1 hw1
        have hb1 := below_anyY hw1
        clear hw1 r0 r1 r2 r3 s0 s1 s2 s3
        clear a0 a1 a2 a3 b0 b1 b2 b3 hw
        have HB2 := Lib.hid (HB.out.trans (hb1.mono HB.out.size))
        clear hb1 HB
        go_wp2_with fail
        go_ret
        exact ⟨by first | (rw [riseE_no HR.out]; done) | (rw [riseE_no HR.out]; rfl), HB2.out⟩
    · have hd1 : decide ((k : Int) < (n : Int)) = false := decide_eq_false (by omega)
      have HR := Lib.hid (show risesF l = true by
        rw [← HS.out]
        have hz : (l.drop j).length ≤ 1 := by rw [List.length_drop, LL.out]; omega
        cases hq : l.drop j with
        | nil => rfl
        | cons a r =>
          cases r with
          | nil => rfl
          | cons _ _ => rw [hq] at hz; simp at hz)
      go_wp2_with fail
      go_ret
      exact ⟨by first | (rw [riseE_yes HR.out]; done) | (rw [riseE_yes HR.out]; rfl), HB.out⟩
set_option maxRecDepth 100000 in
theorem fends_any (s t : ByteArray) (w : World) (hs : s.size ≤ 1000000) (ht : t.size ≤ 1000000) : Calls Try.prog 130 #[.string s, .string t] w fun e w' => e = .returned (.string (s ++ ⟨#[0]⟩ ++ t)) ∧ w = w' := by
  have h1 : ¬ 9223372036854775807 < s.size + 1 := by omega
  have h2 : ¬ 9223372036854775807 < s.size + 1 + t.size := by omega
  go_enter Try.func130, Try.ntmps130
  go_wp2_with fail
  go_ret
  exact ⟨rfl, rfl⟩
end Go.Proofs.Ytbjngbacnkmjhaa
namespace Go.Proofs.Ytbjngbacnkmjhaa
open Go.RowKit Vi

theorem run_neq_fc_no (p1 : Int) (p2 p3 p4 : ByteArray) (W : World) :
    (binOp .neq 178 (.agg #[.int .i64 p1, .string p2, .string p3, .string p4]) (.agg #[.int .i64 p1, .string p2, .string p3, .string p4])).run Try.prog W = .ok (.bool false) W := by
  simp [go_sem]
set_option maxRecDepth 100000 in
set_option maxHeartbeats 2000000 in
theorem same27_yes (A : Option Addr) (n c : Nat) (l : List Fc) (A2 : Option Addr) (c2 : Nat) (w : World) (h : RdX fcC 4 w A n l) (h2 : RdX fcC 4 w A2 n l) (hn : n ≤ maxLen) :
    Calls Try.prog 45 #[.slice A n c, .slice A2 n c2] w fun e w' => e = .returned (.bool true) ∧ Below w.heap.size w w' := by
  have H := Lib.hid h
  have H2 := Lib.hid h2
  have L := Lib.hid h.1
  have HB1 := Lib.hid (Below.refl w.heap.size w)
  unfold maxLen at hn
  clear h h2
  have d1 : ((n : Int) != (n : Int)) = false := by simp
  go_enter Try.func45, Try.ntmps45
  go_wp2_with fail
  clear d1
  go_loopw [13] (fun i wr => ∃ k : Nat, i = .int .i64 (k : Int) ∧ k ≤ n ∧ Below w.heap.size w wr) (fun i _ => n - (intOf i).toNat)
  case atStart => exact ⟨0, rfl, Nat.zero_le _, HB1.out⟩
  case round =>
    clear HB1
    obtain ⟨k, rfl, hk, hb⟩ := hrel
    have HB := Lib.hid hb
    clear hb
    by_cases hlt : k < n
    · have hd1 : decide ((k : Int) < (n : Int)) = true := decide_eq_true (by omega)
      have hl : k < l.length := by rw [L.out]; exact hlt
      obtain ⟨b, off, _, rfl, hbb, _⟩ := (H.out.below HB.out).at hlt
      obtain ⟨b2, off2, _, rfl, hbb2, _⟩ := (H2.out.below HB.out).at hlt
      obtain ⟨x, hx⟩ : ∃ x, l[k] = x := ⟨_, rfl⟩
      have HX := Lib.hid (show l[k]? = some x by rw [List.getElem?_eq_getElem hl, hx])
      clear hx
      obtain ⟨x1, x2, x3, x4⟩ := x
      have hi0 : (0 : Int) ≤ (k : Int) := by omega
      have hnq := fun W => run_neq_fc_no x1 x2 x3 x4 W
      have hc101 : wr.cell? ⟨b, off + k * 4, none⟩ = some (.int .i64 x1) := (H.out.below HB.out).cellAt HX.out hlt 0 _ rfl
      have hc102 : wr.cell? ⟨b, off + k * 4 + 1, none⟩ = some (.string x2) := (H.out.below HB.out).cellAt HX.out hlt 1 _ rfl
      have hc103 : wr.cell? ⟨b, off + k * 4 + 2, none⟩ = some (.string x3) := (H.out.below HB.out).cellAt HX.out hlt 2 _ rfl
      have hc104 : wr.cell? ⟨b, off + k * 4 + 3, none⟩ = some (.string x4) := (H.out.below HB.out).cellAt HX.out hlt 3 _ rfl
      have hc105 : wr.cell? ⟨b2, off2 + k * 4, none⟩ = some (.int .i64 x1) := (H2.out.below HB.out).cellAt HX.out hlt 0 _ rfl
      have hc106 : wr.cell? ⟨b2, off2 + k * 4 + 1, none⟩ = some (.string x2) := (H2.out.below HB.out).cellAt HX.out hlt 1 _ rfl
      have hc107 : wr.cell? ⟨b2, off2 + k * 4 + 2, none⟩ = some (.string x3) := (H2.out.below HB.out).cellAt HX.out hlt 2 _ rfl
      have hc108 : wr.cell? ⟨b2, off2 + k * 4 + 3, none⟩ = some (.string x4) := (H2.out.below HB.out).cellAt HX.out hlt 3 _ rfl
      go_wp2_with fail
      have hr101 := fun d os => cell_regrown hc101 d os
      have hr102 := fun d os => cell_regrown hc102 d os
      have hr103 := fun d os => cell_regrown hc103 d os
      have hr104 := fun d os => cell_regrown hc104 d os
      have hr105 := fun d os => cell_regrown hc105 d os
      have hr106 := fun d os => cell_regrown hc106 d os
      have hr107 := fun d os => cell_regrown hc107 d os
      have hr108 := fun d os => cell_regrown hc108 d os
      refine wp_region_quiet_below (by kernel_rfl) (by kernel_rfl) ?_
      repeat (any_goals (first | go_big_quiet_step (fail) | quiet_step (fail)))
      refine wpQuiet_nil ?_
      intro w11 hw11
      have hb11 := below_anyY hw11
      clear hw11 hr101 hr102 hr103 hr104 hr105 hr106 hr107 hr108
      clear hc101 hc102 hc103 hc104 hc105 hc106 hc107 hc108
      have HB113 := Lib.hid (HB.out.trans (hb11.mono HB.out.size))
      clear hb11 HB
      go_wp2_with fail
      go_roundw
      case rel => exact ⟨k + 1, by go_num, by omega, HB113.out⟩
      case measure => simp [intOf] <;> omega
    · have hd1 : decide ((k : Int) < (n : Int)) = false := decide_eq_false (by omega)
      go_wp2_with fail
      go_ret
      exact ⟨rfl, HB.out⟩
end Go.Proofs.Ytbjngbacnkmjhaa
