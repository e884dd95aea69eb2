/- Refs that rise: where one stands; the library's BinarySearchFunc over refs, refs.find, refs.Get, and the document's Get. Conditions: refs that rise (not for the document's Get), at most a million. -/
import Derived.Test.YtbjngbacnkmjhaaRFb
namespace Go.Proofs.Ytbjngbacnkmjhaa
open Go.RowKit Vi

def RiseR (l : List Rf) : Prop := l.Pairwise fun a b => lessR a b = true
def lesR (l : List Rf) (x : Rf) : Nat := (l.filter fun a => lessR a x).length
def metR (l : List Rf) (x : Rf) (K : Nat) : Bool := match l[K]? with
  | some r => sameK r x
  | none => false
def isR (l : List Rf) (x : Rf) : ByteArray := match l.find? fun r => sameK r x with
  | some r => r.2.2
  | none => ⟨#[]⟩
theorem lesR_le (l : List Rf) (x : Rf) : lesR l x ≤ l.length := List.length_filter_le _ _
theorem cutR : ∀ (l : List Rf) (x : Rf), RiseR l → ∀ t (h : t < l.length), (t < lesR l x → lessR l[t] x = true) ∧ (lesR l x ≤ t → lessR l[t] x = false)
  | [], _, _, t, h => by simp at h
  | a :: r, x, hr, t, h => by
    obtain ⟨h1, h2⟩ := List.pairwise_cons.1 hr
    cases ha : lessR a x with
    | true =>
      have e : lesR (a :: r) x = lesR r x + 1 := by unfold lesR; rw [List.filter_cons_of_pos (p := fun a => lessR a x) ha]; rfl
      cases t with
      | zero => exact ⟨fun _ => ha, fun q => by omega⟩
      | succ t =>
        have k := cutR r x h2 t (by simpa using h)
        exact ⟨fun q => k.1 (by omega), fun q => k.2 (by omega)⟩
    | false =>
      have e0 : ∀ b ∈ r, lessR b x = false := fun b hb => by
        cases q : lessR b x with
        | false => rfl
        | true => rw [lessR_trans (h1 b hb) q] at ha; cases ha
      have e : lesR (a :: r) x = 0 := by
        unfold lesR
        rw [List.filter_cons_of_neg (p := fun a => lessR a x) (by rw [ha]; simp), List.filter_eq_nil_iff.2 (fun b hb => by rw [e0 b hb]; simp)]; rfl
      refine ⟨fun q => by omega, fun _ => ?_⟩
      cases t with
      | zero => exact ha
      | succ t => exact e0 _ (List.getElem_mem _)
theorem sameK_less {r x : Rf} (h : lessR r x = true) : sameK r x = false := by
  rcases cmpR_cases r x with ⟨_, _, _, h4⟩ | ⟨h1, _⟩ | ⟨h1, _⟩
  · exact h4
  · rw [h1] at h; cases h
  · rw [h1] at h; cases h
theorem find_noneR {l : List Rf} {x : Rf} (h : ∀ t (ht : t < l.length), sameK l[t] x = false) : l.find? (fun r => sameK r x) = none := by
  rw [List.find?_eq_none]
  intro r hr
  obtain ⟨t, ht, rfl⟩ := List.getElem_of_mem hr
  rw [h t ht]; simp
theorem isR_yes {l : List Rf} {x : Rf} (hr : RiseR l) (h : metR l x (lesR l x) = true) : ∃ hk : lesR l x < l.length, sameK l[lesR l x] x = true ∧ isR l x = l[lesR l x].2.2 := by
  have hk : lesR l x < l.length := by
    rcases Nat.lt_or_ge (lesR l x) l.length with q | q
    · exact q
    · unfold metR at h; rw [List.getElem?_eq_none q] at h; cases h
  have hs : sameK l[lesR l x] x = true := by unfold metR at h; rw [List.getElem?_eq_getElem hk] at h; exact h
  refine ⟨hk, hs, ?_⟩
  have e : l.find? (fun r => sameK r x) = some l[lesR l x] := by
    have e1 : l.find? (fun r => sameK r x) = (l.take (lesR l x) ++ l.drop (lesR l x)).find? (fun r => sameK r x) := by rw [List.take_append_drop]
    rw [e1, List.find?_append, find_noneR (fun t ht => ?_), Option.none_or, List.drop_eq_getElem_cons hk, List.find?_cons_of_pos (p := fun r => sameK r x) hs]
    rw [List.length_take] at ht
    rw [List.getElem_take]
    exact sameK_less ((cutR l x hr t (by omega)).1 (by omega))
  unfold isR; rw [e]
theorem isR_no {l : List Rf} {x : Rf} (hr : RiseR l) (h : metR l x (lesR l x) = false) : isR l x = ⟨#[]⟩ := by
  have e : l.find? (fun r => sameK r x) = none := find_noneR (fun t (ht : t < l.length) => show sameK l[t] x = false by
    rcases Nat.lt_trichotomy t (lesR l x) with q | q | q
    · exact sameK_less ((cutR l x hr t ht).1 q)
    · subst q
      unfold metR at h; rw [List.getElem?_eq_getElem ht] at h; exact h
    · cases hs : sameK l[t] x with
      | false => rfl
      | true =>
        exfalso
        have hk : lesR l x < l.length := by omega
        have h1 := (cutR l x hr _ hk).2 (Nat.le_refl _)
        have h2 : lessR l[lesR l x] l[t] = true := (List.pairwise_iff_getElem.1 hr) _ _ hk ht q
        rcases cmpR_cases l[t] x with ⟨_, _, _, h4⟩ | ⟨_, _, _, h4⟩ | ⟨h3, h5, _, _⟩
        · rw [h4] at hs; cases hs
        · rw [h4] at hs; cases hs
        · obtain ⟨tq, hq⟩ : ∃ q, l[t] = q := ⟨_, rfl⟩
          obtain ⟨t1, t2, t3⟩ := tq
          obtain ⟨x1, x2, x3⟩ := x
          rw [hq] at hs h2
          unfold sameK at hs
          rw [Bool.and_eq_true, decide_eq_true_iff, beq_iff_eq] at hs
          have : ∀ u : Rf, lessR u (x1, x2, x3) = lessR u (t1, t2, t3) := fun u => by
            unfold lessR; simp only; rw [show x1 = t1 from hs.1.symm, show x2.toList = t2.toList from hs.2.symm]
          rw [this, h2] at h1
          cases h1)
  unfold isR; rw [e]
set_option maxHeartbeats 4000000 in
set_option maxRecDepth 100000 in
theorem rfbsf_any (A : Option Addr) (n c : Nat) (l : List Rf) (x1 : Int) (x2 x3 : ByteArray) (w : World) (h : RdX rfC 3 w A n l) (hn : n ≤ 1000000) (hr : RiseR l) :
    Calls Try.prog 210 #[.slice A n c, .agg #[.int .i64 x1, .string x2, .string x3], .func (.func 57) #[] #[]] w fun e w' => e = .returned (.tuple #[.int .i64 (lesR l (x1, x2, x3) : Int), .bool (metR l (x1, x2, x3) (lesR l (x1, x2, x3)))]) ∧ Below w.heap.size w w' := by
  have H := Lib.hid h
  have HL := Lib.hid h.1
  have H1 := Lib.hid (cutR l (x1, x2, x3) hr)
  have hk0 : lesR l (x1, x2, x3) ≤ n := by rw [← h.1]; exact lesR_le l (x1, x2, x3)
  generalize lesR l (x1, x2, x3) = K at *
  clear h hr
  have HB1 := Lib.hid (Below.refl w.heap.size w)
  go_enter Try.func210, Try.ntmps210
  have HF2 := Lib.hid (blk_new w (.cells #[.int .i64 x1, .string x2, .string x3] 97 (0, 0)))
  have HB3 := Lib.hid (HB1.out.alloc HB1.out.size (.cells #[.int .i64 x1, .string x2, .string x3] 97 (0, 0)))
  clear HB1
  go_wp2
  go_loopw [9, 10, 11] (fun i j _ wr => ∃ (lo hi : Nat), i = .int .i64 (lo : Int) ∧ j = .int .i64 (hi : Int) ∧ lo ≤ K ∧ K ≤ hi ∧ hi ≤ n ∧ wr.heap[w.heap.size]? = some (.cells #[.int .i64 x1, .string x2, .string x3] 97 (0, 0)) ∧ Below w.heap.size w wr) (fun i j _ _ => (intOf j - intOf i).toNat)
  case atStart => exact ⟨0, n, rfl, rfl, by omega, hk0, Nat.le_refl _, HF2.out, HB3.out⟩
  case round =>
    obtain ⟨lo, hi, rfl, rfl, hlo, hhi, hln, hbx, hb⟩ := hrel
    have HB := Lib.hid hb
    have HC := Lib.hid hbx
    have hCl := lt_of_block hbx
    clear hb hbx
    by_cases hlt : (lo : Int) < hi
    · obtain ⟨m, hm⟩ : ∃ m, m = (lo + hi) / 2 := ⟨_, rfl⟩
      have hml : lo ≤ m := by omega
      have hmh : m < hi := by omega
      have hmn : m < n := by omega
      have hme : ((lo : Int) + hi) / 2 = (m : Int) := by omega
      obtain ⟨b, off, hl, rfl, hbb, _⟩ := (H.out.below HB.out).at hmn
      have HCUT := Lib.hid (H1.out m hl)
      obtain ⟨y, hy⟩ : ∃ y, l[m] = y := ⟨_, rfl⟩
      have HX := Lib.hid (show l[m]? = some y by rw [List.getElem?_eq_getElem hl, hy])
      rw [hy] at HCUT
      obtain ⟨y1, y2, y3⟩ := y
      have hi0 : (0 : Int) ≤ (m : Int) := by omega
      have hi1 : (m : Int) < (n : Int) := by omega
      have HF := Lib.hid (fun W : World => rfcmp_any y1 y2 y3 x1 x2 x3 W)
      clear hm hy
      by_cases hmk : m < K
      · have HV := Lib.hid (cmpR_less (HCUT.out.1 hmk))
        rw [HV.out] at HF
        have hc101 : wr.cell? ⟨b, off + m * 3, none⟩ = some (.int .i64 y1) := (H.out.below HB.out).cellAt HX.out hmn 0 _ rfl
        have hc102 : wr.cell? ⟨b, off + m * 3 + 1, none⟩ = some (.string y2) := (H.out.below HB.out).cellAt HX.out hmn 1 _ rfl
        have hc103 : wr.cell? ⟨b, off + m * 3 + 2, none⟩ = some (.string y3) := (H.out.below HB.out).cellAt HX.out hmn 2 _ rfl
        have hc104 : wr.cell? ⟨w.heap.size, 0, none⟩ = some (.int .i64 x1) := by rw [cell_of_row _ _ _ _ _ _ HC.out]; rfl
        have hc105 : wr.cell? ⟨w.heap.size, 1, none⟩ = some (.string x2) := by rw [cell_of_row _ _ _ _ _ _ HC.out]; rfl
        have hc106 : wr.cell? ⟨w.heap.size, 2, none⟩ = some (.string x3) := by rw [cell_of_row _ _ _ _ _ _ HC.out]; rfl
        go_wp2_with fail
        have hr107 := fun d os => cell_regrown hc101 d os
        have hr108 := fun d os => cell_regrown hc102 d os
        have hr109 := fun d os => cell_regrown hc103 d os
        have hr110 := fun d os => cell_regrown hc104 d os
        have hr111 := fun d os => cell_regrown hc105 d os
        have hr112 := fun d os => cell_regrown hc106 d os
        refine wp_region_quiet_below (by kernel_rfl) (by kernel_rfl) ?_
        repeat (any_goals (first | go_big_quiet_step ((go_at_call 57; with_reducible exact Calls.regrown_of (HF.out _))) | quiet_step ((go_at_call 57; with_reducible exact Calls.regrown_of (HF.out _)))))
        refine wpQuiet_nil ?_
        intro w11 hw11
        have hb11 := below_anyY hw11
        clear hw11 hr107 hr108 hr109 hr110 hr111 hr112
        clear hc101 hc102 hc103 hc104 hc105 hc106
        have HF113 := Lib.hid (blk_below HC.out hb11)
        have HB114 := Lib.hid (HB.out.trans (hb11.mono HB.out.size))
        clear hb11 HB HC
        go_wp2_with fail
        go_roundw
        case rel => exact ⟨m + 1, hi, by go_num, rfl, by omega, hhi, hln, HF113.out, HB114.out⟩
        case measure => simp [intOf] <;> omega
      · have hv := cmpR_not (HCUT.out.2 (by omega))
        generalize cmpR (y1, y2, y3) (x1, x2, x3) = z at hv HF
        have hz : decide (z < 0) = false := decide_eq_false (by omega)
        have hc101 : wr.cell? ⟨b, off + m * 3, none⟩ = some (.int .i64 y1) := (H.out.below HB.out).cellAt HX.out hmn 0 _ rfl
        have hc102 : wr.cell? ⟨b, off + m * 3 + 1, none⟩ = some (.string y2) := (H.out.below HB.out).cellAt HX.out hmn 1 _ rfl
        have hc103 : wr.cell? ⟨b, off + m * 3 + 2, none⟩ = some (.string y3) := (H.out.below HB.out).cellAt HX.out hmn 2 _ rfl
        have hc104 : wr.cell? ⟨w.heap.size, 0, none⟩ = some (.int .i64 x1) := by rw [cell_of_row _ _ _ _ _ _ HC.out]; rfl
        have hc105 : wr.cell? ⟨w.heap.size, 1, none⟩ = some (.string x2) := by rw [cell_of_row _ _ _ _ _ _ HC.out]; rfl
        have hc106 : wr.cell? ⟨w.heap.size, 2, none⟩ = some (.string x3) := by rw [cell_of_row _ _ _ _ _ _ HC.out]; rfl
        go_wp2_with fail
        have hr107 := fun d os => cell_regrown hc101 d os
        have hr108 := fun d os => cell_regrown hc102 d os
        have hr109 := fun d os => cell_regrown hc103 d os
        have hr110 := fun d os => cell_regrown hc104 d os
        have hr111 := fun d os => cell_regrown hc105 d os
        have hr112 := fun d os => cell_regrown hc106 d os
        refine wp_region_quiet_below (by kernel_rfl) (by kernel_rfl) ?_
        repeat (any_goals (first | go_big_quiet_step ((go_at_call 57; with_reducible exact Calls.regrown_of (HF.out _))) | quiet_step ((go_at_call 57; with_reducible exact Calls.regrown_of (HF.out _)))))
        refine wpQuiet_nil ?_
        intro w11 hw11
        have hb11 := below_anyY hw11
        clear hw11 hr107 hr108 hr109 hr110 hr111 hr112
        clear hc101 hc102 hc103 hc104 hc105 hc106
        have HF113 := Lib.hid (blk_below HC.out hb11)
        have HB114 := Lib.hid (HB.out.trans (hb11.mono HB.out.size))
        clear hb11 HB HC
        go_wp2_with fail
        go_roundw
        case rel => exact ⟨lo, m, rfl, rfl, hlo, by omega, by omega, HF113.out, HB114.out⟩
        case measure => simp [intOf] <;> omega
    · obtain rfl : lo = K := by omega
      obtain rfl : hi = lo := by omega
      clear H1
      by_cases hin : hi < n
      · have hd1 : decide ((hi : Int) < (n : Int)) = true := decide_eq_true (by omega)
        have hd1n : decide (hi < n) = true := decide_eq_true hin
        obtain ⟨b, off, hl, rfl, hbb, _⟩ := (H.out.below HB.out).at hin
        obtain ⟨y, hy⟩ : ∃ y, l[hi] = y := ⟨_, rfl⟩
        have HX := Lib.hid (show l[hi]? = some y by rw [List.getElem?_eq_getElem hl, hy])
        obtain ⟨y1, y2, y3⟩ := y
        have hi0 : (0 : Int) ≤ (hi : Int) := by omega
        have HF := Lib.hid (fun W : World => rfcmp_any y1 y2 y3 x1 x2 x3 W)
        have HM := Lib.hid (show metR l (x1, x2, x3) hi = (cmpR (y1, y2, y3) (x1, x2, x3) == 0) by unfold metR; rw [HX.out, cmpR_eq])
        generalize cmpR (y1, y2, y3) (x1, x2, x3) = z at HF HM
        clear hlt hy
        cases hzm : (z == 0)
        · have HR := Lib.hid (HM.out.trans hzm)
          have hc101 : wr.cell? ⟨b, off + hi * 3, none⟩ = some (.int .i64 y1) := (H.out.below HB.out).cellAt HX.out hin 0 _ rfl
          have hc102 : wr.cell? ⟨b, off + hi * 3 + 1, none⟩ = some (.string y2) := (H.out.below HB.out).cellAt HX.out hin 1 _ rfl
          have hc103 : wr.cell? ⟨b, off + hi * 3 + 2, none⟩ = some (.string y3) := (H.out.below HB.out).cellAt HX.out hin 2 _ rfl
          have hc104 : wr.cell? ⟨w.heap.size, 0, none⟩ = some (.int .i64 x1) := by rw [cell_of_row _ _ _ _ _ _ HC.out]; rfl
          have hc105 : wr.cell? ⟨w.heap.size, 1, none⟩ = some (.string x2) := by rw [cell_of_row _ _ _ _ _ _ HC.out]; rfl
          have hc106 : wr.cell? ⟨w.heap.size, 2, none⟩ = some (.string x3) := by rw [cell_of_row _ _ _ _ _ _ HC.out]; rfl
          go_wp2_with fail
          have hr107 := fun d os => cell_regrown hc101 d os
          have hr108 := fun d os => cell_regrown hc102 d os
          have hr109 := fun d os => cell_regrown hc103 d os
          have hr110 := fun d os => cell_regrown hc104 d os
          have hr111 := fun d os => cell_regrown hc105 d os
          have hr112 := fun d os => cell_regrown hc106 d os
          refine wp_region_quiet_below (by kernel_rfl) (by kernel_rfl) ?_
          repeat (any_goals (first | go_big_quiet_step ((go_at_call 57; with_reducible exact Calls.regrown_of (HF.out _))) | quiet_step ((go_at_call 57; with_reducible exact Calls.regrown_of (HF.out _)))))
          refine wpQuiet_nil ?_
          intro w11 hw11
          have hb11 := below_anyY hw11
          clear hw11 hr107 hr108 hr109 hr110 hr111 hr112
          clear hc101 hc102 hc103 hc104 hc105 hc106
          have HF113 := Lib.hid (blk_below HC.out hb11)
          have HB114 := Lib.hid (HB.out.trans (hb11.mono HB.out.size))
          clear hb11 HB HC
          go_wp2_with fail
          go_ret2
          exact ⟨by first | (rw [HR.out]; done) | (rw [HR.out]; rfl), HB114.out⟩
        · have HR := Lib.hid (HM.out.trans hzm)
          have hc101 : wr.cell? ⟨b, off + hi * 3, none⟩ = some (.int .i64 y1) := (H.out.below HB.out).cellAt HX.out hin 0 _ rfl
          have hc102 : wr.cell? ⟨b, off + hi * 3 + 1, none⟩ = some (.string y2) := (H.out.below HB.out).cellAt HX.out hin 1 _ rfl
          have hc103 : wr.cell? ⟨b, off + hi * 3 + 2, none⟩ = some (.string y3) := (H.out.below HB.out).cellAt HX.out hin 2 _ rfl
          have hc104 : wr.cell? ⟨w.heap.size, 0, none⟩ = some (.int .i64 x1) := by rw [cell_of_row _ _ _ _ _ _ HC.out]; rfl
          have hc105 : wr.cell? ⟨w.heap.size, 1, none⟩ = some (.string x2) := by rw [cell_of_row _ _ _ _ _ _ HC.out]; rfl
          have hc106 : wr.cell? ⟨w.heap.size, 2, none⟩ = some (.string x3) := by rw [cell_of_row _ _ _ _ _ _ HC.out]; rfl
          go_wp2_with fail
          have hr107 := fun d os => cell_regrown hc101 d os
          have hr108 := fun d os => cell_regrown hc102 d os
          have hr109 := fun d os => cell_regrown hc103 d os
          have hr110 := fun d os => cell_regrown hc104 d os
          have hr111 := fun d os => cell_regrown hc105 d os
          have hr112 := fun d os => cell_regrown hc106 d os
          refine wp_region_quiet_below (by kernel_rfl) (by kernel_rfl) ?_
          repeat (any_goals (first | go_big_quiet_step ((go_at_call 57; with_reducible exact Calls.regrown_of (HF.out _))) | quiet_step ((go_at_call 57; with_reducible exact Calls.regrown_of (HF.out _)))))
          refine wpQuiet_nil ?_
          intro w11 hw11
          have hb11 := below_anyY hw11
          clear hw11 hr107 hr108 hr109 hr110 hr111 hr112
          clear hc101 hc102 hc103 hc104 hc105 hc106
          have HF113 := Lib.hid (blk_below HC.out hb11)
          have HB114 := Lib.hid (HB.out.trans (hb11.mono HB.out.size))
          clear hb11 HB HC
          go_wp2_with fail
          go_ret2
          exact ⟨by first | (rw [HR.out]; done) | (rw [HR.out]; rfl), HB114.out⟩
      · have hd : decide ((hi : Int) < (n : Int)) = false := decide_eq_false (by omega)
        have hdn : decide (hi < n) = false := decide_eq_false hin
        have HR := Lib.hid (show metR l (x1, x2, x3) hi = false by unfold metR; rw [List.getElem?_eq_none (by rw [HL.out]; omega)])
        go_wp2_with fail
        refine wp_region_quiet_below (by kernel_rfl) (by kernel_rfl) ?_
        repeat (any_goals (first | go_big_quiet_step (fail) | quiet_step (fail)))
        refine wpQuiet_nil ?_
        intro w11 hw11
        have hb11 := below_anyY hw11
        clear hw11 
        have HB101 := Lib.hid (HB.out.trans (hb11.mono HB.out.size))
        clear hb11 HB 
        go_wp2_with fail
        go_ret2
        exact ⟨by first | (rw [HR.out]; done) | (rw [HR.out]; rfl), HB101.out⟩
set_option maxHeartbeats 1000000 in
set_option maxRecDepth 100000 in
theorem rffind_any (A : Option Addr) (n c : Nat) (l : List Rf) (k : Int) (s now : ByteArray) (w : World) (h : RdX rfC 3 w A n l) (hn : n ≤ 1000000) (hr : RiseR l) :
    Calls Try.prog 148 #[.slice A n c, .int .i64 k, .string s] w fun e w' => e = .returned (.tuple #[.int .i64 (lesR l (k, s, now) : Int), .string (isR l (k, s, now))]) ∧ Below w.heap.size w w' := by
  have H := Lib.hid h
  have L := Lib.hid h.1
  have HF := Lib.hid (fun (W : World) (q : RdX rfC 3 W A n l) => rfbsf_any A n c l k s ⟨#[]⟩ W q hn hr)
  have e1 : lesR l (k, s, ⟨#[]⟩) = lesR l (k, s, now) := rfl
  have e2 : metR l (k, s, ⟨#[]⟩) (lesR l (k, s, now)) = metR l (k, s, now) (lesR l (k, s, now)) := rfl
  rw [e1, e2] at HF
  have HY := Lib.hid (isR_yes (x := (k, s, now)) hr)
  have HN := Lib.hid (isR_no (x := (k, s, now)) hr)
  clear h hr e1 e2
  generalize lesR l (k, s, now) = K at *
  generalize metR l (k, s, now) K = m at *
  cases m with
  | false =>
    have HV := Lib.hid (HN.out rfl)
    clear HY HN
    have HB1 := Lib.hid (Below.refl w.heap.size w)
    go_enter Try.func148, Try.ntmps148
    go_wp2_with fail
    refine (HF.out w (H.out.below HB1.out)).mono ?_
    rintro e w1 ⟨rfl, hb1⟩
    have HB2 := Lib.hid (HB1.out.trans (hb1.mono HB1.out.size))
    clear hb1 HB1 
    go_wp2_with fail
    go_ret2
    exact ⟨by first | (rw [HV.out]; done) | (rw [HV.out]; rfl), HB2.out⟩
  | true =>
    obtain ⟨hk, _, hv⟩ := HY.out rfl
    obtain ⟨y, hy⟩ : ∃ y, l[K] = y := ⟨_, rfl⟩
    have HX := Lib.hid (show l[K]? = some y by rw [List.getElem?_eq_getElem hk, hy])
    rw [hy] at hv
    obtain ⟨y1, y2, y3⟩ := y
    have HV := Lib.hid (show isR l (k, s, now) = y3 from hv)
    have hkn : K < n := by rw [← L.out]; exact hk
    have hi0 : (0 : Int) ≤ (K : Int) := by omega
    have hi1 : (K : Int) < (n : Int) := by omega
    obtain ⟨b, off, _, rfl, _, _⟩ := H.out.at hkn
    clear HY HN hv hy
    have HB1 := Lib.hid (Below.refl w.heap.size w)
    go_enter Try.func148, Try.ntmps148
    go_wp2_with fail
    refine (HF.out w (H.out.below HB1.out)).mono ?_
    rintro e w1 ⟨rfl, hb1⟩
    have HB2 := Lib.hid (HB1.out.trans (hb1.mono HB1.out.size))
    clear hb1 HB1 
    go_wp2_with fail
    have hc3 : w1.cell? ⟨b, off + K * 3 + 2, none⟩ = some (.string y3) := (H.out.below HB2.out).cellAt HX.out hkn 2 _ rfl
    have hr4 := fun d os => cell_regrown hc3 d os
    refine wp_region_quiet_below (by kernel_rfl) (by kernel_rfl) ?_
    repeat (any_goals (first | go_big_quiet_step (fail) | quiet_step (fail)))
    refine wpQuiet_nil ?_
    intro w2 hw2
    have hb2 := below_anyY hw2
    clear hw2 hr4
    clear hc3
    have HB5 := Lib.hid (HB2.out.trans (hb2.mono HB2.out.size))
    clear hb2 HB2 
    go_wp2_with fail
    go_ret2
    exact ⟨by first | (rw [HV.out]; done) | (rw [HV.out]; rfl), HB5.out⟩
set_option maxHeartbeats 1000000 in
set_option maxRecDepth 100000 in
theorem rfget_any (A : Option Addr) (n c : Nat) (l : List Rf) (k : Int) (s now : ByteArray) (w : World) (h : RdX rfC 3 w A n l) (hn : n ≤ 1000000) (hr : RiseR l) :
    Calls Try.prog 63 #[.slice A n c, .int .i64 k, .string s] w fun e w' => e = .returned (.string (isR l (k, s, now))) ∧ Below w.heap.size w w' := by
  have H := Lib.hid h
  have HF := Lib.hid (fun (W : World) (q : RdX rfC 3 W A n l) => rffind_any A n c l k s now W q hn hr)
  clear h hr
  generalize lesR l (k, s, now) = K at *
  generalize isR l (k, s, now) = m at *
  have HB1 := Lib.hid (Below.refl w.heap.size w)
  go_enter Try.func63, Try.ntmps63
  go_wp2_with fail
  refine (HF.out w (H.out.below HB1.out)).mono ?_
  rintro e w1 ⟨rfl, hb1⟩
  have HB2 := Lib.hid (HB1.out.trans (hb1.mono HB1.out.size))
  clear hb1 HB1 
  go_wp2_with fail
  go_ret
  exact ⟨rfl, HB2.out⟩
theorem retSr {a b : ByteArray} (h : a = b) : Ending.returned (.string a) = .returned (.string b) := by rw [h]
theorem find_dropR (l : List Rf) (x : Rf) (k : Nat) (h : k < l.length) (hs : sameK l[k] x = false) : (l.drop k).find? (fun r => sameK r x) = (l.drop (k + 1)).find? (fun r => sameK r x) := by
  rw [List.drop_eq_getElem_cons h, List.find?_cons_of_neg (p := fun r => sameK r x) (by rw [hs]; simp)]
set_option maxRecDepth 100000 in
set_option maxHeartbeats 2000000 in
theorem rfdget_any (A : Option Addr) (n c : Nat) (l : List Rf) (kd : Int) (s now : ByteArray) (w : World) (h : RdX rfC 3 w A n l) (hn : n ≤ maxLen) :
    Calls Try.prog 64 #[.slice A n c, .int .i64 kd, .string s] w fun e w' => e = .returned (.string (isR l (kd, s, now))) ∧ Below w.heap.size w w' := by
  have H := Lib.hid h
  have LL := Lib.hid h.1
  have HB1 := Lib.hid (Below.refl w.heap.size w)
  unfold maxLen at hn
  clear h
  go_enter Try.func64, Try.ntmps64
  go_wp2_with fail
  go_loopw [11] (fun i wr => ∃ k : Nat, i = .int .i64 (k : Int) ∧ k ≤ n ∧ (l.drop k).find? (fun r => sameK r (kd, s, now)) = l.find? (fun r => sameK r (kd, s, now)) ∧ Below w.heap.size w wr) (fun i _ => n - (intOf i).toNat)
  case atStart => exact ⟨0, rfl, Nat.zero_le _, rfl, HB1.out⟩
  case round =>
    clear HB1
    obtain ⟨k, rfl, hk, hs, hb⟩ := hrel
    have HS := Lib.hid hs
    have HB := Lib.hid hb
    clear hs hb
    by_cases hlt : k < n
    · have hd1 : decide ((k : Int) < (n : Int)) = true := decide_eq_true (by omega)
      have hl : k < l.length := by rw [LL.out]; exact hlt
      obtain ⟨b, off, _, rfl, hbb, _⟩ := (H.out.below HB.out).at hlt
      have HA := Lib.hid (find_dropR l (kd, s, now) k hl)
      obtain ⟨x, hx⟩ : ∃ x, l[k] = x := ⟨_, rfl⟩
      have HX := Lib.hid (show l[k]? = some x by rw [List.getElem?_eq_getElem hl, hx])
      have HD := Lib.hid (show l.drop k = x :: l.drop (k + 1) by rw [List.drop_eq_getElem_cons hl, hx])
      rw [hx] at HA
      clear hx
      obtain ⟨x1, x2, x3⟩ := x
      have hi0 : (0 : Int) ≤ (k : Int) := by omega
      have hi1 : (k : Int) < (n : Int) := by omega
      by_cases e1 : x1 = kd
      · have q1 : (x1 == kd) = true := by simpa using e1
        cases q2 : (x2.toList == s.toList) with
        | true =>
          have HR := Lib.hid (show x3 = isR l (kd, s, now) by
            unfold isR
            rw [← HS.out, HD.out, List.find?_cons_of_pos (p := fun r => sameK r (kd, s, now)) (show sameK (x1, x2, x3) (kd, s, now) = true by unfold sameK; rw [decide_eq_true e1, q2]; rfl)])
          clear e1
          have hc101 : wr.cell? ⟨b, off + k * 3, none⟩ = some (.int .i64 x1) := (H.out.below HB.out).cellAt HX.out hlt 0 _ rfl
          have hc102 : wr.cell? ⟨b, off + k * 3 + 1, none⟩ = some (.string x2) := (H.out.below HB.out).cellAt HX.out hlt 1 _ rfl
          have hc103 : wr.cell? ⟨b, off + k * 3 + 2, none⟩ = some (.string x3) := (H.out.below HB.out).cellAt HX.out hlt 2 _ rfl
          have HF104 := Lib.hid (blk_new wr (.cells #[.int .i64 x1, .string x2, .string x3] 97 (0, 0)))
          have HB105 := Lib.hid (HB.out.alloc HB.out.size (.cells #[.int .i64 x1, .string x2, .string x3] 97 (0, 0)))
          clear HB
          have hc106 : (wr.alloc (.cells #[.int .i64 x1, .string x2, .string x3] 97 (0, 0))).cell? ⟨wr.heap.size, 0, none⟩ = some (.int .i64 x1) := by rw [cell_of_row _ _ _ _ _ _ HF104.out]; rfl
          have hc107 : (wr.alloc (.cells #[.int .i64 x1, .string x2, .string x3] 97 (0, 0))).cell? ⟨wr.heap.size, 1, none⟩ = some (.string x2) := by rw [cell_of_row _ _ _ _ _ _ HF104.out]; rfl
          have hc108 : (wr.alloc (.cells #[.int .i64 x1, .string x2, .string x3] 97 (0, 0))).cell? ⟨wr.heap.size, 2, none⟩ = some (.string x3) := by rw [cell_of_row _ _ _ _ _ _ HF104.out]; rfl
          go_wp2_with fail
          go_ret
          exact ⟨retSr HR.out, HB105.out⟩
        | false =>
          have HR := Lib.hid (show (l.drop (k + 1)).find? (fun r => sameK r (kd, s, now)) = l.find? (fun r => sameK r (kd, s, now)) by
            rw [← HS.out, HA.out (by unfold sameK; rw [show ((x1, x2, x3).2.1.toList == (kd, s, now).2.1.toList) = false from q2, Bool.and_false])])
          clear e1
          have hc101 : wr.cell? ⟨b, off + k * 3, none⟩ = some (.int .i64 x1) := (H.out.below HB.out).cellAt HX.out hlt 0 _ rfl
          have hc102 : wr.cell? ⟨b, off + k * 3 + 1, none⟩ = some (.string x2) := (H.out.below HB.out).cellAt HX.out hlt 1 _ rfl
          have hc103 : wr.cell? ⟨b, off + k * 3 + 2, none⟩ = some (.string x3) := (H.out.below HB.out).cellAt HX.out hlt 2 _ rfl
          have HF104 := Lib.hid (blk_new wr (.cells #[.int .i64 x1, .string x2, .string x3] 97 (0, 0)))
          have HB105 := Lib.hid (HB.out.alloc HB.out.size (.cells #[.int .i64 x1, .string x2, .string x3] 97 (0, 0)))
          clear HB
          have hc106 : (wr.alloc (.cells #[.int .i64 x1, .string x2, .string x3] 97 (0, 0))).cell? ⟨wr.heap.size, 0, none⟩ = some (.int .i64 x1) := by rw [cell_of_row _ _ _ _ _ _ HF104.out]; rfl
          have hc107 : (wr.alloc (.cells #[.int .i64 x1, .string x2, .string x3] 97 (0, 0))).cell? ⟨wr.heap.size, 1, none⟩ = some (.string x2) := by rw [cell_of_row _ _ _ _ _ _ HF104.out]; rfl
          have hc108 : (wr.alloc (.cells #[.int .i64 x1, .string x2, .string x3] 97 (0, 0))).cell? ⟨wr.heap.size, 2, none⟩ = some (.string x3) := by rw [cell_of_row _ _ _ _ _ _ HF104.out]; rfl
          go_wp2_with fail
          go_roundw
          case rel => exact ⟨k + 1, by go_num, by omega, HR.out, HB105.out⟩
          case measure => simp [intOf] <;> omega
      · have q1 : (x1 == kd) = false := by simpa using e1
        have HR := Lib.hid (show (l.drop (k + 1)).find? (fun r => sameK r (kd, s, now)) = l.find? (fun r => sameK r (kd, s, now)) by
          rw [← HS.out, HA.out (by unfold sameK; rw [decide_eq_false (show ¬ (x1, x2, x3).1 = (kd, s, now).1 from e1), Bool.false_and])])
        clear e1
        have hc101 : wr.cell? ⟨b, off + k * 3, none⟩ = some (.int .i64 x1) := (H.out.below HB.out).cellAt HX.out hlt 0 _ rfl
        have hc102 : wr.cell? ⟨b, off + k * 3 + 1, none⟩ = some (.string x2) := (H.out.below HB.out).cellAt HX.out hlt 1 _ rfl
        have hc103 : wr.cell? ⟨b, off + k * 3 + 2, none⟩ = some (.string x3) := (H.out.below HB.out).cellAt HX.out hlt 2 _ rfl
        have HF104 := Lib.hid (blk_new wr (.cells #[.int .i64 x1, .string x2, .string x3] 97 (0, 0)))
        have HB105 := Lib.hid (HB.out.alloc HB.out.size (.cells #[.int .i64 x1, .string x2, .string x3] 97 (0, 0)))
        clear HB
        have hc106 : (wr.alloc (.cells #[.int .i64 x1, .string x2, .string x3] 97 (0, 0))).cell? ⟨wr.heap.size, 0, none⟩ = some (.int .i64 x1) := by rw [cell_of_row _ _ _ _ _ _ HF104.out]; rfl
        have hc107 : (wr.alloc (.cells #[.int .i64 x1, .string x2, .string x3] 97 (0, 0))).cell? ⟨wr.heap.size, 1, none⟩ = some (.string x2) := by rw [cell_of_row _ _ _ _ _ _ HF104.out]; rfl
        have hc108 : (wr.alloc (.cells #[.int .i64 x1, .string x2, .string x3] 97 (0, 0))).cell? ⟨wr.heap.size, 2, none⟩ = some (.string x3) := by rw [cell_of_row _ _ _ _ _ _ HF104.out]; rfl
        go_wp2_with fail
        go_roundw
        case rel => exact ⟨k + 1, by go_num, by omega, HR.out, HB105.out⟩
        case measure => simp [intOf] <;> omega
    · have hd1 : decide ((k : Int) < (n : Int)) = false := decide_eq_false (by omega)
      have HR := Lib.hid (show (⟨#[]⟩ : ByteArray) = isR l (kd, s, now) by unfold isR; rw [← HS.out, List.drop_eq_nil_of_le (by rw [LL.out]; omega)]; rfl)
      go_wp2_with fail
      go_ret
      exact ⟨retSr HR.out, HB.out⟩
end Go.Proofs.Ytbjngbacnkmjhaa
