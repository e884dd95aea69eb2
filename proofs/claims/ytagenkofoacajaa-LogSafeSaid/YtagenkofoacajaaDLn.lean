/- The closure by which Crash keeps writes, and settle of those, over this translation. Condition: less than a million writes. -/
import Derived.Test.YtagenkofoacajaaDLm
import Derived.Test.YtagenkofoacajaaMPi
namespace Go.Proofs.Ytagenkofoacajaa
open Go.RowKit Vi

/-- the sectors when the writes of some numbers are safe -/
def setP (p : Nat → Bool) : Nat → List Wr → List ByteArray → List ByteArray
  | _, [], S => S
  | k, x :: r, S => setP p (k + 1) r (if p k = true then S.set x.1.toNat x.2 else S)
theorem setP_snoc (p : Nat → Bool) (x : Wr) : ∀ (l : List Wr) (k : Nat) (S : List ByteArray), setP p k (l ++ [x]) S = if p (k + l.length) = true then (setP p k l S).set x.1.toNat x.2 else setP p k l S
  | [], _, _ => rfl
  | y :: r, k, S => by
    show setP p (k + 1) (r ++ [x]) _ = _
    rw [setP_snoc p x r]
    show (if p (k + 1 + r.length) = true then _ else _) = if p (k + (r.length + 1)) = true then _ else _
    rw [show k + 1 + r.length = k + (r.length + 1) by omega]
    rfl
theorem setP_len (p : Nat → Bool) : ∀ (l : List Wr) (k : Nat) (S : List ByteArray), (setP p k l S).length = S.length
  | [], _, _ => rfl
  | x :: r, k, S => by
    show (setP p (k + 1) r _).length = _
    rw [setP_len p r]
    split
    · rw [List.length_set]
    · rfl
/-- is a number among those that are kept? -/
def inK (ks : List Int) (k : Nat) : Bool := ks.any fun x => x == (k : Int)
theorem wf_nat (k : Nat) (h : k ≤ 1000000) : (Lit.int .i64 (k : Int)).wf = true := by
  simp [Lit.wf, IntKind.min, IntKind.max, IntKind.bits, IntKind.signed]
  omega
set_option maxRecDepth 100000 in
theorem crash1 (M B : Nat) (ks : List Int) (n : Int) (w : World) (hm : w.heap[M]? = some (.cells #[.map (some B)] 77 (0, 0))) (hs : SetI w B ks) (hn : (Lit.int .i64 n).wf = true) :
    Calls Try.prog 48 #[.int .i64 n, .pointer (some ⟨M, 0, none⟩)] w fun e w' => e = .returned (.bool (ks.any fun x => x == n)) ∧ Below w.heap.size w w' := by
  have m0 : w.cell? ⟨M, 0, none⟩ = some (.map (some B)) := (cell_of_row _ _ 0 _ _ _ hm).trans rfl
  have HL := Lib.hid (hs.look n hn)
  obtain ⟨b, hb⟩ : ∃ b, b = ks.any fun x => x == n := ⟨_, rfl⟩
  rw [← hb] at HL ⊢
  have hlk := HL.out
  clear hs hm hb hn
  go_enter Try.func48, Try.ntmps48
  go_wp2_with fail
  go_ret
  exact ⟨rfl, (Below.refl _ _).alloc (Nat.le_refl _) _⟩
set_option maxRecDepth 100000 in
set_option maxHeartbeats 4000000 in
theorem dsettle_map (D M B : Nat) (ks : List Int) (SS : List ByteArray) (CC : List Wr) (dn : Bool) (ops fu : Int) (w : World) (h : DK D SS CC dn ops fu w) (hm : w.heap[M]? = some (.cells #[.map (some B)] 77 (0, 0))) (hs : SetI w B ks) (hM : ¬ InD D w M) (hB : ¬ InD D w B) (hl : CC.length ≤ 1000000) :
    Calls Try.prog 45 #[.pointer (some ⟨D, 0, none⟩), .func (.func 48) #[] #[.pointer (some ⟨M, 0, none⟩)]] w fun e w' => e = .returned (.tuple #[]) ∧ DK D (setP (inK ks) 0 CC SS) [] dn ops fu w' ∧ Kd D w w' := by
  obtain ⟨⟨sa, sn, sc, ca, cn, cc, h1, h2, h3⟩, h4⟩ := h
  have hsn : sn = SS.length := by
    obtain ⟨A, c, e, _, _, _⟩ := h2.rd stC_len
    injection e
  obtain ⟨A, c, e, hr, hc1, hc2⟩ := h3.rd wrC_len
  injection e with e1 e2 e3
  subst e1 e2 e3
  have H1 := Lib.hid h1
  have HO := Lib.hid h2
  have HC := Lib.hid h3
  have H4 := Lib.hid h4
  have HSN := Lib.hid hsn
  obtain ⟨c0, c1, c2, c3, c4, c5⟩ := dk_cells h1
  have hnm : CC.length ≤ maxLen := Nat.le_trans hc1 hc2
  unfold maxLen at hnm
  have HM0 := Lib.hid hm
  have HS0 := Lib.hid hs
  have HNM := Lib.hid hM
  have HNB := Lib.hid hB
  clear h1 h2 h3 h4 hr hc1 hc2 hsn hm hs hM hB
  go_enter Try.func45, Try.ntmps45
  go_wp2_with fail
  clear c0 c1 c2 c3 c4 c5
  go_loopw [11] (fun i wr => ∃ k : Nat, i = .int .i64 (k : Int) ∧ k ≤ CC.length ∧ wr.heap[D]? = some (dkO sa sn sc ca CC.length cc true dn ops fu) ∧ OwX stC 1 9 wr 0 (.slice sa sn sc) (setP (inK ks) 0 (CC.take k) SS) ∧ OwX wrC 2 134 wr 0 (.slice ca CC.length cc) CC ∧ Kd D w wr) (fun i _ => CC.length - (intOf i).toNat)
  case atStart => exact ⟨0, rfl, Nat.zero_le _, H1.out, HO.out, HC.out, Kd.refl _ _⟩
  case round =>
    obtain ⟨k, rfl, hk, hd, ho, hc, hb⟩ := hrel
    have HD := Lib.hid hd
    have HS := Lib.hid ho
    have HW := Lib.hid hc
    have HB := Lib.hid hb
    have hDl := lt_of_block hd
    have HMr : Hid (wr.heap[M]? = some (.cells #[.map (some B)] 77 (0, 0))) := Lib.hid ((hb.block M (lt_of_block HM0.out) HNM.out).trans HM0.out)
    have HSr := Lib.hid (HS0.out.kept (hb.block B HS0.out.lt HNB.out))
    obtain ⟨A, c, e, hr, _, _⟩ := hc.rd wrC_len
    injection e with e1 e2 e3
    subst e1
    have HR := Lib.hid hr
    clear hd ho hc hb hr e3
    by_cases hlt : k < CC.length
    · have hd1 : decide ((k : Int) < (CC.length : Int)) = true := decide_eq_true (by omega)
      have hi0 : (0 : Int) ≤ (k : Int) := by omega
      obtain ⟨b, off, hl, hA, hbb, _⟩ := HR.out.at hlt
      obtain ⟨x, hx⟩ : ∃ x, x = CC[k] := ⟨_, rfl⟩
      have HX := Lib.hid (show CC[k]? = some x by rw [List.getElem?_eq_getElem hl, hx])
      have HT0 := Lib.hid (show setP (inK ks) 0 (CC.take (k + 1)) SS = if inK ks k = true then (setP (inK ks) 0 (CC.take k) SS).set x.1.toNat x.2 else setP (inK ks) 0 (CC.take k) SS by rw [List.take_succ_eq_append_getElem hl, ← hx, setP_snoc, Nat.zero_add, List.length_take, Nat.min_eq_left (Nat.le_of_lt hl)])
      obtain ⟨q1, q2, _⟩ := H4.out x (by rw [hx]; exact List.getElem_mem hl)
      obtain ⟨at0, s⟩ := x
      have q1 : 0 ≤ at0 := q1
      have q2 : at0 < (SS.length : Int) := q2
      obtain ⟨j, rfl⟩ : ∃ j : Nat, at0 = (j : Int) := ⟨at0.toNat, by omega⟩
      have hj : j < (setP (inK ks) 0 (CC.take k) SS).length := by rw [setP_len]; omega
      have hj0 : (0 : Int) ≤ (j : Int) := by omega
      have hj1 : (j : Int) < (sn : Int) := by rw [HSN.out]; omega
      obtain ⟨T, hT⟩ : ∃ T, T = setP (inK ks) 0 (CC.take k) SS := ⟨_, rfl⟩
      rw [← hT] at HT0 HS hj
      have x0 : wr.cell? ⟨b, off + k * 2, none⟩ = some (.int .i64 (j : Int)) := by subst hA; exact HR.out.cellAt HX.out hlt 0 _ rfl
      have x1 : wr.cell? ⟨b, off + k * 2 + 1, none⟩ = some (.string s) := by subst hA; exact HR.out.cellAt HX.out hlt 1 _ rfl
      clear hx hT q1 q2
      obtain rfl := hA
      have hrow := HS.out
      rcases hrow with ⟨_, ⟨_, h0⟩ | ⟨g, cap, cur, e, hg, hheap, _⟩⟩
      · omega
      injection e with e1 e2 e3
      subst e1 e3
      have hne : ¬ D = g := fun e => by
        have q := HD.out
        rw [e, hheap] at q
        cases q
      have hgl := lt_of_block hheap
      obtain ⟨A2, c2, e, hr2, _, _⟩ := HS.out.rd stC_len
      injection e with e1 e2 e3
      subst e1
      have hck : wr.cell? ⟨g, j, none⟩ = some (.string T[j]) := by
        obtain ⟨b2, off2, hb2, _, hc2⟩ := hr2.2 (by omega)
        injection hb2 with hb2
        injection hb2 with hb3 hb4
        subst hb3 hb4
        have q := hc2 j T[j] 0 (.string T[j]) (List.getElem?_eq_getElem hj) rfl
        rw [Nat.zero_add, Nat.mul_one, Nat.add_zero] at q
        exact q
      obtain ⟨o, ho⟩ : ∃ o, o = T[j] := ⟨_, rfl⟩
      rw [← ho] at hck
      have HG := Lib.hid (blk_alloc hheap (.cells #[.int .i64 (j : Int), .string s] 134 (0, 0)))
      have HGB := Lib.hid hg
      have HBn := Lib.hid ((Below.refl wr.heap.size wr).alloc (Nat.le_refl _) (.cells #[.int .i64 (j : Int), .string s] 134 (0, 0)))
      have HDn := Lib.hid (blk_below HD.out HBn.out)
      have HXn := Lib.hid (blk_new wr (.cells #[.int .i64 (j : Int), .string s] 134 (0, 0)))
      have HSn := Lib.hid (HS.out.kept HBn.out)
      have HWn := Lib.hid (HW.out.kept HBn.out)
      have HB1 := Lib.hid (HB.out.trans (Kd.of_below HBn.out hDl))
      have hcn : (wr.alloc (.cells #[.int .i64 (j : Int), .string s] 134 (0, 0))).cell? ⟨g, j, none⟩ = some (.string o) := by rw [HBn.out.cell (p := ⟨g, j, none⟩) hgl]; exact hck
      have HMn := Lib.hid (blk_below HMr.out HBn.out)
      have HSTn := Lib.hid (HSr.out.kept (HBn.out.block B HSr.out.lt))
      obtain ⟨pb, hpb⟩ : ∃ pb, pb = inK ks k := ⟨_, rfl⟩
      rw [← hpb] at HT0
      have HAL : Hid (∀ (W : World), W.heap[M]? = some (.cells #[.map (some B)] 77 (0, 0)) → SetI W B ks → Calls Try.prog 48 #[.int .i64 (k : Int), .pointer (some ⟨M, 0, none⟩)] W fun e w' => e = .returned (.bool pb) ∧ Below W.heap.size W w') := Lib.hid (fun W h1 h2 => by rw [hpb]; exact crash1 M B ks (k : Int) W h1 h2 (wf_nat k (by omega)))
      clear hpb
      have hbs := HB.out.size
      clear hr2 hheap hg ho e2 e3 hck
      cases pb
      · have HT := Lib.hid (show setP (inK ks) 0 (CC.take (k + 1)) SS = T by rw [HT0.out]; simp)
        clear HT0
        go_wp2_with fail
        clear x0 x1
        refine (HAL.out _ HMn.out HSTn.out).mono ?_
        rintro e v ⟨rfl, hbv⟩
        have HDv := Lib.hid (blk_below HDn.out hbv)
        have HSv := Lib.hid (HSn.out.kept hbv)
        have HWv := Lib.hid (HWn.out.kept hbv)
        have HBv := Lib.hid (HB1.out.trans (Kd.of_below hbv (lt_of_block HDn.out)))
        clear hbv
        go_wp2_with fail
        go_roundw
        case rel => exact ⟨k + 1, by go_num, by omega, HDv.out, by rw [HT.out]; exact HSv.out, HWv.out, HBv.out⟩
        case measure => simp [intOf] <;> omega
      have HT := Lib.hid (show setP (inK ks) 0 (CC.take (k + 1)) SS = T.set j s by rw [HT0.out]; simp)
      clear HT0
      go_wp2_with fail
      clear x0 x1
      refine (HAL.out _ HMn.out HSTn.out).mono ?_
      rintro e v ⟨rfl, hbv⟩
      have HGo := HG
      have HG := Lib.hid (blk_below HG.out hbv)
      have HB1 := Lib.hid (HB1.out.trans (Kd.of_below hbv (lt_of_block HDn.out)))
      have HDn := Lib.hid (blk_below HDn.out hbv)
      have HXn := Lib.hid (blk_below HXn.out hbv)
      have HSn := Lib.hid (HSn.out.kept hbv)
      have HWn := Lib.hid (HWn.out.kept hbv)
      have hcn : v.cell? ⟨g, j, none⟩ = some (.string o) := by rw [hbv.cell (p := ⟨g, j, none⟩) (lt_of_block HGo.out)]; exact hcn
      have hvs : wr.heap.size < v.heap.size := lt_of_block HXn.out
      clear hbv
      go_upto_region 4 with (fail)
      have hnw : ¬ wr.heap.size = g := by omega
      have y0 : v.drew.cell? ⟨D, 0, none⟩ = some (.slice (some ⟨g, 0, none⟩) sn sc) := (dk_cells (show v.drew.heap[D]? = _ from HDn.out)).1
      have y1 : v.drew.cell? ⟨wr.heap.size, 0, none⟩ = some (.int .i64 (j : Int)) := (cell_of_row _ _ _ _ _ _ (show v.drew.heap[wr.heap.size]? = _ from HXn.out)).trans rfl
      have y2 : v.drew.cell? ⟨wr.heap.size, 1, none⟩ = some (.string s) := (cell_of_row _ _ _ _ _ _ (show v.drew.heap[wr.heap.size]? = _ from HXn.out)).trans rfl
      have y3 : v.drew.cell? ⟨g, j, none⟩ = some (.string o) := hcn
      have f3 : v.drew.frozen? ⟨g, j, none⟩ = false := frozen_of_row _ _ _ _ _ (show v.drew.heap[g]? = _ from HG.out)
      have HK := Lib.hid ((KK.refl [g] v.drew).set (b := g) (by simp) j (.string s))
      have HD9 := Lib.hid (HK.out.blk (show v.drew.heap[D]? = _ from HDn.out) (by simpa using hne))
      have HX9 := Lib.hid (HK.out.blk (show v.drew.heap[wr.heap.size]? = _ from HXn.out) (by simpa using hnw))
      have z0 := (dk_cells HD9.out).1
      have z1 := (cell_of_row _ _ 0 _ _ _ HX9.out).trans rfl
      have z2 := (cell_of_row _ _ 1 _ _ _ HX9.out).trans rfl
      go_region_held3 (fun w9 => w9.cell? ⟨D, 0, none⟩ = some (.slice (some ⟨g, 0, none⟩) sn sc) ∧ w9.cell? ⟨wr.heap.size, 0, none⟩ = some (.int .i64 (j : Int)) ∧ w9.cell? ⟨wr.heap.size, 1, none⟩ = some (.string s))
        (first | exact ⟨y0, y1, y2⟩ | exact ⟨z0, z1, z2⟩ | go_keep) (fail)
      all_goals
        have HS9 := Lib.hid (HSn.out.drew.setS (i := j) s)
        have HW9 := Lib.hid (HWn.out.drew.kkD HK.out (show v.drew.heap[g]? = _ from HG.out) (by decide))
        have HB9 := Lib.hid (HB1.out.trans (Kd.of_box (show KK [g] v _ from HK.out.drewl) (fun b hb => by obtain rfl : b = g := (by simpa using hb); exact InD.safe HDn.out) HDn.out HD9.out (fun b o e => by cases e; exact .inl (InD.safe HDn.out)) (fun b o e => by cases e; exact .inl (InD.cache HDn.out))))
        clear y0 y1 y2 y3 z0 z1 z2 f3
        go_wp2_with fail
        go_roundw
        case rel => exact ⟨k + 1, by go_num, by omega, HD9.out, by rw [HT.out]; exact HS9.out, HW9.out, HB9.out⟩
        case measure => simp [intOf] <;> omega
    · have hd1 : decide ((k : Int) < (CC.length : Int)) = false := decide_eq_false (by omega)
      have HE := Lib.hid (show CC.take k = CC from List.take_of_length_le (by omega))
      have f1 : wr.frozen? ⟨D, 1, none⟩ = false := frozen_of_row _ _ _ _ _ HD.out
      have y1 : wr.cell? ⟨D, 1, none⟩ = some (.slice ca CC.length cc) := (dk_cells HD.out).2.1
      go_wp2_with fail
      have HK := Lib.hid ((KK.refl [D] wr).set (b := D) (by simp) 1 (.slice none 0 0))
      have HR9 := Lib.hid (show (wr.setCell ⟨D, 1, none⟩ (.slice none 0 0)).heap[D]? = some (dkO sa sn sc none 0 0 true dn ops fu) from heap_setCell_at (i := 1) (u := .slice none 0 0) HD.out)
      have HO2 := Lib.hid (HS.out.kkD HK.out HD.out (by decide))
      have HB9 := Lib.hid (HB.out.trans (Kd.of_none HK.out HD.out HR9.out))
      refine bodyPost_end (results_none rfl _ _ _) rfl ?_
      exact ⟨rfl, ⟨⟨sa, sn, sc, none, 0, 0, HR9.out, by rw [← HE.out]; exact HO2.out, OwX.nil _⟩, fun x hx => by cases hx⟩, HB9.out⟩
end Go.Proofs.Ytagenkofoacajaa
