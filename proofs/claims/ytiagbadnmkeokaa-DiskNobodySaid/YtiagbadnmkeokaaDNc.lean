/- The disk family, merged for a claim. Conditions as in its parts. -/
import Derived.Test.YtiagbadnmkeokaaDNb
import Derived.Test.YtiagbadnmkeokaaMPi
import Derived.Test.YtiagbadnmkeokaaPm
namespace Go.Proofs.Ytiagbadnmkeokaa
open Go.RowKit Vi

/-- the sectors when the writes of some numbers are safe -/
def setP (p : Nat → Bool) : Nat → List Wr → List ByteArray → List ByteArray
  | _, [], S => S
  | k, x :: r, S => setP p (k + 1) r (if p k = true then S.set x.1.toNat x.2 else S)
theorem setP_snoc (p : Nat → Bool) (x : Wr) : ∀ (l : List Wr) (k : Nat) (S : List ByteArray), setP p k (l ++ [x]) S = if p (k + l.length) = true then (setP p k l S).set x.1.toNat x.2 else setP p k l S
  | [], _, _ => rfl
  | y :: r, k, S => by
    show setP p (k + 1) (r ++ [x]) _ = _
    rw [setP_snoc p x r]
    show (if p (k + 1 + r.length) = true then _ else _) = if p (k + (r.length + 1)) = true then _ else _
    rw [show k + 1 + r.length = k + (r.length + 1) by omega]
    rfl
theorem setP_len (p : Nat → Bool) : ∀ (l : List Wr) (k : Nat) (S : List ByteArray), (setP p k l S).length = S.length
  | [], _, _ => rfl
  | x :: r, k, S => by
    show (setP p (k + 1) r _).length = _
    rw [setP_len p r]
    split
    · rw [List.length_set]
    · rfl
/-- is a number among those that are kept? -/
def inK (ks : List Int) (k : Nat) : Bool := ks.any fun x => x == (k : Int)
theorem wf_nat (k : Nat) (h : k ≤ 1000000) : (Lit.int .i64 (k : Int)).wf = true := by
  simp [Lit.wf, IntKind.min, IntKind.max, IntKind.bits, IntKind.signed]
  omega
set_option maxRecDepth 100000 in
theorem crash1 (M B : Nat) (ks : List Int) (n : Int) (w : World) (hm : w.heap[M]? = some (.cells #[.map (some B)] 95 (0, 0))) (hs : SetI w B ks) (hn : (Lit.int .i64 n).wf = true) :
    Calls Try.prog 62 #[.int .i64 n, .pointer (some ⟨M, 0, none⟩)] w fun e w' => e = .returned (.bool (ks.any fun x => x == n)) ∧ Below w.heap.size w w' := by
  have m0 : w.cell? ⟨M, 0, none⟩ = some (.map (some B)) := (cell_of_row _ _ 0 _ _ _ hm).trans rfl
  have HL := Lib.hid (hs.look n hn)
  obtain ⟨b, hb⟩ : ∃ b, b = ks.any fun x => x == n := ⟨_, rfl⟩
  rw [← hb] at HL ⊢
  have hlk := HL.out
  clear hs hm hb hn
  go_enter Try.func62, Try.ntmps62
  go_wp2_with fail
  go_ret
  exact ⟨rfl, (Below.refl _ _).alloc (Nat.le_refl _) _⟩
set_option maxRecDepth 100000 in
set_option maxHeartbeats 4000000 in
theorem dsettle_map (D M B : Nat) (ks : List Int) (SS : List ByteArray) (CC : List Wr) (dn : Bool) (ops fu : Int) (w : World) (h : DK D SS CC dn ops fu w) (hm : w.heap[M]? = some (.cells #[.map (some B)] 95 (0, 0))) (hs : SetI w B ks) (hM : ¬ InD D w M) (hB : ¬ InD D w B) (hl : CC.length ≤ 1000000) :
    Calls Try.prog 53 #[.pointer (some ⟨D, 0, none⟩), .func (.func 62) #[] #[.pointer (some ⟨M, 0, none⟩)]] w fun e w' => e = .returned (.tuple #[]) ∧ DK D (setP (inK ks) 0 CC SS) [] dn ops fu w' ∧ Kd D w w' := by
  obtain ⟨⟨sa, sn, sc, ca, cn, cc, h1, h2, h3⟩, h4⟩ := h
  have hsn : sn = SS.length := by
    obtain ⟨A, c, e, _, _, _⟩ := h2.rd stC_len
    injection e
  obtain ⟨A, c, e, hr, hc1, hc2⟩ := h3.rd wrC_len
  injection e with e1 e2 e3
  subst e1 e2 e3
  have H1 := Lib.hid h1
  have HO := Lib.hid h2
  have HC := Lib.hid h3
  have H4 := Lib.hid h4
  have HSN := Lib.hid hsn
  obtain ⟨c0, c1, c2, c3, c4, c5⟩ := dk_cells h1
  have hnm : CC.length ≤ maxLen := Nat.le_trans hc1 hc2
  unfold maxLen at hnm
  have HM0 := Lib.hid hm
  have HS0 := Lib.hid hs
  have HNM := Lib.hid hM
  have HNB := Lib.hid hB
  clear h1 h2 h3 h4 hr hc1 hc2 hsn hm hs hM hB
  go_enter Try.func53, Try.ntmps53
  go_wp2_with fail
  clear c0 c1 c2 c3 c4 c5
  go_loopw [11] (fun i wr => ∃ k : Nat, i = .int .i64 (k : Int) ∧ k ≤ CC.length ∧ wr.heap[D]? = some (dkO sa sn sc ca CC.length cc true dn ops fu) ∧ OwX stC 1 9 wr 0 (.slice sa sn sc) (setP (inK ks) 0 (CC.take k) SS) ∧ OwX wrC 2 91 wr 0 (.slice ca CC.length cc) CC ∧ Kd D w wr) (fun i _ => CC.length - (intOf i).toNat)
  case atStart => exact ⟨0, rfl, Nat.zero_le _, H1.out, HO.out, HC.out, Kd.refl _ _⟩
  case round =>
    obtain ⟨k, rfl, hk, hd, ho, hc, hb⟩ := hrel
    have HD := Lib.hid hd
    have HS := Lib.hid ho
    have HW := Lib.hid hc
    have HB := Lib.hid hb
    have hDl := lt_of_block hd
    have HMr : Hid (wr.heap[M]? = some (.cells #[.map (some B)] 95 (0, 0))) := Lib.hid ((hb.block M (lt_of_block HM0.out) HNM.out).trans HM0.out)
    have HSr := Lib.hid (HS0.out.kept (hb.block B HS0.out.lt HNB.out))
    obtain ⟨A, c, e, hr, _, _⟩ := hc.rd wrC_len
    injection e with e1 e2 e3
    subst e1
    have HR := Lib.hid hr
    clear hd ho hc hb hr e3
    by_cases hlt : k < CC.length
    · have hd1 : decide ((k : Int) < (CC.length : Int)) = true := decide_eq_true (by omega)
      have hi0 : (0 : Int) ≤ (k : Int) := by omega
      obtain ⟨b, off, hl, hA, hbb, _⟩ := HR.out.at hlt
      obtain ⟨x, hx⟩ : ∃ x, x = CC[k] := ⟨_, rfl⟩
      have HX := Lib.hid (show CC[k]? = some x by rw [List.getElem?_eq_getElem hl, hx])
      have HT0 := Lib.hid (show setP (inK ks) 0 (CC.take (k + 1)) SS = if inK ks k = true then (setP (inK ks) 0 (CC.take k) SS).set x.1.toNat x.2 else setP (inK ks) 0 (CC.take k) SS by rw [List.take_succ_eq_append_getElem hl, ← hx, setP_snoc, Nat.zero_add, List.length_take, Nat.min_eq_left (Nat.le_of_lt hl)])
      obtain ⟨q1, q2, _⟩ := H4.out x (by rw [hx]; exact List.getElem_mem hl)
      obtain ⟨at0, s⟩ := x
      have q1 : 0 ≤ at0 := q1
      have q2 : at0 < (SS.length : Int) := q2
      obtain ⟨j, rfl⟩ : ∃ j : Nat, at0 = (j : Int) := ⟨at0.toNat, by omega⟩
      have hj : j < (setP (inK ks) 0 (CC.take k) SS).length := by rw [setP_len]; omega
      have hj0 : (0 : Int) ≤ (j : Int) := by omega
      have hj1 : (j : Int) < (sn : Int) := by rw [HSN.out]; omega
      obtain ⟨T, hT⟩ : ∃ T, T = setP (inK ks) 0 (CC.take k) SS := ⟨_, rfl⟩
      rw [← hT] at HT0 HS hj
      have x0 : wr.cell? ⟨b, off + k * 2, none⟩ = some (.int .i64 (j : Int)) := by subst hA; exact HR.out.cellAt HX.out hlt 0 _ rfl
      have x1 : wr.cell? ⟨b, off + k * 2 + 1, none⟩ = some (.string s) := by subst hA; exact HR.out.cellAt HX.out hlt 1 _ rfl
      clear hx hT q1 q2
      obtain rfl := hA
      have hrow := HS.out
      rcases hrow with ⟨_, ⟨_, h0⟩ | ⟨g, cap, cur, e, hg, hheap, _⟩⟩
      · omega
      injection e with e1 e2 e3
      subst e1 e3
      have hne : ¬ D = g := fun e => by
        have q := HD.out
        rw [e, hheap] at q
        cases q
      have hgl := lt_of_block hheap
      obtain ⟨A2, c2, e, hr2, _, _⟩ := HS.out.rd stC_len
      injection e with e1 e2 e3
      subst e1
      have hck : wr.cell? ⟨g, j, none⟩ = some (.string T[j]) := by
        obtain ⟨b2, off2, hb2, _, hc2⟩ := hr2.2 (by omega)
        injection hb2 with hb2
        injection hb2 with hb3 hb4
        subst hb3 hb4
        have q := hc2 j T[j] 0 (.string T[j]) (List.getElem?_eq_getElem hj) rfl
        rw [Nat.zero_add, Nat.mul_one, Nat.add_zero] at q
        exact q
      obtain ⟨o, ho⟩ : ∃ o, o = T[j] := ⟨_, rfl⟩
      rw [← ho] at hck
      have HG := Lib.hid (blk_alloc hheap (.cells #[.int .i64 (j : Int), .string s] 91 (0, 0)))
      have HGB := Lib.hid hg
      have HBn := Lib.hid ((Below.refl wr.heap.size wr).alloc (Nat.le_refl _) (.cells #[.int .i64 (j : Int), .string s] 91 (0, 0)))
      have HDn := Lib.hid (blk_below HD.out HBn.out)
      have HXn := Lib.hid (blk_new wr (.cells #[.int .i64 (j : Int), .string s] 91 (0, 0)))
      have HSn := Lib.hid (HS.out.kept HBn.out)
      have HWn := Lib.hid (HW.out.kept HBn.out)
      have HB1 := Lib.hid (HB.out.trans (Kd.of_below HBn.out hDl))
      have hcn : (wr.alloc (.cells #[.int .i64 (j : Int), .string s] 91 (0, 0))).cell? ⟨g, j, none⟩ = some (.string o) := by rw [HBn.out.cell (p := ⟨g, j, none⟩) hgl]; exact hck
      have HMn := Lib.hid (blk_below HMr.out HBn.out)
      have HSTn := Lib.hid (HSr.out.kept (HBn.out.block B HSr.out.lt))
      obtain ⟨pb, hpb⟩ : ∃ pb, pb = inK ks k := ⟨_, rfl⟩
      rw [← hpb] at HT0
      have HAL : Hid (∀ (W : World), W.heap[M]? = some (.cells #[.map (some B)] 95 (0, 0)) → SetI W B ks → Calls Try.prog 62 #[.int .i64 (k : Int), .pointer (some ⟨M, 0, none⟩)] W fun e w' => e = .returned (.bool pb) ∧ Below W.heap.size W w') := Lib.hid (fun W h1 h2 => by rw [hpb]; exact crash1 M B ks (k : Int) W h1 h2 (wf_nat k (by omega)))
      clear hpb
      have hbs := HB.out.size
      clear hr2 hheap hg ho e2 e3 hck
      cases pb
      · have HT := Lib.hid (show setP (inK ks) 0 (CC.take (k + 1)) SS = T by rw [HT0.out]; simp)
        clear HT0
        go_wp2_with fail
        clear x0 x1
        refine (HAL.out _ HMn.out HSTn.out).mono ?_
        rintro e v ⟨rfl, hbv⟩
        have HDv := Lib.hid (blk_below HDn.out hbv)
        have HSv := Lib.hid (HSn.out.kept hbv)
        have HWv := Lib.hid (HWn.out.kept hbv)
        have HBv := Lib.hid (HB1.out.trans (Kd.of_below hbv (lt_of_block HDn.out)))
        clear hbv
        go_wp2_with fail
        go_roundw
        case rel => exact ⟨k + 1, by go_num, by omega, HDv.out, by rw [HT.out]; exact HSv.out, HWv.out, HBv.out⟩
        case measure => simp [intOf] <;> omega
      have HT := Lib.hid (show setP (inK ks) 0 (CC.take (k + 1)) SS = T.set j s by rw [HT0.out]; simp)
      clear HT0
      go_wp2_with fail
      clear x0 x1
      refine (HAL.out _ HMn.out HSTn.out).mono ?_
      rintro e v ⟨rfl, hbv⟩
      have HGo := HG
      have HG := Lib.hid (blk_below HG.out hbv)
      have HB1 := Lib.hid (HB1.out.trans (Kd.of_below hbv (lt_of_block HDn.out)))
      have HDn := Lib.hid (blk_below HDn.out hbv)
      have HXn := Lib.hid (blk_below HXn.out hbv)
      have HSn := Lib.hid (HSn.out.kept hbv)
      have HWn := Lib.hid (HWn.out.kept hbv)
      have hcn : v.cell? ⟨g, j, none⟩ = some (.string o) := by rw [hbv.cell (p := ⟨g, j, none⟩) (lt_of_block HGo.out)]; exact hcn
      have hvs : wr.heap.size < v.heap.size := lt_of_block HXn.out
      clear hbv
      go_upto_region 4 with (fail)
      have hnw : ¬ wr.heap.size = g := by omega
      have y0 : v.drew.cell? ⟨D, 0, none⟩ = some (.slice (some ⟨g, 0, none⟩) sn sc) := (dk_cells (show v.drew.heap[D]? = _ from HDn.out)).1
      have y1 : v.drew.cell? ⟨wr.heap.size, 0, none⟩ = some (.int .i64 (j : Int)) := (cell_of_row _ _ _ _ _ _ (show v.drew.heap[wr.heap.size]? = _ from HXn.out)).trans rfl
      have y2 : v.drew.cell? ⟨wr.heap.size, 1, none⟩ = some (.string s) := (cell_of_row _ _ _ _ _ _ (show v.drew.heap[wr.heap.size]? = _ from HXn.out)).trans rfl
      have y3 : v.drew.cell? ⟨g, j, none⟩ = some (.string o) := hcn
      have f3 : v.drew.frozen? ⟨g, j, none⟩ = false := frozen_of_row _ _ _ _ _ (show v.drew.heap[g]? = _ from HG.out)
      have HK := Lib.hid ((KK.refl [g] v.drew).set (b := g) (by simp) j (.string s))
      have HD9 := Lib.hid (HK.out.blk (show v.drew.heap[D]? = _ from HDn.out) (by simpa using hne))
      have HX9 := Lib.hid (HK.out.blk (show v.drew.heap[wr.heap.size]? = _ from HXn.out) (by simpa using hnw))
      have z0 := (dk_cells HD9.out).1
      have z1 := (cell_of_row _ _ 0 _ _ _ HX9.out).trans rfl
      have z2 := (cell_of_row _ _ 1 _ _ _ HX9.out).trans rfl
      go_region_held3 (fun w9 => w9.cell? ⟨D, 0, none⟩ = some (.slice (some ⟨g, 0, none⟩) sn sc) ∧ w9.cell? ⟨wr.heap.size, 0, none⟩ = some (.int .i64 (j : Int)) ∧ w9.cell? ⟨wr.heap.size, 1, none⟩ = some (.string s))
        (first | exact ⟨y0, y1, y2⟩ | exact ⟨z0, z1, z2⟩ | go_keep) (fail)
      all_goals
        have HS9 := Lib.hid (HSn.out.drew.setS (i := j) s)
        have HW9 := Lib.hid (HWn.out.drew.kkD HK.out (show v.drew.heap[g]? = _ from HG.out) (by decide))
        have HB9 := Lib.hid (HB1.out.trans (Kd.of_box (show KK [g] v _ from HK.out.drewl) (fun b hb => by obtain rfl : b = g := (by simpa using hb); exact InD.safe HDn.out) HDn.out HD9.out (fun b o e => by cases e; exact .inl (InD.safe HDn.out)) (fun b o e => by cases e; exact .inl (InD.cache HDn.out))))
        clear y0 y1 y2 y3 z0 z1 z2 f3
        go_wp2_with fail
        go_roundw
        case rel => exact ⟨k + 1, by go_num, by omega, HD9.out, by rw [HT.out]; exact HS9.out, HW9.out, HB9.out⟩
        case measure => simp [intOf] <;> omega
    · have hd1 : decide ((k : Int) < (CC.length : Int)) = false := decide_eq_false (by omega)
      have HE := Lib.hid (show CC.take k = CC from List.take_of_length_le (by omega))
      have f1 : wr.frozen? ⟨D, 1, none⟩ = false := frozen_of_row _ _ _ _ _ HD.out
      have y1 : wr.cell? ⟨D, 1, none⟩ = some (.slice ca CC.length cc) := (dk_cells HD.out).2.1
      go_wp2_with fail
      have HK := Lib.hid ((KK.refl [D] wr).set (b := D) (by simp) 1 (.slice none 0 0))
      have HR9 := Lib.hid (show (wr.setCell ⟨D, 1, none⟩ (.slice none 0 0)).heap[D]? = some (dkO sa sn sc none 0 0 true dn ops fu) from heap_setCell_at (i := 1) (u := .slice none 0 0) HD.out)
      have HO2 := Lib.hid (HS.out.kkD HK.out HD.out (by decide))
      have HB9 := Lib.hid (HB.out.trans (Kd.of_none HK.out HD.out HR9.out))
      refine bodyPost_end (results_none rfl _ _ _) rfl ?_
      exact ⟨rfl, ⟨⟨sa, sn, sc, none, 0, 0, HR9.out, by rw [← HE.out]; exact HO2.out, OwX.nil _⟩, fun x hx => by cases hx⟩, HB9.out⟩
end Go.Proofs.Ytiagbadnmkeokaa

namespace Go.Proofs.Ytiagbadnmkeokaa
open Go.RowKit Vi Go.WideMaps Go.Maps

def inC (n : Int) : List Value := [.int .i64 n]
theorem inC_len (n : Int) : (inC n).length = 1 := rfl
theorem DK.newB {D : Nat} {SS : List ByteArray} {CC : List Wr} {dn : Bool} {ops fu : Int} {w wr : World} (h : DK D SS CC dn ops fu w) (hb : Below w.heap.size w wr) {b : Nat} (q : InD D wr b) : b < w.heap.size := by
  have hD := h.lt
  refine h.new ?_
  rcases q with q | ⟨o, n, c, q⟩ | ⟨o, n, c, q⟩
  · exact .inl q
  · exact .inr (.inl ⟨o, n, c, by rw [← hb.cell (p := ⟨D, 0, none⟩) hD]; exact q⟩)
  · exact .inr (.inr ⟨o, n, c, by rw [← hb.cell (p := ⟨D, 1, none⟩) hD]; exact q⟩)
set_option maxRecDepth 100000 in
set_option maxHeartbeats 2000000 in
theorem dcrash_any (D : Nat) (SS : List ByteArray) (CC : List Wr) (dn : Bool) (ops fu : Int) (A : Option Addr) (n c : Nat) (ks : List Int) (w : World) (h : DK D SS CC dn ops fu w) (hr : RdX inC 1 w A n ks) (hk : ∀ x ∈ ks, (Lit.int .i64 x).wf = true) (hn : n ≤ maxLen) (hl : CC.length ≤ 1000000) :
    Calls Try.prog 22 #[.pointer (some ⟨D, 0, none⟩), .slice A n c] w fun e w' => e = .returned (.int .i64 0) ∧ DK D (setP (inK ks) 0 CC SS) [] true ops 0 w' ∧ Kd D w w' := by
  have hn1 : n ≤ 9223372036854775807 := Nat.le_trans hn (by decide)
  clear hn
  have HM := Lib.hid h.made
  have HD := Lib.hid h
  have HR := Lib.hid hr
  have HW := Lib.hid hk
  have hmm := fun W : World => run_makeMap (P := Try.prog) 95 W
  obtain ⟨o1, ho1⟩ : ∃ o : Obj, o = .cells #[.map (some w.heap.size)] 95 (0, 0) := ⟨_, rfl⟩
  have HB0 := Lib.hid (((Below.refl w.heap.size w).alloc (Nat.le_refl _) (.map #[] 0)).alloc (by simp) o1)
  have HM0 : Hid (((w.alloc (.map #[] 0)).alloc o1).heap[w.heap.size + 1]? = some o1) := Lib.hid (two_blk w (.map #[] 0) o1)
  have HS0 : Hid (SetI ((w.alloc (.map #[] 0)).alloc o1) w.heap.size []) := Lib.hid ((SetI.made w).kept (blk_alloc (MapKept.heap_alloc w (.map #[] 0)).1 o1 |>.trans (MapKept.heap_alloc w (.map #[] 0)).1.symm))
  clear h hr hk
  subst ho1
  go_enter Try.func22, Try.ntmps22
  go_wp2_with fail
  refine HM.out.mono ?_
  rintro e w' ⟨rfl, rfl⟩
  go_wp2_with fail
  clear hmm
  go_loopw [7, 14] (fun _ i wr => ∃ k : Nat, i = .int .i64 (k : Int) ∧ k ≤ n ∧ SetI wr w.heap.size (ks.take k) ∧ wr.heap[w.heap.size + 1]? = some (.cells #[.map (some w.heap.size)] 95 (0, 0)) ∧ Below w.heap.size w wr) (fun _ i _ => n - (intOf i).toNat)
  case atStart => exact ⟨0, rfl, Nat.zero_le _, by simpa using HS0.out, HM0.out, HB0.out⟩
  case round =>
    obtain ⟨k, rfl, hk, hs, hm, hb⟩ := hrel
    have HS := Lib.hid hs
    have HMb := Lib.hid hm
    have HB := Lib.hid hb
    clear hs hm hb
    by_cases hlt : k < n
    · have hd1 : decide ((k : Int) < (n : Int)) = true := decide_eq_true (by omega)
      have hi0 : (0 : Int) ≤ (k : Int) := by omega
      obtain ⟨b, off, hl2, rfl, hbb, hcell⟩ := (HR.out.below HB.out).at hlt
      have c0 := hcell 0 (.int .i64 ks[k]) rfl
      rw [Nat.mul_one, Nat.add_zero] at c0
      have HT := Lib.hid (show ks.take (k + 1) = ks.take k ++ [ks[k]] from List.take_succ_eq_append_getElem hl2)
      have hwf := HW.out ks[k] (List.getElem_mem hl2)
      obtain ⟨x, hx⟩ : ∃ x, x = ks[k] := ⟨_, rfl⟩
      rw [← hx] at c0 HT hwf
      obtain ⟨W2, hrun, hs2, hg2⟩ := HS.out.put x hwf (by rw [List.length_take]; unfold maxLen; omega)
      have HS2 := Lib.hid hs2
      have HB2 := Lib.hid (HB.out.grown hg2 HB.out.size (fun k e => by cases e; exact Nat.le_refl _))
      have HM2 : Hid (W2.heap[w.heap.size + 1]? = some (.cells #[.map (some w.heap.size)] 95 (0, 0))) := Lib.hid ((hg2.block _ (lt_of_block HMb.out) (fun e => by injection e with e; omega)).trans HMb.out)
      have m0 : wr.cell? ⟨w.heap.size + 1, 0, none⟩ = some (.map (some w.heap.size)) := (cell_of_row _ _ 0 _ _ _ HMb.out).trans rfl
      clear hcell hs2 hg2 hx hwf
      go_wp2_with fail
      go_roundw
      case rel => exact ⟨k + 1, by go_num, by omega, by rw [HT.out]; exact HS2.out, HM2.out, HB2.out⟩
      case measure => simp [intOf] <;> omega
    · have hd1 : decide ((k : Int) < (n : Int)) = false := decide_eq_false (by omega)
      have HE := Lib.hid (show ks.take k = ks from List.take_of_length_le (by have := HR.out.1; omega))
      have HDr := Lib.hid (HD.out.kept HB.out)
      have HSr : Hid (SetI wr w.heap.size ks) := Lib.hid (by rw [← HE.out]; exact HS.out)
      have HST := Lib.hid (dsettle_map D (w.heap.size + 1) w.heap.size ks SS CC dn ops fu wr HDr.out HMb.out HSr.out (fun q => by have := HD.out.newB HB.out q; omega) (fun q => by have := HD.out.newB HB.out q; omega) hl)
      go_wp2_with fail
      refine HST.out.mono ?_
      rintro e w1 ⟨rfl, hd, hk1⟩
      have HK1 := Lib.hid ((Kd.of_below HB.out HD.out.lt).trans hk1)
      obtain ⟨⟨sa, sn, sc, ca, cn, cc, h1, h2, h3⟩, h4⟩ := hd
      have HT := Lib.hid (dturn_any D sa sn sc ca cn cc true dn ops fu true w1 h1)
      have H1 := Lib.hid h1
      have H2 := Lib.hid h2
      have H3 := Lib.hid h3
      clear hk1 h1 h2 h3 h4
      go_wp2_with fail
      refine HT.out.mono ?_
      rintro e w2 ⟨rfl, hb, hk⟩
      have HB9 := Lib.hid hb
      have HK2 := Lib.hid hk
      have HO2 := Lib.hid (H2.out.kkD hk H1.out (by decide))
      have HO3 := Lib.hid (H3.out.kkD hk H1.out (by decide))
      clear hb hk
      go_wp2_with fail
      go_ret
      exact ⟨rfl, ⟨⟨sa, sn, sc, ca, cn, cc, HB9.out, HO2.out, HO3.out⟩, fun x hx => by cases hx⟩, HK1.out.trans (Kd.of_same HK2.out H1.out HB9.out)⟩
end Go.Proofs.Ytiagbadnmkeokaa

namespace Go.Proofs.Ytiagbadnmkeokaa
open Go.RowKit Vi

/-- a row of the call's own is handed back -/
def OwnL {α : Type} (f : α → List Value) (s : Nat) (T : TypeId) (w : World) (L : List α) (e : Ending) (w' : World) : Prop := ∃ v, e = .returned v ∧ OwX f s T w' w.heap.size v L ∧ Below w.heap.size w w'
set_option maxRecDepth 100000 in
set_option maxHeartbeats 800000 in
theorem dclone_st (A : Option Addr) (n c : Nat) (l : List ByteArray) (w : World) (h : RdX stC 1 w A n l) (hn : n ≤ 100000) :
    Calls Try.prog 81 #[.slice A n c] w (OwnL stC 1 9 w l) := by
  have q24 : ∀ (w : World) (a : Option Addr) (n c n' c' : Nat), (binOp .eql 29 (.slice a n c) (.slice none n' c')).run Try.prog w = .ok (.bool a.isNone) w := fun w a n c n' c' => Lib.run_eql_slice_nil w _ _ a n c n' c' Try.underlying29
  have H := Lib.hid h
  rcases A with _ | ad
  · have h0 : l = [] := by
      rcases Nat.eq_zero_or_pos n with h0 | h0
      · exact List.length_eq_zero_iff.1 (by rw [h.1]; exact h0)
      · obtain ⟨b, off, e, _⟩ := h.2 h0
        cases e
    subst h0
    clear h
    go_enter Try.func81, Try.ntmps81
    go_wp2
    go_ret
    exact ⟨_, rfl, OwX.nil w, Below.refl _ _⟩
  · clear h
    go_enter Try.func81, Try.ntmps81
    go_wp2_with (at_builtin; refine wpList_appXs rfl _ _ 29 9 _ 16 rfl Try.underlying29 info_stA rfl (by omega) (by omega) stC_len stC_one w.heap.size w ((Below.refl _ w).alloc (Nat.le_refl _) _) (by simp) _ [] rfl (OwX.zero (blk_new w _) (Nat.le_refl _) (Nat.zero_le _) rfl) (some ad) n c l rfl (H.out.below ((Below.refl _ w).alloc (Nat.le_refl _) _)) (by simp; omega) ?_)
    intro v1 w1 HO HB HZ HG
    have hv1 := HO.out.one
    go_wp2_with fail
    go_ret
    exact ⟨v1, rfl, HO.out, HB.out⟩
set_option maxRecDepth 100000 in
set_option maxHeartbeats 800000 in
theorem dclone_wr (A : Option Addr) (n c : Nat) (l : List Wr) (w : World) (h : RdX wrC 2 w A n l) (hn : n ≤ 100000) :
    Calls Try.prog 82 #[.slice A n c] w (OwnL wrC 2 91 w l) := by
  have q24 : ∀ (w : World) (a : Option Addr) (n c n' c' : Nat), (binOp .eql 30 (.slice a n c) (.slice none n' c')).run Try.prog w = .ok (.bool a.isNone) w := fun w a n c n' c' => Lib.run_eql_slice_nil w _ _ a n c n' c' Try.underlying30
  have H := Lib.hid h
  rcases A with _ | ad
  · have h0 : l = [] := by
      rcases Nat.eq_zero_or_pos n with h0 | h0
      · exact List.length_eq_zero_iff.1 (by rw [h.1]; exact h0)
      · obtain ⟨b, off, e, _⟩ := h.2 h0
        cases e
    subst h0
    clear h
    go_enter Try.func82, Try.ntmps82
    go_wp2
    go_ret
    exact ⟨_, rfl, OwX.nil w, Below.refl _ _⟩
  · clear h
    go_enter Try.func82, Try.ntmps82
    go_wp2_with (at_builtin; refine wpList_appXs rfl _ _ 30 91 _ 24 rfl Try.underlying30 info_wrB rfl (by omega) (by omega) wrC_len wrC_one w.heap.size w ((Below.refl _ w).alloc (Nat.le_refl _) _) (by simp) _ [] rfl (OwX.zero (blk_new w _) (Nat.le_refl _) (Nat.zero_le _) rfl) (some ad) n c l rfl (H.out.below ((Below.refl _ w).alloc (Nat.le_refl _) _)) (by simp; omega) ?_)
    intro v1 w1 HO HB HZ HG
    have hv1 := HO.out.one
    go_wp2_with fail
    go_ret
    exact ⟨v1, rfl, HO.out, HB.out⟩
/-- what a copy of an image is -/
def CpP (SS : List ByteArray) (CC : List Wr) (w : World) (e : Ending) (w' : World) : Prop := ∃ A n c A2 n2 c2, e = .returned (.agg #[.slice A n c, .slice A2 n2 c2]) ∧ OwX stC 1 9 w' w.heap.size (.slice A n c) SS ∧ OwX wrC 2 91 w' w.heap.size (.slice A2 n2 c2) CC ∧ Below w.heap.size w w'
theorem info_img : (Try.prog.info? 54).map (·.size) = some 2 := by kernel_rfl
set_option maxRecDepth 100000 in
set_option maxHeartbeats 4000000 in
theorem dcopy_any (D : Nat) (sa : Option Addr) (sn sc : Nat) (ca : Option Addr) (cn cc : Nat) (SS : List ByteArray) (CC : List Wr) (w : World) (d0 : w.cell? ⟨D, 0, none⟩ = some (.slice sa sn sc)) (d1 : w.cell? ⟨D, 1, none⟩ = some (.slice ca cn cc)) (h2 : RdX stC 1 w sa sn SS) (h3 : RdX wrC 2 w ca cn CC) (hs : sn ≤ 100000) (hc : cn ≤ 100000) :
    Calls Try.prog 44 #[.pointer (some ⟨D, 0, none⟩)] w (CpP SS CC w) := by
  have hDl : D < w.heap.size := World.block_lt_of_cell? w _ d0
  have HB0 := Lib.hid ((Below.refl w.heap.size w).alloc (Nat.le_refl _) (.cells #[.slice none 0 0, .slice none 0 0] 54 (0, 0)))
  have HR0 := Lib.hid (blk_new w (.cells #[.slice none 0 0, .slice none 0 0] 54 (0, 0)))
  have H20 := Lib.hid (h2.below HB0.out)
  have H30 := Lib.hid (h3.below HB0.out)
  have HD0 : Hid ((w.alloc (.cells #[.slice none 0 0, .slice none 0 0] 54 (0, 0))).cell? ⟨D, 0, none⟩ = some (.slice sa sn sc)) := Lib.hid ((HB0.out.cell (p := ⟨D, 0, none⟩) hDl).trans d0)
  have HD1 : Hid ((w.alloc (.cells #[.slice none 0 0, .slice none 0 0] 54 (0, 0))).cell? ⟨D, 1, none⟩ = some (.slice ca cn cc)) := Lib.hid ((HB0.out.cell (p := ⟨D, 1, none⟩) hDl).trans d1)
  clear d0 d1 h2 h3
  go_enter Try.func44, Try.ntmps44
  go_upto_region 1 with (fail)
  obtain ⟨v, hv⟩ : ∃ v, v = w.alloc (.cells #[.slice none 0 0, .slice none 0 0] 54 (0, 0)) := ⟨_, rfl⟩
  rw [← hv] at HB0 HR0 H20 H30 HD0 HD1
  rw [← hv]
  clear hv
  refine wp_region_L_drew (S := fun _ W => W.cell? ⟨D, 0, none⟩ = some (.slice sa sn sc) ∧ W.cell? ⟨D, 1, none⟩ = some (.slice ca cn cc)) (by kernel_rfl) ⟨HD0.out, HD1.out⟩ (fun hS hC => ?_)
  refine wpAnyL_take (i := 0) (oi := { dst := some 3, op := .move (.tmp 0), type := _, pos := _, after := _, guard := none }) (v := ?_) rfl (by kernel_rfl) (by kernel_rfl) (by kernel_rfl) (fun _ _ _ h => h) (fun _ _ => Iff.rfl) hC (Or.inl ⟨by rfl, ?_⟩) hS (fun hC hS => ?_)
  rotate_left
  · intro W9 hSw; skip; go_simp; try (with_reducible rfl)
  try simp only [Act.put, List.setIfInBounds_toArray, List.set_cons_zero, List.set_cons_succ]
  refine wpAnyL_take (i := 1) (oi := { dst := some 4, op := .nilCheck (.tmp 3), type := _, pos := _, after := _, guard := none }) (v := ?_) rfl (by kernel_rfl) (by kernel_rfl) (by kernel_rfl) (fun _ _ _ h => h) (fun _ _ => Iff.rfl) hC (Or.inl ⟨by rfl, ?_⟩) hS (fun hC hS => ?_)
  rotate_left
  · intro W9 hSw; skip; go_simp; try (with_reducible rfl)
  try simp only [Act.put, List.setIfInBounds_toArray, List.set_cons_zero, List.set_cons_succ]
  refine wpAnyL_take (i := 2) (oi := { dst := some 5, op := .fieldAddr 54 (.tmp 4) 0, type := _, pos := _, after := _, guard := none }) (v := ?_) rfl (by kernel_rfl) (by kernel_rfl) (by kernel_rfl) (fun _ _ _ h => h) (fun _ _ => Iff.rfl) hC (Or.inl ⟨by rfl, ?_⟩) hS (fun hC hS => ?_)
  rotate_left
  · intro W9 hSw; skip; go_simp; try (with_reducible rfl)
  try simp only [Act.put, List.setIfInBounds_toArray, List.set_cons_zero, List.set_cons_succ]
  refine wpAnyL_take (i := 3) (oi := { dst := some 6, op := .load 29 (.tmp 5), type := _, pos := _, after := _, guard := none }) (v := ?_) rfl (by kernel_rfl) (by kernel_rfl) (by kernel_rfl) (fun _ _ _ h => h) (fun _ _ => Iff.rfl) hC (Or.inl ⟨by rfl, ?_⟩) hS (fun hC hS => ?_)
  rotate_left
  · intro W9 hSw; obtain ⟨_, _, _, q0, _⟩ := hSw; go_simp; try (with_reducible rfl)
  try simp only [Act.put, List.setIfInBounds_toArray, List.set_cons_zero, List.set_cons_succ]
  refine wpAnyL_take (i := 5) (oi := { dst := some 8, op := .move (.tmp 0), type := _, pos := _, after := _, guard := none }) (v := ?_) rfl (by kernel_rfl) (by kernel_rfl) (by kernel_rfl) (fun _ _ _ h => h) (fun _ _ => Iff.rfl) hC (Or.inl ⟨by rfl, ?_⟩) hS (fun hC hS => ?_)
  rotate_left
  · intro W9 hSw; skip; go_simp; try (with_reducible rfl)
  try simp only [Act.put, List.setIfInBounds_toArray, List.set_cons_zero, List.set_cons_succ]
  refine wpAnyL_take (i := 6) (oi := { dst := some 9, op := .nilCheck (.tmp 8), type := _, pos := _, after := _, guard := none }) (v := ?_) rfl (by kernel_rfl) (by kernel_rfl) (by kernel_rfl) (fun _ _ _ h => h) (fun _ _ => Iff.rfl) hC (Or.inl ⟨by rfl, ?_⟩) hS (fun hC hS => ?_)
  rotate_left
  · intro W9 hSw; skip; go_simp; try (with_reducible rfl)
  try simp only [Act.put, List.setIfInBounds_toArray, List.set_cons_zero, List.set_cons_succ]
  refine wpAnyL_take (i := 7) (oi := { dst := some 10, op := .fieldAddr 54 (.tmp 9) 1, type := _, pos := _, after := _, guard := none }) (v := ?_) rfl (by kernel_rfl) (by kernel_rfl) (by kernel_rfl) (fun _ _ _ h => h) (fun _ _ => Iff.rfl) hC (Or.inl ⟨by rfl, ?_⟩) hS (fun hC hS => ?_)
  rotate_left
  · intro W9 hSw; skip; go_simp; try (with_reducible rfl)
  try simp only [Act.put, List.setIfInBounds_toArray, List.set_cons_zero, List.set_cons_succ]
  refine wpAnyL_take (i := 8) (oi := { dst := some 11, op := .load 30 (.tmp 10), type := _, pos := _, after := _, guard := none }) (v := ?_) rfl (by kernel_rfl) (by kernel_rfl) (by kernel_rfl) (fun _ _ _ h => h) (fun _ _ => Iff.rfl) hC (Or.inl ⟨by rfl, ?_⟩) hS (fun hC hS => ?_)
  rotate_left
  · intro W9 hSw; obtain ⟨_, _, _, _, q0⟩ := hSw; go_simp; try (with_reducible rfl)
  try simp only [Act.put, List.setIfInBounds_toArray, List.set_cons_zero, List.set_cons_succ]
  refine wpAnyL_ready (rs := [4]) (by kernel_rfl) (by simp) hC ?_
  refine AllReadyL.cons (o := { dst := some 7, op := .call { callee := .value (.func 81), args := #[.tmp 6], argTypes := #[29] }, type := _, pos := _, after := _, guard := none }) rfl (fun K9 hK => ?_) ?_
  · skip
    go_simp
    refine (dclone_st sa sn sc SS _ H20.out.drew hs).mono ?_
    rintro e w1 ⟨v1, rfl, ho1, hb1⟩
    have HB1 := Lib.hid (HB0.out.drew.trans (hb1.mono HB0.out.size))
    have HR1 := Lib.hid (blk_below (show v.drew.heap[w.heap.size]? = _ from HR0.out) hb1)
    have H31 := Lib.hid (H30.out.drew.below hb1)
    have HO1 := Lib.hid (ho1.mono (B' := w.heap.size) HB0.out.size)
    have HD01 : Hid (w1.cell? ⟨D, 0, none⟩ = some (.slice sa sn sc)) := Lib.hid ((hb1.cell (p := ⟨D, 0, none⟩) (by have := HB0.out.size; show D < v.heap.size; omega)).trans HD0.out)
    have HD11 : Hid (w1.cell? ⟨D, 1, none⟩ = some (.slice ca cn cc)) := Lib.hid ((hb1.cell (p := ⟨D, 1, none⟩) (by have := HB0.out.size; show D < v.heap.size; omega)).trans HD1.out)
    obtain ⟨A1, n1, c1, rfl⟩ := HO1.out.sl3
    clear ho1 hb1
    refine hK _ _ ⟨HD01.out, HD11.out⟩ (fun hC => ?_)
    clear hK K9
    try simp only [Act.put, List.setIfInBounds_toArray, List.set_cons_zero, List.set_cons_succ]
    refine wpAnyL_ready (rs := [9]) (by kernel_rfl) (by simp) hC ?_
    refine AllReadyL.cons (o := { dst := some 12, op := .call { callee := .value (.func 82), args := #[.tmp 11], argTypes := #[30] }, type := _, pos := _, after := _, guard := none }) rfl (fun K9 hK => ?_) ?_
    · skip
      go_simp
      refine (dclone_wr ca cn cc CC _ H31.out hc).mono ?_
      rintro e w2 ⟨v2, rfl, ho2, hb2⟩
      have HB2 := Lib.hid (HB1.out.trans (hb2.mono HB1.out.size))
      have HR2 := Lib.hid (blk_below HR1.out hb2)
      have HO12 := Lib.hid (HO1.out.kept hb2)
      have HO2 := Lib.hid (ho2.mono (B' := w.heap.size) HB1.out.size)
      have HD02 : Hid (w2.cell? ⟨D, 0, none⟩ = some (.slice sa sn sc)) := Lib.hid ((hb2.cell (p := ⟨D, 0, none⟩) (by have := HB1.out.size; show D < w1.heap.size; omega)).trans HD01.out)
      have HD12 : Hid (w2.cell? ⟨D, 1, none⟩ = some (.slice ca cn cc)) := Lib.hid ((hb2.cell (p := ⟨D, 1, none⟩) (by have := HB1.out.size; show D < w1.heap.size; omega)).trans HD11.out)
      obtain ⟨A2, n2, c2, rfl⟩ := HO2.out.sl3
      clear ho2 hb2
      refine hK _ _ ⟨HD02.out, HD12.out⟩ (fun hC => ?_)
      clear hK K9
      try simp only [Act.put, List.setIfInBounds_toArray, List.set_cons_zero, List.set_cons_succ]
      refine wpAnyL_take (i := 10) (oi := { dst := some 13, op := .build 54 #[(0, .tmp 7), (1, .tmp 12)], type := _, pos := _, after := _, guard := none }) (v := ?_) rfl (by kernel_rfl) (by kernel_rfl) (by kernel_rfl) (fun _ _ _ h => h) (fun _ _ => Iff.rfl) hC (Or.inl ⟨by rfl, ?_⟩) ⟨HD02.out, HD12.out⟩ (fun hC hS => ?_)
      rotate_left
      · intro W9 hSw; skip; go_simp; try (with_reducible rfl)
      try simp only [Act.put, List.setIfInBounds_toArray, List.set_cons_zero, List.set_cons_succ]
      refine wpAnyL_ready (rs := [11]) (by kernel_rfl) (by simp) hC ?_
      refine AllReadyL.cons (o := { dst := none, op := .store 54 (.tmp 2) (.tmp 13), type := _, pos := _, after := _, guard := none }) rfl (fun K9 hK => ?_) ?_
      · skip
        have y0 : w2.cell? ⟨w.heap.size, 0, none⟩ = some (.slice none 0 0) := (cell_of_row _ _ 0 _ _ _ HR2.out).trans rfl
        have y1 : w2.cell? ⟨w.heap.size, 1, none⟩ = some (.slice none 0 0) := (cell_of_row _ _ 1 _ _ _ HR2.out).trans rfl
        have f0 : w2.frozen? ⟨w.heap.size, 0, none⟩ = false := frozen_of_row _ _ _ _ _ HR2.out
        have f1 : w2.frozen? ⟨w.heap.size, 1, none⟩ = false := frozen_of_row _ _ _ _ _ HR2.out
        have hDn : ¬ D = w.heap.size := by omega
        go_simp
        have HK := Lib.hid (((KK.refl [w.heap.size] w2).set (b := w.heap.size) (by simp) 0 (.slice A1 n1 c1)).set (b := w.heap.size) (by simp) 1 (.slice A2 n2 c2))
        have HR3 := Lib.hid (show ((w2.setCell ⟨w.heap.size, 0, none⟩ (.slice A1 n1 c1)).setCell ⟨w.heap.size, 1, none⟩ (.slice A2 n2 c2)).heap[w.heap.size]? = some (.cells #[.slice A1 n1 c1, .slice A2 n2 c2] 54 (0, 0)) by have q := heap_setCell_at (i := 1) (u := .slice A2 n2 c2) (heap_setCell_at (i := 0) (u := .slice A1 n1 c1) HR2.out); exact q)
        have HO13 := Lib.hid (HO12.out.kkD HK.out HR2.out (by decide))
        have HO23 := Lib.hid (HO2.out.kkD HK.out HR2.out (by decide))
        have HB3 := Lib.hid (HK.out.below HB2.out (fun b hb => by obtain rfl : b = w.heap.size := (by simpa using hb); exact Nat.le_refl _) HB2.out.size)
        have z0 := (World.cell?_of_block (a := ⟨D, 0, none⟩) (HK.out.block D (by have := HB2.out.size; omega) (by simpa using hDn))).trans HD02.out
        have z1 := (World.cell?_of_block (a := ⟨D, 1, none⟩) (HK.out.block D (by have := HB2.out.size; omega) (by simpa using hDn))).trans HD12.out
        refine hK _ _ ⟨z0, z1⟩ (fun hC => ?_)
        clear hK K9
        try simp only [Act.put, List.setIfInBounds_toArray, List.set_cons_zero, List.set_cons_succ]
        refine wpAnyL_done (by kernel_rfl) ?_ _
        go_wp2_with fail
        refine bodyPost_ret (results_cY rfl _ _ w.heap.size #[.slice A1 n1 c1, .slice A2 n2 c2] rfl (run_loadVar_row _ w.heap.size 54 54 _ (0, 0) _ HR3.out Try.underlying54 rfl (by kernel_rfl))) rfl ?_
        exact ⟨A1, n1, c1, A2, n2, c2, rfl, HO13.out, HO23.out, HB3.out⟩
      exact AllReadyL.nil
    exact AllReadyL.nil
  exact AllReadyL.nil
end Go.Proofs.Ytiagbadnmkeokaa

namespace Go.Proofs.Ytiagbadnmkeokaa
open Go.RowKit Vi

set_option maxRecDepth 100000 in
set_option maxHeartbeats 2000000 in
theorem dseize_any (D : Nat) (SS : List ByteArray) (CC : List Wr) (dn : Bool) (ops fu : Int) (w : World) (h : DK D SS CC dn ops fu w) (hs : SS.length ≤ 100000) (hc : CC.length ≤ 100000) :
    Calls Try.prog 11 #[.pointer (some ⟨D, 0, none⟩)] w (CpP SS CC w) := by
  obtain ⟨o1, ho1⟩ : ∃ o : Obj, o = .cells #[.slice none 0 0, .slice none 0 0] 32 (0, 0) := ⟨_, rfl⟩
  have HB0 := Lib.hid ((Below.refl w.heap.size w).alloc (Nat.le_refl _) o1)
  have HR0 := Lib.hid (blk_new w o1)
  have hd := h.kept HB0.out
  have HM := Lib.hid hd.made
  obtain ⟨⟨sa, sn, sc, ca, cn, cc, g1, g2, g3⟩, _⟩ := hd
  obtain ⟨A, c, e, r2, _, _⟩ := g2.rd stC_len
  injection e with e1 e2 e3
  subst e1 e2 e3
  obtain ⟨A2, c2, e, r3, _, _⟩ := g3.rd wrC_len
  injection e with e1 e2 e3
  subst e1 e2 e3
  have HC := Lib.hid (dcopy_any D _ _ _ _ _ _ SS CC _ (dk_cells g1).1 (dk_cells g1).2.1 r2 r3 hs hc)
  clear h g1 g2 g3 r2 r3
  subst ho1
  go_enter Try.func11, Try.ntmps11
  go_wp2_with fail
  refine HM.out.mono ?_
  rintro e w' ⟨rfl, rfl⟩
  go_wp2_with fail
  refine HC.out.mono ?_
  rintro e w2 ⟨B1, n1, k1, B2, n2, k2, rfl, ho1, ho2, hb⟩
  have HB2 := Lib.hid (HB0.out.trans (hb.mono HB0.out.size))
  have HO1 := Lib.hid (ho1.mono (B' := w.heap.size) HB0.out.size)
  have HO2 := Lib.hid (ho2.mono (B' := w.heap.size) HB0.out.size)
  have HR9 := Lib.hid (blk_below HR0.out hb)
  have y0 : (w2.alloc (.cells #[.slice B1 n1 k1, .slice B2 n2 k2] 54 (0, 0))).cell? ⟨w.heap.size, 0, none⟩ = some (.slice none 0 0) := (cell_of_row _ _ 0 _ _ _ (blk_alloc HR9.out _)).trans rfl
  have y1 : (w2.alloc (.cells #[.slice B1 n1 k1, .slice B2 n2 k2] 54 (0, 0))).cell? ⟨w.heap.size, 1, none⟩ = some (.slice none 0 0) := (cell_of_row _ _ 1 _ _ _ (blk_alloc HR9.out _)).trans rfl
  have f0 : (w2.alloc (.cells #[.slice B1 n1 k1, .slice B2 n2 k2] 54 (0, 0))).frozen? ⟨w.heap.size, 0, none⟩ = false := frozen_of_row _ _ _ _ _ (blk_alloc HR9.out _)
  have f1 : (w2.alloc (.cells #[.slice B1 n1 k1, .slice B2 n2 k2] 54 (0, 0))).frozen? ⟨w.heap.size, 1, none⟩ = false := frozen_of_row _ _ _ _ _ (blk_alloc HR9.out _)
  have y2 : w2.cell? ⟨w.heap.size, 0, none⟩ = some (.slice none 0 0) := (cell_of_row _ _ 0 _ _ _ HR9.out).trans rfl
  have y3 : w2.cell? ⟨w.heap.size, 1, none⟩ = some (.slice none 0 0) := (cell_of_row _ _ 1 _ _ _ HR9.out).trans rfl
  have f2 : w2.frozen? ⟨w.heap.size, 0, none⟩ = false := frozen_of_row _ _ _ _ _ HR9.out
  have f3 : w2.frozen? ⟨w.heap.size, 1, none⟩ = false := frozen_of_row _ _ _ _ _ HR9.out
  have hlt : w.heap.size < w2.heap.size := lt_of_block (blk_below HR0.out hb)
  have hne : ¬ w.heap.size = w2.heap.size := by omega
  clear ho1 ho2 hb
  go_wp2_with fail
  have HK := Lib.hid (((KK.refl [w.heap.size] w2).set (b := w.heap.size) (by simp) 0 (.slice B1 n1 k1)).set (b := w.heap.size) (by simp) 1 (.slice B2 n2 k2))
  have HR2 := Lib.hid (show ((w2.setCell ⟨w.heap.size, 0, none⟩ (.slice B1 n1 k1)).setCell ⟨w.heap.size, 1, none⟩ (.slice B2 n2 k2)).heap[w.heap.size]? = some (.cells #[.slice B1 n1 k1, .slice B2 n2 k2] 32 (0, 0)) by have q := heap_setCell_at (i := 1) (u := .slice B2 n2 k2) (heap_setCell_at (i := 0) (u := .slice B1 n1 k1) HR9.out); exact q)
  have HR3 := Lib.hid (blk_alloc HR2.out (.cells #[.slice B1 n1 k1, .slice B2 n2 k2] 54 (0, 0)))
  have HO13 := Lib.hid ((HO1.out.kkD HK.out HR9.out (by decide)).alloc (.cells #[.slice B1 n1 k1, .slice B2 n2 k2] 54 (0, 0)))
  have HO23 := Lib.hid ((HO2.out.kkD HK.out HR9.out (by decide)).alloc (.cells #[.slice B1 n1 k1, .slice B2 n2 k2] 54 (0, 0)))
  have HB4 := Lib.hid (HK.out.below HB2.out (fun b hb => by obtain rfl : b = w.heap.size := (by simpa using hb); exact Nat.le_refl _) HB2.out.size)
  have HB3 := Lib.hid (HB4.out.alloc HB4.out.size (.cells #[.slice B1 n1 k1, .slice B2 n2 k2] 54 (0, 0)))
  refine bodyPost_ret (results_cY rfl _ _ w.heap.size #[.slice B1 n1 k1, .slice B2 n2 k2] rfl (run_loadVar_row _ w.heap.size 32 32 _ (0, 0) _ HR3.out Try.underlying32 rfl (by kernel_rfl))) rfl ?_
  exact ⟨B1, n1, k1, B2, n2, k2, rfl, HO13.out, HO23.out, HB3.out⟩
end Go.Proofs.Ytiagbadnmkeokaa

namespace Go.Proofs.Ytiagbadnmkeokaa
open Go.RowKit Vi

/-- an index, or one below 0: is there one? -/
def IdxP (b : Bool) (w : World) (e : Ending) (w' : World) : Prop := ∃ r : Int, e = .returned (.int .i64 r) ∧ decide (0 ≤ r) = b ∧ Below w.heap.size w w'
def RetBl (b : Bool) (w : World) (e : Ending) (w' : World) : Prop := e = .returned (.bool b) ∧ Below w.heap.size w w'
/-- a text is no sector -/
def badS (s : ByteArray) : Bool := !decide (s.size = 128)
/-- a write may not be -/
def badW (n : Nat) (x : Wr) : Bool := dckE n x.1 x.2 != 0
theorem any_snocF {α : Type} (p : α → Bool) (l : List α) (k : Nat) (hk : k < l.length) : (l.take (k + 1)).any p = ((l.take k).any p || p l[k]) := by
  rw [List.take_succ_eq_append_getElem hk, List.any_append]
  simp
theorem any_at {α : Type} (p : α → Bool) (l : List α) (k : Nat) (hk : k < l.length) (h : p l[k] = true) : l.any p = true := List.any_eq_true.2 ⟨_, List.getElem_mem hk, h⟩
set_option maxRecDepth 100000 in
theorem mb1_any (s : ByteArray) (w : World) : Calls Try.prog 88 #[.string s] w fun e w' => e = .returned (.bool (badS s)) ∧ w = w' := by
  have H := dsec_any s w
  have HR := Lib.hid (show (!decide (s.size = 128)) = badS s from rfl)
  obtain ⟨b, hb⟩ : ∃ b, b = decide (s.size = 128) := ⟨_, rfl⟩
  rw [← hb] at H HR
  have H := Lib.hid H
  clear hb
  cases b
  all_goals
    go_enter Try.func88, Try.ntmps88
    go_wp2_with fail
    refine H.out.mono ?_
    rintro e w' ⟨rfl, rfl⟩
    go_wp2_with fail
    go_ret
    exact ⟨dk_retB HR.out, rfl⟩
set_option maxRecDepth 100000 in
theorem mb2_any (X Q : Nat) (sa : Option Addr) (sn sc : Nat) (x : Wr) (w : World) (hq : w.cell? ⟨Q, 0, none⟩ = some (.pointer (some ⟨X, 0, none⟩))) (hx : w.cell? ⟨X, 0, none⟩ = some (.slice sa sn sc)) :
    Calls Try.prog 91 #[.agg #[.int .i64 x.1, .string x.2], .pointer (some ⟨Q, 0, none⟩)] w (RetBl (badW sn x) w) := by
  obtain ⟨at0, s⟩ := x
  obtain ⟨o1, ho1⟩ : ∃ o : Obj, o = .cells #[.int .i64 at0, .string s] 91 (0, 0) := ⟨_, rfl⟩
  have HB0 := Lib.hid ((Below.refl w.heap.size w).alloc (Nat.le_refl _) o1)
  have q0 : (w.alloc o1).cell? ⟨Q, 0, none⟩ = some (.pointer (some ⟨X, 0, none⟩)) := (HB0.out.cell (p := ⟨Q, 0, none⟩) (World.block_lt_of_cell? w _ hq)).trans hq
  have x0 : (w.alloc o1).cell? ⟨X, 0, none⟩ = some (.slice sa sn sc) := (HB0.out.cell (p := ⟨X, 0, none⟩) (World.block_lt_of_cell? w _ hx)).trans hx
  have H := dcheck_any X sa sn sc at0 s _ x0
  have HR := Lib.hid (show (dckE sn at0 s != 0) = badW sn (at0, s) from rfl)
  obtain ⟨z, hz⟩ : ∃ z, z = dckE sn at0 s := ⟨_, rfl⟩
  rw [← hz] at H HR
  have H := Lib.hid H
  clear hz x0 hx
  subst ho1
  go_enter Try.func91, Try.ntmps91
  go_wp2_with fail
  refine H.out.mono ?_
  rintro e w' ⟨rfl, rfl⟩
  go_wp2_with fail
  go_ret
  exact ⟨dk_retB HR.out, HB0.out⟩
set_option maxRecDepth 100000 in
set_option maxHeartbeats 1000000 in
theorem dix_st (A : Option Addr) (n c : Nat) (l : List ByteArray) (w : World) (h : RdX stC 1 w A n l) (hn : n ≤ 100000) :
    Calls Try.prog 107 #[.slice A n c, .func (.func 88) #[] #[]] w (IdxP (l.any badS) w) := by
  have H := Lib.hid h
  clear h
  go_enter Try.func107, Try.ntmps107
  go_wp2_with fail
  go_loopw [5, 8] (fun _ i wr => ∃ k : Nat, i = .int .i64 (k : Int) ∧ k ≤ n ∧ Hid ((l.take k).any badS = false) ∧ Below w.heap.size w wr) (fun _ i _ => n - (intOf i).toNat)
  case atStart => exact ⟨0, rfl, Nat.zero_le _, Lib.hid rfl, Below.refl _ _⟩
  case round =>
    obtain ⟨k, rfl, hk, HN, hb⟩ := hrel
    have HB := Lib.hid hb
    clear hb
    by_cases hlt : k < n
    · have hd1 : decide ((k : Int) < (n : Int)) = true := decide_eq_true (by omega)
      have hi0 : (0 : Int) ≤ (k : Int) := by omega
      obtain ⟨b, off, hl2, rfl, hbb, hcell⟩ := (H.out.below HB.out).at hlt
      have HT := Lib.hid (any_snocF badS l k hl2)
      have HA := Lib.hid (any_at badS l k hl2)
      obtain ⟨x, hx⟩ : ∃ x, x = l[k] := ⟨_, rfl⟩
      rw [← hx] at HT HA
      have c0 := hcell 0 (.string l[k]) rfl
      rw [← hx, Nat.mul_one, Nat.add_zero] at c0
      clear hcell hx
      obtain ⟨z, hz⟩ : ∃ z, z = badS x := ⟨_, rfl⟩
      rw [← hz] at HT HA
      have HC := of_same (mb1_any x wr)
      rw [← hz] at HC
      have HC := Lib.hid HC
      clear hz
      go_wp2_with fail
      refine HC.out.mono ?_
      rintro e w1 ⟨rfl, hb1⟩
      have HB1 := Lib.hid (HB.out.trans (hb1.mono HB.out.size))
      clear hb1
      cases z with
      | true =>
        go_wp2_with fail
        go_ret
        exact ⟨(k : Int), rfl, by rw [HA.out (by first | rfl | trivial)]; exact decide_eq_true (by omega), HB1.out⟩
      | false =>
        go_wp2_with fail
        go_roundw
        case rel => exact ⟨k + 1, by go_num, by omega, Lib.hid (by rw [HT.out, HN.out]; rfl), HB1.out⟩
        case measure => simp [intOf] <;> omega
    · have hd1 : decide ((k : Int) < (n : Int)) = false := decide_eq_false (by omega)
      have HE := Lib.hid (show l.take k = l from List.take_of_length_le (by have := H.out.1; omega))
      go_wp2_with fail
      go_ret
      exact ⟨-1, rfl, by rw [← HE.out, HN.out]; rfl, HB.out⟩
set_option maxRecDepth 100000 in
theorem dix_stC (A : Option Addr) (n c : Nat) (l : List ByteArray) (w : World) (h : RdX stC 1 w A n l) (hn : n ≤ 100000) :
    Calls Try.prog 87 #[.slice A n c, .func (.func 88) #[] #[]] w (RetBl (l.any badS) w) := by
  have HC := Lib.hid (dix_st A n c l w h hn)
  clear h
  go_enter Try.func87, Try.ntmps87
  go_wp2_with fail
  refine HC.out.mono ?_
  rintro e w1 ⟨r, rfl, hr, hb1⟩
  have HB1 := Lib.hid hb1
  have HR := Lib.hid hr
  clear hb1 hr
  go_wp2_with fail
  go_ret
  exact ⟨dk_retB HR.out, HB1.out⟩
set_option maxRecDepth 100000 in
set_option maxHeartbeats 1000000 in
theorem dix_wr (X Q : Nat) (sa : Option Addr) (sn sc : Nat) (A : Option Addr) (n c : Nat) (l : List Wr) (w : World) (h : RdX wrC 2 w A n l) (hn : n ≤ 100000) (hq : w.cell? ⟨Q, 0, none⟩ = some (.pointer (some ⟨X, 0, none⟩))) (hx : w.cell? ⟨X, 0, none⟩ = some (.slice sa sn sc)) :
    Calls Try.prog 108 #[.slice A n c, .func (.func 91) #[] #[.pointer (some ⟨Q, 0, none⟩)]] w (IdxP (l.any (badW sn)) w) := by
  have H := Lib.hid h
  have HQ := Lib.hid hq
  have HX := Lib.hid hx
  have hql := World.block_lt_of_cell? w _ hq
  have hxl := World.block_lt_of_cell? w _ hx
  clear hq hx
  clear h
  go_enter Try.func108, Try.ntmps108
  go_wp2_with fail
  go_loopw [5, 8] (fun _ i wr => ∃ k : Nat, i = .int .i64 (k : Int) ∧ k ≤ n ∧ Hid ((l.take k).any (badW sn) = false) ∧ Below w.heap.size w wr) (fun _ i _ => n - (intOf i).toNat)
  case atStart => exact ⟨0, rfl, Nat.zero_le _, Lib.hid rfl, Below.refl _ _⟩
  case round =>
    obtain ⟨k, rfl, hk, HN, hb⟩ := hrel
    have HB := Lib.hid hb
    clear hb
    by_cases hlt : k < n
    · have hd1 : decide ((k : Int) < (n : Int)) = true := decide_eq_true (by omega)
      have hi0 : (0 : Int) ≤ (k : Int) := by omega
      obtain ⟨b, off, hl2, rfl, hbb, hcell⟩ := (H.out.below HB.out).at hlt
      have HT := Lib.hid (any_snocF (badW sn) l k hl2)
      have HA := Lib.hid (any_at (badW sn) l k hl2)
      obtain ⟨x, hx⟩ : ∃ x, x = l[k] := ⟨_, rfl⟩
      rw [← hx] at HT HA
      have c0 := hcell 0 (.int .i64 l[k].1) rfl
      have c1 := hcell 1 (.string l[k].2) rfl
      rw [← hx] at c0 c1
      rw [Nat.add_zero] at c0
      clear hcell hx
      obtain ⟨z, hz⟩ : ∃ z, z = (badW sn) x := ⟨_, rfl⟩
      rw [← hz] at HT HA
      have HC := mb2_any X Q sa sn sc x wr ((HB.out.cell (p := ⟨Q, 0, none⟩) hql).trans HQ.out) ((HB.out.cell (p := ⟨X, 0, none⟩) hxl).trans HX.out)
      rw [← hz] at HC
      have HC := Lib.hid HC
      clear hz
      go_wp2_with fail
      refine HC.out.mono ?_
      rintro e w1 ⟨rfl, hb1⟩
      have HB1 := Lib.hid (HB.out.trans (hb1.mono HB.out.size))
      clear hb1
      cases z with
      | true =>
        go_wp2_with fail
        go_ret
        exact ⟨(k : Int), rfl, by rw [HA.out (by first | rfl | trivial)]; exact decide_eq_true (by omega), HB1.out⟩
      | false =>
        go_wp2_with fail
        go_roundw
        case rel => exact ⟨k + 1, by go_num, by omega, Lib.hid (by rw [HT.out, HN.out]; rfl), HB1.out⟩
        case measure => simp [intOf] <;> omega
    · have hd1 : decide ((k : Int) < (n : Int)) = false := decide_eq_false (by omega)
      have HE := Lib.hid (show l.take k = l from List.take_of_length_le (by have := H.out.1; omega))
      go_wp2_with fail
      go_ret
      exact ⟨-1, rfl, by rw [← HE.out, HN.out]; rfl, HB.out⟩
set_option maxRecDepth 100000 in
theorem dix_wrC (X Q : Nat) (sa : Option Addr) (sn sc : Nat) (A : Option Addr) (n c : Nat) (l : List Wr) (w : World) (h : RdX wrC 2 w A n l) (hn : n ≤ 100000) (hq : w.cell? ⟨Q, 0, none⟩ = some (.pointer (some ⟨X, 0, none⟩))) (hx : w.cell? ⟨X, 0, none⟩ = some (.slice sa sn sc)) :
    Calls Try.prog 90 #[.slice A n c, .func (.func 91) #[] #[.pointer (some ⟨Q, 0, none⟩)]] w (RetBl (l.any (badW sn)) w) := by
  have HC := Lib.hid (dix_wr X Q sa sn sc A n c l w h hn hq hx)
  clear h
  go_enter Try.func90, Try.ntmps90
  go_wp2_with fail
  refine HC.out.mono ?_
  rintro e w1 ⟨r, rfl, hr, hb1⟩
  have HB1 := Lib.hid hb1
  have HR := Lib.hid hr
  clear hb1 hr
  go_wp2_with fail
  go_ret
  exact ⟨dk_retB HR.out, HB1.out⟩
/-- may an image be? -/
def mayI (SS : List ByteArray) (CC : List Wr) : Bool := decide (16 ≤ (SS.length : Int) ∧ (SS.length : Int) ≤ 4096) && (!SS.any badS && (decide (CC.length ≤ 4096) && !CC.any (badW SS.length)))
set_option maxRecDepth 100000 in
set_option maxHeartbeats 1000000 in
theorem dmay_any (X : Nat) (sa : Option Addr) (sc : Nat) (ca : Option Addr) (cc : Nat) (SS : List ByteArray) (CC : List Wr) (w : World) (d0 : w.cell? ⟨X, 0, none⟩ = some (.slice sa SS.length sc)) (d1 : w.cell? ⟨X, 1, none⟩ = some (.slice ca CC.length cc)) (h2 : RdX stC 1 w sa SS.length SS) (h3 : RdX wrC 2 w ca CC.length CC) (hs : SS.length ≤ 100000) (hc : CC.length ≤ 100000) :
    Calls Try.prog 52 #[.pointer (some ⟨X, 0, none⟩)] w (RetBl (mayI SS CC) w) := by
  have hXl : X < w.heap.size := World.block_lt_of_cell? w _ d0
  have HB0 := Lib.hid ((Below.refl w.heap.size w).alloc (Nat.le_refl _) (.cells #[.pointer (some ⟨X, 0, none⟩)] 130 (0, 0)))
  have HQ0 := Lib.hid (blk_new w (.cells #[.pointer (some ⟨X, 0, none⟩)] 130 (0, 0)))
  have HD0 := Lib.hid d0
  have HD1 := Lib.hid d1
  have H2 := Lib.hid h2
  have H3 := Lib.hid h3
  obtain ⟨v, hv⟩ : ∃ v, v = w.alloc (.cells #[.pointer (some ⟨X, 0, none⟩)] 130 (0, 0)) := ⟨_, rfl⟩
  have HV := Lib.hid hv
  rw [← hv] at HB0 HQ0
  have HZ := Lib.hid (fun W : World => dsize_any (SS.length : Int) W)
  clear d0 d1 h2 h3 hv
  go_enter Try.func52, Try.ntmps52
  go_upto_region 1 with (fail)
  rw [← HV.out]
  have q0 : v.cell? ⟨w.heap.size, 0, none⟩ = some (.pointer (some ⟨X, 0, none⟩)) := (cell_of_row _ _ 0 _ _ _ HQ0.out).trans rfl
  have x0 : v.cell? ⟨X, 0, none⟩ = some (.slice sa SS.length sc) := (HB0.out.cell (p := ⟨X, 0, none⟩) hXl).trans HD0.out
  have x1 : v.cell? ⟨X, 1, none⟩ = some (.slice ca CC.length cc) := (HB0.out.cell (p := ⟨X, 1, none⟩) hXl).trans HD1.out
  cases hA : decide (16 ≤ (SS.length : Int) ∧ (SS.length : Int) ≤ 4096) with
  | false =>
    have HR := Lib.hid (show false = mayI SS CC by unfold mayI; rw [hA]; rfl)
    rw [hA] at HZ
    clear hA
    go_wp2_with fail
    refine (HZ.out _).mono ?_
    rintro e w' ⟨rfl, rfl⟩
    go_wp2_with fail
    go_ret
    exact ⟨dk_retB HR.out, HB0.out⟩
  | true =>
    rw [hA] at HZ
    have HA := Lib.hid hA
    have HC := Lib.hid (dix_stC sa SS.length sc SS v (H2.out.below HB0.out) hs)
    clear hA
    go_wp2_with fail
    refine (HZ.out _).mono ?_
    rintro e w' ⟨rfl, rfl⟩
    go_wp2_with fail
    refine HC.out.mono ?_
    rintro e w1 ⟨rfl, hb1⟩
    have HB1 := Lib.hid (HB0.out.trans (hb1.mono HB0.out.size))
    have HQ1 := Lib.hid (blk_below HQ0.out hb1)
    clear hb1 q0 x0 x1
    have q0 : w1.cell? ⟨w.heap.size, 0, none⟩ = some (.pointer (some ⟨X, 0, none⟩)) := (cell_of_row _ _ 0 _ _ _ HQ1.out).trans rfl
    have x0 : w1.cell? ⟨X, 0, none⟩ = some (.slice sa SS.length sc) := (HB1.out.cell (p := ⟨X, 0, none⟩) hXl).trans HD0.out
    have x1 : w1.cell? ⟨X, 1, none⟩ = some (.slice ca CC.length cc) := (HB1.out.cell (p := ⟨X, 1, none⟩) hXl).trans HD1.out
    obtain ⟨b, hb⟩ : ∃ b, b = SS.any badS := ⟨_, rfl⟩
    rw [← hb]
    cases b with
    | true =>
      have HR := Lib.hid (show false = mayI SS CC by unfold mayI; rw [HA.out, ← hb]; rfl)
      clear hb
      go_wp2_with fail
      go_ret
      exact ⟨dk_retB HR.out, HB1.out⟩
    | false =>
      by_cases hl : CC.length ≤ 4096
      rotate_left
      · have d5 : decide ((CC.length : Int) > 4096) = true := decide_eq_true (by omega)
        have d6 : decide ((4096 : Int) < (CC.length : Int)) = true := decide_eq_true (by omega)
        have HR := Lib.hid (show false = mayI SS CC by unfold mayI; rw [HA.out, ← hb, decide_eq_false hl]; rfl)
        clear hb hl
        go_wp2_with fail
        go_ret
        exact ⟨dk_retB HR.out, HB1.out⟩
      · have d5 : decide ((CC.length : Int) > 4096) = false := decide_eq_false (by omega)
        have d6 : decide ((4096 : Int) < (CC.length : Int)) = false := decide_eq_false (by omega)
        have HR := Lib.hid (show (!CC.any (badW SS.length)) = mayI SS CC by unfold mayI; rw [HA.out, ← hb, decide_eq_true hl]; rfl)
        have HC2 := Lib.hid (dix_wrC X w.heap.size sa SS.length sc ca CC.length cc CC w1 (H3.out.below HB1.out) hc q0 x0)
        clear hb hl
        go_wp2_with fail
        refine HC2.out.mono ?_
        rintro e w2 ⟨rfl, hb2⟩
        have HB2 := Lib.hid (HB1.out.trans (hb2.mono HB1.out.size))
        clear hb2
        obtain ⟨b, hb⟩ : ∃ b, b = CC.any (badW SS.length) := ⟨_, rfl⟩
        rw [← hb] at HR ⊢
        clear hb
        cases b
        all_goals
          go_wp2_with fail
          go_ret
          exact ⟨dk_retB HR.out, HB2.out⟩
end Go.Proofs.Ytiagbadnmkeokaa

namespace Go.Proofs.Ytiagbadnmkeokaa
open Go.RowKit Vi

theorem mayI_ok {SS : List ByteArray} {CC : List Wr} (h : mayI SS CC = true) : ∀ x ∈ CC, 0 ≤ x.1 ∧ x.1 < (SS.length : Int) ∧ x.2.size = 128 := by
  intro x hx
  unfold mayI at h
  simp only [Bool.and_eq_true, Bool.not_eq_true'] at h
  have h4 := h.2.2.2
  have h5 : badW SS.length x = false := by
    cases q : badW SS.length x with
    | false => rfl
    | true => rw [List.any_eq_true.2 ⟨x, hx, q⟩] at h4; cases h4
  unfold badW at h5
  exact dck_ok (by simpa using h5)
/-- a disk that has just been made -/
def NewD (SS : List ByteArray) (CC : List Wr) (w : World) (e : Ending) (w' : World) : Prop := ∃ D, e = .returned (.tuple #[.pointer (some ⟨D, 0, none⟩), .int .i64 0]) ∧ DK D SS CC false 0 0 w' ∧ (∀ b, InD D w' b → w.heap.size ≤ b) ∧ Below w.heap.size w w'
def NoD (w : World) (e : Ending) (w' : World) : Prop := e = .returned (.tuple #[.pointer none, .int .i64 2]) ∧ Below w.heap.size w w'
theorem own_ge {α : Type} {f : α → List Value} {s : Nat} {T : TypeId} {w : World} {B g o n c : Nat} {l : List α} (h : OwX f s T w B (.slice (some ⟨g, o, none⟩) n c) l) : B ≤ g := by
  rcases h.2 with ⟨e, _⟩ | ⟨g', cap, cur, e, hb, h4, _⟩
  · cases e
  · injection e with e _ _
    injection e with e
    injection e with e _ _
    subst e
    exact hb
def LoadR (b : Bool) (SS : List ByteArray) (CC : List Wr) (w : World) (e : Ending) (w' : World) : Prop := (b = true → NewD SS CC w e w') ∧ (b = false → NoD w e w')
set_option maxRecDepth 100000 in
set_option maxHeartbeats 2000000 in
theorem dload_any (A : Option Addr) (c : Nat) (A2 : Option Addr) (c2 : Nat) (SS : List ByteArray) (CC : List Wr) (w : World) (h2 : RdX stC 1 w A SS.length SS) (h3 : RdX wrC 2 w A2 CC.length CC) (hs : SS.length ≤ 100000) (hc : CC.length ≤ 100000) (b : Bool) (hb : b = mayI SS CC) :
    Calls Try.prog 16 #[.agg #[.slice A SS.length c, .slice A2 CC.length c2]] w (LoadR b SS CC w) := by
  obtain ⟨o1, ho1⟩ : ∃ o : Obj, o = .cells #[.slice A SS.length c, .slice A2 CC.length c2] 32 (0, 0) := ⟨_, rfl⟩
  obtain ⟨o2, ho2⟩ : ∃ o : Obj, o = .cells #[.slice A SS.length c, .slice A2 CC.length c2] 54 (0, 0) := ⟨_, rfl⟩
  have HB0 := Lib.hid (((Below.refl w.heap.size w).alloc (Nat.le_refl _) o1).alloc (by simp) o2)
  have HX0 : Hid (((w.alloc o1).alloc o2).heap[w.heap.size + 1]? = some o2) := Lib.hid (two_blk w o1 o2)
  have H2 := Lib.hid h2
  have H3 := Lib.hid h3
  have HOK := Lib.hid (fun q : b = true => mayI_ok (hb.symm.trans q))
  subst ho2
  have HM := Lib.hid (dmay_any (w.heap.size + 1) A c A2 c2 SS CC _ ((cell_of_row _ _ 0 _ _ _ HX0.out).trans rfl) ((cell_of_row _ _ 1 _ _ _ HX0.out).trans rfl) (h2.below HB0.out) (h3.below HB0.out) hs hc)
  rw [← hb] at HM
  clear h2 h3 hb
  subst ho1
  go_enter Try.func16, Try.ntmps16
  go_wp2_with fail
  refine HM.out.mono ?_
  rintro e w1 ⟨rfl, hb1⟩
  have HB1 := Lib.hid (HB0.out.trans (hb1.mono HB0.out.size))
  have HX1 := Lib.hid (blk_below HX0.out hb1)
  have H21 := Lib.hid (H2.out.below HB1.out)
  have H31 := Lib.hid (H3.out.below HB1.out)
  clear hb1
  cases b with
  | false =>
    go_wp2_with fail
    go_ret2
    exact ⟨(fun q => by cases q), fun _ => ⟨rfl, HB1.out⟩⟩
  | true =>
    have HC := Lib.hid (dcopy_any (w.heap.size + 1) A SS.length c A2 CC.length c2 SS CC w1 ((cell_of_row _ _ 0 _ _ _ HX1.out).trans rfl) ((cell_of_row _ _ 1 _ _ _ HX1.out).trans rfl) H21.out H31.out hs hc)
    go_wp2_with fail
    refine HC.out.mono ?_
    rintro e w2 ⟨B1, n1, k1, B2, n2, k2, rfl, ho1, ho2, hb⟩
    have HO1 := Lib.hid ho1
    have HO2 := Lib.hid ho2
    have HB2 := Lib.hid (HB1.out.trans (hb.mono HB1.out.size))
    clear ho1 ho2 hb
    go_wp2_with fail
    have HD : Hid ((w2.alloc (dkO B1 n1 k1 B2 n2 k2 true false 0 0)).heap[w2.heap.size]? = some (dkO B1 n1 k1 B2 n2 k2 true false 0 0)) := Lib.hid (blk_new w2 _)
    have hz := HB1.out.size
    have hz2 := HB2.out.size
    go_ret2
    exact ⟨fun _ => ⟨w2.heap.size, rfl, ⟨⟨B1, n1, k1, B2, n2, k2, HD.out, (HO1.out.alloc _).mono (Nat.zero_le _), (HO2.out.alloc _).mono (Nat.zero_le _)⟩, HOK.out (by first | rfl | trivial)⟩, fun b q => by
      rcases q.cases HD.out with q | ⟨o, q⟩ | ⟨o, q⟩
      · subst q; exact hz2
      · subst q; have := own_ge HO1.out; omega
      · subst q; have := own_ge HO2.out; omega, HB2.out.alloc hz2 _⟩, (fun q => by cases q)⟩
end Go.Proofs.Ytiagbadnmkeokaa
