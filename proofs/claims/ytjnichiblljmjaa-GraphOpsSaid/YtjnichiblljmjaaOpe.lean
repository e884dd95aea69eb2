/- Ops: Turn and FewOps; the chapter example of layer 26. Conditions: texts that are no longer than a text may be. -/
import Derived.Test.YtjnichiblljmjaaOpb
import Derived.Test.YtjnichiblljmjaaElu
import Derived.Test.YtjnichiblljmjaaOpa
import Derived.Laws.Rows
import Derived.Test.YtjnichiblljmjaaOpc
import Derived.Test.YtjnichiblljmjaaOpg
import Derived.Test.YtjnichiblljmjaaTq
import Derived.Maps.Own
import Derived.StringKeys
import Derived.Deep.DeepCutAuto
namespace Go.Proofs.Ytjnichiblljmjaa
open Go.RowKit Vi

/-- properties that a value reads as -/
def PV (w : World) (v : Value) (L : List Pr) : Prop := ∃ (a : Option Addr) (c : Nat), v = .slice a L.length c ∧ RdX prC 4 w a L.length L ∧ L.length ≤ c ∧ c ≤ maxLen
theorem PV.later {w w' : World} {v : Value} {L : List Pr} (h : PV w v L) (hb : Below w.heap.size w w') : PV w' v L := by
  obtain ⟨a, c, e, r, q⟩ := h
  exact ⟨a, c, e, r.below hb, q⟩
theorem PV.own {w : World} {B : Nat} {v : Value} {L : List Pr} (h : OwX prC 4 139 w B v L) : PV w v L := h.rd prC_len
theorem PV.nil (w : World) : PV w (.slice none 0 0) [] := ⟨none, 0, rfl, RdX.nil, Nat.le_refl _, Nat.zero_le _⟩
theorem TS.laterT {w w' : World} {v : Value} {L : List ByteArray} (h : TS w v L) (hb : Below w.heap.size w w') : TS w' v L := by
  obtain ⟨a, c, e, r, q⟩ := h
  exact ⟨a, c, e, r.later hb, q⟩
set_option maxRecDepth 100000 in
set_option maxHeartbeats 800000 in
theorem pclone_any (A : Option Addr) (n c : Nat) (ps : List Pr) (w : World) (h : RdX prC 4 w A n ps) (hn : n ≤ 100000) :
    Calls Try.prog 95 #[.slice A n c] w (RetP0 w ps) := by
  have q24 : ∀ (w : World) (a : Option Addr) (n c n' c' : Nat), (binOp .eql 43 (.slice a n c) (.slice none n' c')).run Try.prog w = .ok (.bool a.isNone) w := fun w a n c n' c' => Lib.run_eql_slice_nil w _ _ a n c n' c' Try.underlying43
  have H := Lib.hid h
  rcases A with _ | ad
  · have h0 : ps = [] := by
      rcases Nat.eq_zero_or_pos n with h0 | h0
      · exact List.length_eq_zero_iff.1 (by rw [h.1]; exact h0)
      · obtain ⟨b, off, e, _⟩ := h.2 h0
        cases e
    subst h0
    clear h
    go_enter Try.func95, Try.ntmps95
    go_wp2
    go_ret
    exact ⟨_, rfl, OwX.nil w, Below.refl _ _⟩
  · clear h
    go_enter Try.func95, Try.ntmps95
    go_wp2_with (at_builtin; refine wpList_appXs rfl _ _ 43 139 _ 48 rfl Try.underlying43 info_prB rfl (by omega) (by omega) prC_len prC_one w.heap.size w ((Below.refl _ w).alloc (Nat.le_refl _) _) (by simp) _ [] rfl (OwX.zero (blk_new w _) (Nat.le_refl _) (Nat.zero_le _) rfl) (some ad) n c ps rfl (H.out.below ((Below.refl _ w).alloc (Nat.le_refl _) _)) (by simp; omega) ?_)
    intro v1 w1 HO HB HZ HG
    have hv1 := HO.out.one
    go_wp2_with fail
    go_ret
    exact ⟨v1, rfl, HO.out, HB.out⟩
/-- what Turn makes -/
def TurnP (SS : List ByteArray) (PS : List Pr) (z : Int) (w : World) (e : Ending) (w' : World) : Prop := ∃ v1 v2, e = .returned (.tuple #[v1, v2, .int .i64 z]) ∧ TS w' v1 SS ∧ PV w' v2 PS ∧ Below w.heap.size w w'
/-- labels and properties that rise, few of them, as a walk wants them -/
structure RsOk (n c : Nat) (ss : List ByteArray) (n2 c2 : Nat) (ps : List Pr) : Prop where
  ln : n ≤ 8
  ln2 : n2 ≤ 8
  lc : n ≤ c
  cm : c ≤ maxLen
  lc2 : n2 ≤ c2
  cm2 : c2 ≤ maxLen
  r : Rise ss
  rp : Rise (keysP ps)
theorem RsOk.of {n c : Nat} {ss : List ByteArray} {n2 c2 : Nat} {ps : List Pr} (h : rsW ss ps = 0) (h1 : ss.length = n) (h2 : ps.length = n2) (hc : n ≤ c ∧ c ≤ maxLen) (hc2 : n2 ≤ c2 ∧ c2 ≤ maxLen) : RsOk n c ss n2 c2 ps := by
  obtain ⟨q1, q2, q3, q4⟩ := rs_zero h
  exact ⟨by omega, by omega, hc.1, hc.2, hc2.1, hc2.2, (row0_ok ss q2).2, prE_rise q4⟩
def errs2 (z : Int) {α : Type} (L : List α) : List α := if z = 0 then L else []
set_option maxRecDepth 100000 in
set_option maxHeartbeats 4000000 in
theorem gturn_5 (A A2 : Option Addr) (n c n2 c2 : Nat) (ss : List ByteArray) (ps : List Pr) (i f g y : ByteArray) (a d : Int) (t : ByteArray) (w : World) (h : LP w A n ss A2 n2 ps) (k : RsOk n c ss n2 c2 ps) (hy : y.size ≤ maxLen) :
    Calls Try.prog 50 #[.slice A n c, .slice A2 n2 c2, .agg #[.int .i64 5, .string i, .string f, .string g, .string y, .int .i64 a, .int .i64 d, .string t]] w (TurnP (errs2 (lbE ss y) (lbV ss y)) (errs2 (lbE ss y) (ps)) (lbE ss y) w) := by
  have H := Lib.hid h
  have K := Lib.hid k
  have hn := k.ln
  have hn2 := k.ln2
  have HTS : Hid (∀ W, LP W A n ss A2 n2 ps → TS W (.slice A n c) ss) := Lib.hid fun W q => ⟨A, c, by rw [q.l.1], by rw [q.l.1]; exact q.l, by rw [q.l.1]; exact K.out.lc, K.out.cm⟩
  have HPV : Hid (∀ W, LP W A n ss A2 n2 ps → PV W (.slice A2 n2 c2) ps) := Lib.hid fun W q => ⟨A2, c2, by rw [q.p.1], by rw [q.p.1]; exact q.p, by rw [q.p.1]; exact K.out.lc2, K.out.cm2⟩
  clear h k
  have HC := Lib.hid (fun (W : World) (q1 : SlN W A n ss) (q2 : RdX prC 4 W A2 n2 ps) => elabel_any A n c ss y W q1 (by omega) K.out.lc K.out.r hy)
  generalize lbE ss y = z at *
  generalize lbV ss y = V at *
  have HB1 := Lib.hid (Below.refl w.heap.size w)
  go_enter Try.func50, Try.ntmps50
  have HF2 := Lib.hid (blk_new w (.cells #[.int .i64 5, .string i, .string f, .string g, .string y, .int .i64 a, .int .i64 d, .string t] 85 (0, 0)))
  have HB3 := Lib.hid (HB1.out.alloc HB1.out.size (.cells #[.int .i64 5, .string i, .string f, .string g, .string y, .int .i64 a, .int .i64 d, .string t] 85 (0, 0)))
  clear HB1
  go_wp2_with fail
  refine (clone_any A n c ss (w.alloc (.cells #[.int .i64 5, .string i, .string f, .string g, .string y, .int .i64 a, .int .i64 d, .string t] 85 (0, 0))) (H.out.below HB3.out).l (by omega)).mono ?_
  rintro e w1 ⟨v1, rfl, ht, hb1⟩
  have HF4 := Lib.hid (blk_below HF2.out hb1)
  have HB5 := Lib.hid (HB3.out.trans (hb1.mono (by have := HB3.out.size; simp at this ⊢ <;> omega)))
  clear hb1 HB3 HF2
  have HT1 := Lib.hid ht
  clear ht
  go_wp2_with fail
  refine (pclone_any A2 n2 c2 ps w1 (H.out.below HB5.out).p (by omega)).mono ?_
  rintro e w2 ⟨v2, rfl, hx, hb2⟩
  have HF6 := Lib.hid (blk_below HF4.out hb2)
  have HB7 := Lib.hid (HB5.out.trans (hb2.mono (by have := HB5.out.size; simp at this ⊢ <;> omega)))
  have HT2 := Lib.hid (HT1.out.laterT hb2)
  clear hb2 HB5 HF4
  have HX2 := Lib.hid (PV.own hx)
  clear hx HT1
  have hc8 : w2.cell? ⟨w.heap.size, 0, none⟩ = some (.int .i64 5) := by rw [cell_of_row _ _ _ _ _ _ HF6.out]; rfl
  have hc9 : w2.cell? ⟨w.heap.size, 4, none⟩ = some (.string y) := by rw [cell_of_row _ _ _ _ _ _ HF6.out]; rfl
  go_wp2_with fail
  clear hc8 hc9
  refine (HC.out w2 (H.out.below HB7.out).l (H.out.below HB7.out).p).mono ?_
  rintro e w3 ⟨v3, rfl, hx, hb3⟩
  have HF10 := Lib.hid (blk_below HF6.out hb3)
  have HB11 := Lib.hid (HB7.out.trans (hb3.mono (by have := HB7.out.size; simp at this ⊢ <;> omega)))
  have HT3 := Lib.hid (HT2.out.laterT hb3)
  have HX3 := Lib.hid (HX2.out.later hb3)
  clear hb3 HB7 HF6
  have HR3 := Lib.hid hx
  clear hx
  clear HT2 HX2
  by_cases hz : z = 0
  · subst hz
    go_wp2_with fail
    go_ret3
    exact ⟨v3, v2, rfl, by unfold errs2; rw [if_pos rfl]; exact HR3.out, by unfold errs2; rw [if_pos rfl]; exact HX3.out, HB11.out⟩
  · have hz1 : (z != 0) = true := by simpa using hz
    have HZ := Lib.hid hz
    clear hz
    go_wp2_with fail
    go_ret3
    exact ⟨.slice none 0 0, .slice none 0 0, rfl, by unfold errs2; rw [if_neg HZ.out]; exact TS.nil _, by unfold errs2; rw [if_neg HZ.out]; exact PV.nil _, HB11.out⟩
set_option maxRecDepth 100000 in
set_option maxHeartbeats 4000000 in
theorem gturn_7 (A A2 : Option Addr) (n c n2 c2 : Nat) (ss : List ByteArray) (ps : List Pr) (i f g y : ByteArray) (a d : Int) (t : ByteArray) (w : World) (h : LP w A n ss A2 n2 ps) (k : RsOk n c ss n2 c2 ps) (hy : y.size ≤ maxLen) :
    Calls Try.prog 50 #[.slice A n c, .slice A2 n2 c2, .agg #[.int .i64 7, .string i, .string f, .string g, .string y, .int .i64 a, .int .i64 d, .string t]] w (TurnP (errs2 (lbE ss y) (lbV ss y)) (errs2 (lbE ss y) (ps)) (lbE ss y) w) := by
  have H := Lib.hid h
  have K := Lib.hid k
  have hn := k.ln
  have hn2 := k.ln2
  have HTS : Hid (∀ W, LP W A n ss A2 n2 ps → TS W (.slice A n c) ss) := Lib.hid fun W q => ⟨A, c, by rw [q.l.1], by rw [q.l.1]; exact q.l, by rw [q.l.1]; exact K.out.lc, K.out.cm⟩
  have HPV : Hid (∀ W, LP W A n ss A2 n2 ps → PV W (.slice A2 n2 c2) ps) := Lib.hid fun W q => ⟨A2, c2, by rw [q.p.1], by rw [q.p.1]; exact q.p, by rw [q.p.1]; exact K.out.lc2, K.out.cm2⟩
  clear h k
  have HC := Lib.hid (fun (W : World) (q1 : SlN W A n ss) (q2 : RdX prC 4 W A2 n2 ps) => elabel_any A n c ss y W q1 (by omega) K.out.lc K.out.r hy)
  generalize lbE ss y = z at *
  generalize lbV ss y = V at *
  have HB1 := Lib.hid (Below.refl w.heap.size w)
  go_enter Try.func50, Try.ntmps50
  have HF2 := Lib.hid (blk_new w (.cells #[.int .i64 7, .string i, .string f, .string g, .string y, .int .i64 a, .int .i64 d, .string t] 85 (0, 0)))
  have HB3 := Lib.hid (HB1.out.alloc HB1.out.size (.cells #[.int .i64 7, .string i, .string f, .string g, .string y, .int .i64 a, .int .i64 d, .string t] 85 (0, 0)))
  clear HB1
  go_wp2_with fail
  refine (clone_any A n c ss (w.alloc (.cells #[.int .i64 7, .string i, .string f, .string g, .string y, .int .i64 a, .int .i64 d, .string t] 85 (0, 0))) (H.out.below HB3.out).l (by omega)).mono ?_
  rintro e w1 ⟨v1, rfl, ht, hb1⟩
  have HF4 := Lib.hid (blk_below HF2.out hb1)
  have HB5 := Lib.hid (HB3.out.trans (hb1.mono (by have := HB3.out.size; simp at this ⊢ <;> omega)))
  clear hb1 HB3 HF2
  have HT1 := Lib.hid ht
  clear ht
  go_wp2_with fail
  refine (pclone_any A2 n2 c2 ps w1 (H.out.below HB5.out).p (by omega)).mono ?_
  rintro e w2 ⟨v2, rfl, hx, hb2⟩
  have HF6 := Lib.hid (blk_below HF4.out hb2)
  have HB7 := Lib.hid (HB5.out.trans (hb2.mono (by have := HB5.out.size; simp at this ⊢ <;> omega)))
  have HT2 := Lib.hid (HT1.out.laterT hb2)
  clear hb2 HB5 HF4
  have HX2 := Lib.hid (PV.own hx)
  clear hx HT1
  have hc8 : w2.cell? ⟨w.heap.size, 0, none⟩ = some (.int .i64 7) := by rw [cell_of_row _ _ _ _ _ _ HF6.out]; rfl
  have hc9 : w2.cell? ⟨w.heap.size, 4, none⟩ = some (.string y) := by rw [cell_of_row _ _ _ _ _ _ HF6.out]; rfl
  go_wp2_with fail
  clear hc8 hc9
  refine (HC.out w2 (H.out.below HB7.out).l (H.out.below HB7.out).p).mono ?_
  rintro e w3 ⟨v3, rfl, hx, hb3⟩
  have HF10 := Lib.hid (blk_below HF6.out hb3)
  have HB11 := Lib.hid (HB7.out.trans (hb3.mono (by have := HB7.out.size; simp at this ⊢ <;> omega)))
  have HT3 := Lib.hid (HT2.out.laterT hb3)
  have HX3 := Lib.hid (HX2.out.later hb3)
  clear hb3 HB7 HF6
  have HR3 := Lib.hid hx
  clear hx
  clear HT2 HX2
  by_cases hz : z = 0
  · subst hz
    go_wp2_with fail
    go_ret3
    exact ⟨v3, v2, rfl, by unfold errs2; rw [if_pos rfl]; exact HR3.out, by unfold errs2; rw [if_pos rfl]; exact HX3.out, HB11.out⟩
  · have hz1 : (z != 0) = true := by simpa using hz
    have HZ := Lib.hid hz
    clear hz
    go_wp2_with fail
    go_ret3
    exact ⟨.slice none 0 0, .slice none 0 0, rfl, by unfold errs2; rw [if_neg HZ.out]; exact TS.nil _, by unfold errs2; rw [if_neg HZ.out]; exact PV.nil _, HB11.out⟩
set_option maxRecDepth 100000 in
set_option maxHeartbeats 4000000 in
theorem rturn_5 (A A2 : Option Addr) (n c n2 c2 : Nat) (ss : List ByteArray) (ps : List Pr) (i f g y : ByteArray) (a d : Int) (t : ByteArray) (w : World) (h : LP w A n ss A2 n2 ps) (k : RsOk n c ss n2 c2 ps) (hy : y.size ≤ maxLen) :
    Calls Try.prog 51 #[.slice A n c, .slice A2 n2 c2, .agg #[.int .i64 5, .string i, .string f, .string g, .string y, .int .i64 a, .int .i64 d, .string t]] w (TurnP (errs2 (lbE ss y) (lbV ss y)) (errs2 (lbE ss y) (ps)) (lbE ss y) w) := by
  have H := Lib.hid h
  have K := Lib.hid k
  have hn := k.ln
  have hn2 := k.ln2
  have HTS : Hid (∀ W, LP W A n ss A2 n2 ps → TS W (.slice A n c) ss) := Lib.hid fun W q => ⟨A, c, by rw [q.l.1], by rw [q.l.1]; exact q.l, by rw [q.l.1]; exact K.out.lc, K.out.cm⟩
  have HPV : Hid (∀ W, LP W A n ss A2 n2 ps → PV W (.slice A2 n2 c2) ps) := Lib.hid fun W q => ⟨A2, c2, by rw [q.p.1], by rw [q.p.1]; exact q.p, by rw [q.p.1]; exact K.out.lc2, K.out.cm2⟩
  clear h k
  have HC := Lib.hid (fun (W : World) (q1 : SlN W A n ss) (q2 : RdX prC 4 W A2 n2 ps) => rlabel_any A n c ss y W q1 (by omega) K.out.lc K.out.cm hy)
  generalize lbE ss y = z at *
  generalize lbV ss y = V at *
  have HB1 := Lib.hid (Below.refl w.heap.size w)
  go_enter Try.func51, Try.ntmps51
  have HF2 := Lib.hid (blk_new w (.cells #[.int .i64 5, .string i, .string f, .string g, .string y, .int .i64 a, .int .i64 d, .string t] 85 (0, 0)))
  have HB3 := Lib.hid (HB1.out.alloc HB1.out.size (.cells #[.int .i64 5, .string i, .string f, .string g, .string y, .int .i64 a, .int .i64 d, .string t] 85 (0, 0)))
  clear HB1
  go_wp2_with fail
  have hc4 : (w.alloc (.cells #[.int .i64 5, .string i, .string f, .string g, .string y, .int .i64 a, .int .i64 d, .string t] 85 (0, 0))).cell? ⟨w.heap.size, 0, none⟩ = some (.int .i64 5) := by rw [cell_of_row _ _ _ _ _ _ HF2.out]; rfl
  have hc5 : (w.alloc (.cells #[.int .i64 5, .string i, .string f, .string g, .string y, .int .i64 a, .int .i64 d, .string t] 85 (0, 0))).cell? ⟨w.heap.size, 4, none⟩ = some (.string y) := by rw [cell_of_row _ _ _ _ _ _ HF2.out]; rfl
  go_wp2_with fail
  clear hc4 hc5
  refine (HC.out (w.alloc (.cells #[.int .i64 5, .string i, .string f, .string g, .string y, .int .i64 a, .int .i64 d, .string t] 85 (0, 0))) (H.out.below HB3.out).l (H.out.below HB3.out).p).mono ?_
  rintro e w1 ⟨v3, rfl, hx, hb1⟩
  have HF6 := Lib.hid (blk_below HF2.out hb1)
  have HB7 := Lib.hid (HB3.out.trans (hb1.mono (by have := HB3.out.size; simp at this ⊢ <;> omega)))
  clear hb1 HB3 HF2
  have HR3 := Lib.hid hx
  clear hx
  have HT3 := Lib.hid (HTS.out _ (H.out.below HB7.out))
  have HX3 := Lib.hid (HPV.out _ (H.out.below HB7.out))
  by_cases hz : z = 0
  · subst hz
    have hc8 : w1.cell? ⟨w.heap.size, 0, none⟩ = some (.int .i64 5) := by rw [cell_of_row _ _ _ _ _ _ HF6.out]; rfl
    go_wp2_with fail
    go_ret3
    exact ⟨v3, (.slice A2 n2 c2), rfl, by unfold errs2; rw [if_pos rfl]; exact HR3.out, by unfold errs2; rw [if_pos rfl]; exact HX3.out, HB7.out⟩
  · have hz1 : (z != 0) = true := by simpa using hz
    have HZ := Lib.hid hz
    clear hz
    have hc8 : w1.cell? ⟨w.heap.size, 0, none⟩ = some (.int .i64 5) := by rw [cell_of_row _ _ _ _ _ _ HF6.out]; rfl
    go_wp2_with fail
    go_ret3
    exact ⟨.slice none 0 0, .slice none 0 0, rfl, by unfold errs2; rw [if_neg HZ.out]; exact TS.nil _, by unfold errs2; rw [if_neg HZ.out]; exact PV.nil _, HB7.out⟩
set_option maxRecDepth 100000 in
set_option maxHeartbeats 4000000 in
theorem rturn_7 (A A2 : Option Addr) (n c n2 c2 : Nat) (ss : List ByteArray) (ps : List Pr) (i f g y : ByteArray) (a d : Int) (t : ByteArray) (w : World) (h : LP w A n ss A2 n2 ps) (k : RsOk n c ss n2 c2 ps) (hy : y.size ≤ maxLen) :
    Calls Try.prog 51 #[.slice A n c, .slice A2 n2 c2, .agg #[.int .i64 7, .string i, .string f, .string g, .string y, .int .i64 a, .int .i64 d, .string t]] w (TurnP (errs2 (lbE ss y) (lbV ss y)) (errs2 (lbE ss y) (ps)) (lbE ss y) w) := by
  have H := Lib.hid h
  have K := Lib.hid k
  have hn := k.ln
  have hn2 := k.ln2
  have HTS : Hid (∀ W, LP W A n ss A2 n2 ps → TS W (.slice A n c) ss) := Lib.hid fun W q => ⟨A, c, by rw [q.l.1], by rw [q.l.1]; exact q.l, by rw [q.l.1]; exact K.out.lc, K.out.cm⟩
  have HPV : Hid (∀ W, LP W A n ss A2 n2 ps → PV W (.slice A2 n2 c2) ps) := Lib.hid fun W q => ⟨A2, c2, by rw [q.p.1], by rw [q.p.1]; exact q.p, by rw [q.p.1]; exact K.out.lc2, K.out.cm2⟩
  clear h k
  have HC := Lib.hid (fun (W : World) (q1 : SlN W A n ss) (q2 : RdX prC 4 W A2 n2 ps) => rlabel_any A n c ss y W q1 (by omega) K.out.lc K.out.cm hy)
  generalize lbE ss y = z at *
  generalize lbV ss y = V at *
  have HB1 := Lib.hid (Below.refl w.heap.size w)
  go_enter Try.func51, Try.ntmps51
  have HF2 := Lib.hid (blk_new w (.cells #[.int .i64 7, .string i, .string f, .string g, .string y, .int .i64 a, .int .i64 d, .string t] 85 (0, 0)))
  have HB3 := Lib.hid (HB1.out.alloc HB1.out.size (.cells #[.int .i64 7, .string i, .string f, .string g, .string y, .int .i64 a, .int .i64 d, .string t] 85 (0, 0)))
  clear HB1
  go_wp2_with fail
  have hc4 : (w.alloc (.cells #[.int .i64 7, .string i, .string f, .string g, .string y, .int .i64 a, .int .i64 d, .string t] 85 (0, 0))).cell? ⟨w.heap.size, 0, none⟩ = some (.int .i64 7) := by rw [cell_of_row _ _ _ _ _ _ HF2.out]; rfl
  have hc5 : (w.alloc (.cells #[.int .i64 7, .string i, .string f, .string g, .string y, .int .i64 a, .int .i64 d, .string t] 85 (0, 0))).cell? ⟨w.heap.size, 4, none⟩ = some (.string y) := by rw [cell_of_row _ _ _ _ _ _ HF2.out]; rfl
  go_wp2_with fail
  clear hc4 hc5
  refine (HC.out (w.alloc (.cells #[.int .i64 7, .string i, .string f, .string g, .string y, .int .i64 a, .int .i64 d, .string t] 85 (0, 0))) (H.out.below HB3.out).l (H.out.below HB3.out).p).mono ?_
  rintro e w1 ⟨v3, rfl, hx, hb1⟩
  have HF6 := Lib.hid (blk_below HF2.out hb1)
  have HB7 := Lib.hid (HB3.out.trans (hb1.mono (by have := HB3.out.size; simp at this ⊢ <;> omega)))
  clear hb1 HB3 HF2
  have HR3 := Lib.hid hx
  clear hx
  have HT3 := Lib.hid (HTS.out _ (H.out.below HB7.out))
  have HX3 := Lib.hid (HPV.out _ (H.out.below HB7.out))
  by_cases hz : z = 0
  · subst hz
    have hc8 : w1.cell? ⟨w.heap.size, 0, none⟩ = some (.int .i64 7) := by rw [cell_of_row _ _ _ _ _ _ HF6.out]; rfl
    go_wp2_with fail
    go_ret3
    exact ⟨v3, (.slice A2 n2 c2), rfl, by unfold errs2; rw [if_pos rfl]; exact HR3.out, by unfold errs2; rw [if_pos rfl]; exact HX3.out, HB7.out⟩
  · have hz1 : (z != 0) = true := by simpa using hz
    have HZ := Lib.hid hz
    clear hz
    have hc8 : w1.cell? ⟨w.heap.size, 0, none⟩ = some (.int .i64 7) := by rw [cell_of_row _ _ _ _ _ _ HF6.out]; rfl
    go_wp2_with fail
    go_ret3
    exact ⟨.slice none 0 0, .slice none 0 0, rfl, by unfold errs2; rw [if_neg HZ.out]; exact TS.nil _, by unfold errs2; rw [if_neg HZ.out]; exact PV.nil _, HB7.out⟩
set_option maxRecDepth 100000 in
set_option maxHeartbeats 4000000 in
theorem gturn_6 (A A2 : Option Addr) (n c n2 c2 : Nat) (ss : List ByteArray) (ps : List Pr) (i f g y : ByteArray) (a d : Int) (t : ByteArray) (w : World) (h : LP w A n ss A2 n2 ps) (k : RsOk n c ss n2 c2 ps) (_hy : y.size ≤ maxLen) :
    Calls Try.prog 50 #[.slice A n c, .slice A2 n2 c2, .agg #[.int .i64 6, .string i, .string f, .string g, .string y, .int .i64 a, .int .i64 d, .string t]] w (TurnP (errs2 (ulE ss y) (ulV ss y)) (errs2 (ulE ss y) (ps)) (ulE ss y) w) := by
  have H := Lib.hid h
  have K := Lib.hid k
  have hn := k.ln
  have hn2 := k.ln2
  have HTS : Hid (∀ W, LP W A n ss A2 n2 ps → TS W (.slice A n c) ss) := Lib.hid fun W q => ⟨A, c, by rw [q.l.1], by rw [q.l.1]; exact q.l, by rw [q.l.1]; exact K.out.lc, K.out.cm⟩
  have HPV : Hid (∀ W, LP W A n ss A2 n2 ps → PV W (.slice A2 n2 c2) ps) := Lib.hid fun W q => ⟨A2, c2, by rw [q.p.1], by rw [q.p.1]; exact q.p, by rw [q.p.1]; exact K.out.lc2, K.out.cm2⟩
  clear h k
  have HC := Lib.hid (fun (W : World) (q1 : SlN W A n ss) (q2 : RdX prC 4 W A2 n2 ps) => eunlabel_any A n c ss y W q1 (by omega) K.out.lc K.out.r)
  generalize ulE ss y = z at *
  generalize ulV ss y = V at *
  have HB1 := Lib.hid (Below.refl w.heap.size w)
  go_enter Try.func50, Try.ntmps50
  have HF2 := Lib.hid (blk_new w (.cells #[.int .i64 6, .string i, .string f, .string g, .string y, .int .i64 a, .int .i64 d, .string t] 85 (0, 0)))
  have HB3 := Lib.hid (HB1.out.alloc HB1.out.size (.cells #[.int .i64 6, .string i, .string f, .string g, .string y, .int .i64 a, .int .i64 d, .string t] 85 (0, 0)))
  clear HB1
  go_wp2_with fail
  refine (clone_any A n c ss (w.alloc (.cells #[.int .i64 6, .string i, .string f, .string g, .string y, .int .i64 a, .int .i64 d, .string t] 85 (0, 0))) (H.out.below HB3.out).l (by omega)).mono ?_
  rintro e w1 ⟨v1, rfl, ht, hb1⟩
  have HF4 := Lib.hid (blk_below HF2.out hb1)
  have HB5 := Lib.hid (HB3.out.trans (hb1.mono (by have := HB3.out.size; simp at this ⊢ <;> omega)))
  clear hb1 HB3 HF2
  have HT1 := Lib.hid ht
  clear ht
  go_wp2_with fail
  refine (pclone_any A2 n2 c2 ps w1 (H.out.below HB5.out).p (by omega)).mono ?_
  rintro e w2 ⟨v2, rfl, hx, hb2⟩
  have HF6 := Lib.hid (blk_below HF4.out hb2)
  have HB7 := Lib.hid (HB5.out.trans (hb2.mono (by have := HB5.out.size; simp at this ⊢ <;> omega)))
  have HT2 := Lib.hid (HT1.out.laterT hb2)
  clear hb2 HB5 HF4
  have HX2 := Lib.hid (PV.own hx)
  clear hx HT1
  have hc8 : w2.cell? ⟨w.heap.size, 0, none⟩ = some (.int .i64 6) := by rw [cell_of_row _ _ _ _ _ _ HF6.out]; rfl
  have hc9 : w2.cell? ⟨w.heap.size, 4, none⟩ = some (.string y) := by rw [cell_of_row _ _ _ _ _ _ HF6.out]; rfl
  go_wp2_with fail
  clear hc8 hc9
  refine (HC.out w2 (H.out.below HB7.out).l (H.out.below HB7.out).p).mono ?_
  rintro e w3 ⟨v3, rfl, hx, hb3⟩
  have HF10 := Lib.hid (blk_below HF6.out hb3)
  have HB11 := Lib.hid (HB7.out.trans (hb3.mono (by have := HB7.out.size; simp at this ⊢ <;> omega)))
  have HT3 := Lib.hid (HT2.out.laterT hb3)
  have HX3 := Lib.hid (HX2.out.later hb3)
  clear hb3 HB7 HF6
  have HR3 := Lib.hid hx
  clear hx
  clear HT2 HX2
  by_cases hz : z = 0
  · subst hz
    go_wp2_with fail
    go_ret3
    exact ⟨v3, v2, rfl, by unfold errs2; rw [if_pos rfl]; exact HR3.out, by unfold errs2; rw [if_pos rfl]; exact HX3.out, HB11.out⟩
  · have hz1 : (z != 0) = true := by simpa using hz
    have HZ := Lib.hid hz
    clear hz
    go_wp2_with fail
    go_ret3
    exact ⟨.slice none 0 0, .slice none 0 0, rfl, by unfold errs2; rw [if_neg HZ.out]; exact TS.nil _, by unfold errs2; rw [if_neg HZ.out]; exact PV.nil _, HB11.out⟩
set_option maxRecDepth 100000 in
set_option maxHeartbeats 4000000 in
theorem gturn_8 (A A2 : Option Addr) (n c n2 c2 : Nat) (ss : List ByteArray) (ps : List Pr) (i f g y : ByteArray) (a d : Int) (t : ByteArray) (w : World) (h : LP w A n ss A2 n2 ps) (k : RsOk n c ss n2 c2 ps) (_hy : y.size ≤ maxLen) :
    Calls Try.prog 50 #[.slice A n c, .slice A2 n2 c2, .agg #[.int .i64 8, .string i, .string f, .string g, .string y, .int .i64 a, .int .i64 d, .string t]] w (TurnP (errs2 (ulE ss y) (ulV ss y)) (errs2 (ulE ss y) (ps)) (ulE ss y) w) := by
  have H := Lib.hid h
  have K := Lib.hid k
  have hn := k.ln
  have hn2 := k.ln2
  have HTS : Hid (∀ W, LP W A n ss A2 n2 ps → TS W (.slice A n c) ss) := Lib.hid fun W q => ⟨A, c, by rw [q.l.1], by rw [q.l.1]; exact q.l, by rw [q.l.1]; exact K.out.lc, K.out.cm⟩
  have HPV : Hid (∀ W, LP W A n ss A2 n2 ps → PV W (.slice A2 n2 c2) ps) := Lib.hid fun W q => ⟨A2, c2, by rw [q.p.1], by rw [q.p.1]; exact q.p, by rw [q.p.1]; exact K.out.lc2, K.out.cm2⟩
  clear h k
  have HC := Lib.hid (fun (W : World) (q1 : SlN W A n ss) (q2 : RdX prC 4 W A2 n2 ps) => eunlabel_any A n c ss y W q1 (by omega) K.out.lc K.out.r)
  generalize ulE ss y = z at *
  generalize ulV ss y = V at *
  have HB1 := Lib.hid (Below.refl w.heap.size w)
  go_enter Try.func50, Try.ntmps50
  have HF2 := Lib.hid (blk_new w (.cells #[.int .i64 8, .string i, .string f, .string g, .string y, .int .i64 a, .int .i64 d, .string t] 85 (0, 0)))
  have HB3 := Lib.hid (HB1.out.alloc HB1.out.size (.cells #[.int .i64 8, .string i, .string f, .string g, .string y, .int .i64 a, .int .i64 d, .string t] 85 (0, 0)))
  clear HB1
  go_wp2_with fail
  refine (clone_any A n c ss (w.alloc (.cells #[.int .i64 8, .string i, .string f, .string g, .string y, .int .i64 a, .int .i64 d, .string t] 85 (0, 0))) (H.out.below HB3.out).l (by omega)).mono ?_
  rintro e w1 ⟨v1, rfl, ht, hb1⟩
  have HF4 := Lib.hid (blk_below HF2.out hb1)
  have HB5 := Lib.hid (HB3.out.trans (hb1.mono (by have := HB3.out.size; simp at this ⊢ <;> omega)))
  clear hb1 HB3 HF2
  have HT1 := Lib.hid ht
  clear ht
  go_wp2_with fail
  refine (pclone_any A2 n2 c2 ps w1 (H.out.below HB5.out).p (by omega)).mono ?_
  rintro e w2 ⟨v2, rfl, hx, hb2⟩
  have HF6 := Lib.hid (blk_below HF4.out hb2)
  have HB7 := Lib.hid (HB5.out.trans (hb2.mono (by have := HB5.out.size; simp at this ⊢ <;> omega)))
  have HT2 := Lib.hid (HT1.out.laterT hb2)
  clear hb2 HB5 HF4
  have HX2 := Lib.hid (PV.own hx)
  clear hx HT1
  have hc8 : w2.cell? ⟨w.heap.size, 0, none⟩ = some (.int .i64 8) := by rw [cell_of_row _ _ _ _ _ _ HF6.out]; rfl
  have hc9 : w2.cell? ⟨w.heap.size, 4, none⟩ = some (.string y) := by rw [cell_of_row _ _ _ _ _ _ HF6.out]; rfl
  go_wp2_with fail
  clear hc8 hc9
  refine (HC.out w2 (H.out.below HB7.out).l (H.out.below HB7.out).p).mono ?_
  rintro e w3 ⟨v3, rfl, hx, hb3⟩
  have HF10 := Lib.hid (blk_below HF6.out hb3)
  have HB11 := Lib.hid (HB7.out.trans (hb3.mono (by have := HB7.out.size; simp at this ⊢ <;> omega)))
  have HT3 := Lib.hid (HT2.out.laterT hb3)
  have HX3 := Lib.hid (HX2.out.later hb3)
  clear hb3 HB7 HF6
  have HR3 := Lib.hid hx
  clear hx
  clear HT2 HX2
  by_cases hz : z = 0
  · subst hz
    go_wp2_with fail
    go_ret3
    exact ⟨v3, v2, rfl, by unfold errs2; rw [if_pos rfl]; exact HR3.out, by unfold errs2; rw [if_pos rfl]; exact HX3.out, HB11.out⟩
  · have hz1 : (z != 0) = true := by simpa using hz
    have HZ := Lib.hid hz
    clear hz
    go_wp2_with fail
    go_ret3
    exact ⟨.slice none 0 0, .slice none 0 0, rfl, by unfold errs2; rw [if_neg HZ.out]; exact TS.nil _, by unfold errs2; rw [if_neg HZ.out]; exact PV.nil _, HB11.out⟩
set_option maxRecDepth 100000 in
set_option maxHeartbeats 4000000 in
theorem rturn_6 (A A2 : Option Addr) (n c n2 c2 : Nat) (ss : List ByteArray) (ps : List Pr) (i f g y : ByteArray) (a d : Int) (t : ByteArray) (w : World) (h : LP w A n ss A2 n2 ps) (k : RsOk n c ss n2 c2 ps) (_hy : y.size ≤ maxLen) :
    Calls Try.prog 51 #[.slice A n c, .slice A2 n2 c2, .agg #[.int .i64 6, .string i, .string f, .string g, .string y, .int .i64 a, .int .i64 d, .string t]] w (TurnP (errs2 (ulE ss y) (ulV ss y)) (errs2 (ulE ss y) (ps)) (ulE ss y) w) := by
  have H := Lib.hid h
  have K := Lib.hid k
  have hn := k.ln
  have hn2 := k.ln2
  have HTS : Hid (∀ W, LP W A n ss A2 n2 ps → TS W (.slice A n c) ss) := Lib.hid fun W q => ⟨A, c, by rw [q.l.1], by rw [q.l.1]; exact q.l, by rw [q.l.1]; exact K.out.lc, K.out.cm⟩
  have HPV : Hid (∀ W, LP W A n ss A2 n2 ps → PV W (.slice A2 n2 c2) ps) := Lib.hid fun W q => ⟨A2, c2, by rw [q.p.1], by rw [q.p.1]; exact q.p, by rw [q.p.1]; exact K.out.lc2, K.out.cm2⟩
  clear h k
  have HC := Lib.hid (fun (W : World) (q1 : SlN W A n ss) (q2 : RdX prC 4 W A2 n2 ps) => runlabel_any A n c ss y W q1 (by omega))
  generalize ulE ss y = z at *
  generalize ulV ss y = V at *
  have HB1 := Lib.hid (Below.refl w.heap.size w)
  go_enter Try.func51, Try.ntmps51
  have HF2 := Lib.hid (blk_new w (.cells #[.int .i64 6, .string i, .string f, .string g, .string y, .int .i64 a, .int .i64 d, .string t] 85 (0, 0)))
  have HB3 := Lib.hid (HB1.out.alloc HB1.out.size (.cells #[.int .i64 6, .string i, .string f, .string g, .string y, .int .i64 a, .int .i64 d, .string t] 85 (0, 0)))
  clear HB1
  go_wp2_with fail
  have hc4 : (w.alloc (.cells #[.int .i64 6, .string i, .string f, .string g, .string y, .int .i64 a, .int .i64 d, .string t] 85 (0, 0))).cell? ⟨w.heap.size, 0, none⟩ = some (.int .i64 6) := by rw [cell_of_row _ _ _ _ _ _ HF2.out]; rfl
  have hc5 : (w.alloc (.cells #[.int .i64 6, .string i, .string f, .string g, .string y, .int .i64 a, .int .i64 d, .string t] 85 (0, 0))).cell? ⟨w.heap.size, 4, none⟩ = some (.string y) := by rw [cell_of_row _ _ _ _ _ _ HF2.out]; rfl
  go_wp2_with fail
  clear hc4 hc5
  refine (HC.out (w.alloc (.cells #[.int .i64 6, .string i, .string f, .string g, .string y, .int .i64 a, .int .i64 d, .string t] 85 (0, 0))) (H.out.below HB3.out).l (H.out.below HB3.out).p).mono ?_
  rintro e w1 ⟨v3, rfl, hx, hb1⟩
  have HF6 := Lib.hid (blk_below HF2.out hb1)
  have HB7 := Lib.hid (HB3.out.trans (hb1.mono (by have := HB3.out.size; simp at this ⊢ <;> omega)))
  clear hb1 HB3 HF2
  have HR3 := Lib.hid hx
  clear hx
  have HT3 := Lib.hid (HTS.out _ (H.out.below HB7.out))
  have HX3 := Lib.hid (HPV.out _ (H.out.below HB7.out))
  by_cases hz : z = 0
  · subst hz
    have hc8 : w1.cell? ⟨w.heap.size, 0, none⟩ = some (.int .i64 6) := by rw [cell_of_row _ _ _ _ _ _ HF6.out]; rfl
    go_wp2_with fail
    go_ret3
    exact ⟨v3, (.slice A2 n2 c2), rfl, by unfold errs2; rw [if_pos rfl]; exact HR3.out, by unfold errs2; rw [if_pos rfl]; exact HX3.out, HB7.out⟩
  · have hz1 : (z != 0) = true := by simpa using hz
    have HZ := Lib.hid hz
    clear hz
    have hc8 : w1.cell? ⟨w.heap.size, 0, none⟩ = some (.int .i64 6) := by rw [cell_of_row _ _ _ _ _ _ HF6.out]; rfl
    go_wp2_with fail
    go_ret3
    exact ⟨.slice none 0 0, .slice none 0 0, rfl, by unfold errs2; rw [if_neg HZ.out]; exact TS.nil _, by unfold errs2; rw [if_neg HZ.out]; exact PV.nil _, HB7.out⟩
set_option maxRecDepth 100000 in
set_option maxHeartbeats 4000000 in
theorem rturn_8 (A A2 : Option Addr) (n c n2 c2 : Nat) (ss : List ByteArray) (ps : List Pr) (i f g y : ByteArray) (a d : Int) (t : ByteArray) (w : World) (h : LP w A n ss A2 n2 ps) (k : RsOk n c ss n2 c2 ps) (_hy : y.size ≤ maxLen) :
    Calls Try.prog 51 #[.slice A n c, .slice A2 n2 c2, .agg #[.int .i64 8, .string i, .string f, .string g, .string y, .int .i64 a, .int .i64 d, .string t]] w (TurnP (errs2 (ulE ss y) (ulV ss y)) (errs2 (ulE ss y) (ps)) (ulE ss y) w) := by
  have H := Lib.hid h
  have K := Lib.hid k
  have hn := k.ln
  have hn2 := k.ln2
  have HTS : Hid (∀ W, LP W A n ss A2 n2 ps → TS W (.slice A n c) ss) := Lib.hid fun W q => ⟨A, c, by rw [q.l.1], by rw [q.l.1]; exact q.l, by rw [q.l.1]; exact K.out.lc, K.out.cm⟩
  have HPV : Hid (∀ W, LP W A n ss A2 n2 ps → PV W (.slice A2 n2 c2) ps) := Lib.hid fun W q => ⟨A2, c2, by rw [q.p.1], by rw [q.p.1]; exact q.p, by rw [q.p.1]; exact K.out.lc2, K.out.cm2⟩
  clear h k
  have HC := Lib.hid (fun (W : World) (q1 : SlN W A n ss) (q2 : RdX prC 4 W A2 n2 ps) => runlabel_any A n c ss y W q1 (by omega))
  generalize ulE ss y = z at *
  generalize ulV ss y = V at *
  have HB1 := Lib.hid (Below.refl w.heap.size w)
  go_enter Try.func51, Try.ntmps51
  have HF2 := Lib.hid (blk_new w (.cells #[.int .i64 8, .string i, .string f, .string g, .string y, .int .i64 a, .int .i64 d, .string t] 85 (0, 0)))
  have HB3 := Lib.hid (HB1.out.alloc HB1.out.size (.cells #[.int .i64 8, .string i, .string f, .string g, .string y, .int .i64 a, .int .i64 d, .string t] 85 (0, 0)))
  clear HB1
  go_wp2_with fail
  have hc4 : (w.alloc (.cells #[.int .i64 8, .string i, .string f, .string g, .string y, .int .i64 a, .int .i64 d, .string t] 85 (0, 0))).cell? ⟨w.heap.size, 0, none⟩ = some (.int .i64 8) := by rw [cell_of_row _ _ _ _ _ _ HF2.out]; rfl
  have hc5 : (w.alloc (.cells #[.int .i64 8, .string i, .string f, .string g, .string y, .int .i64 a, .int .i64 d, .string t] 85 (0, 0))).cell? ⟨w.heap.size, 4, none⟩ = some (.string y) := by rw [cell_of_row _ _ _ _ _ _ HF2.out]; rfl
  go_wp2_with fail
  clear hc4 hc5
  refine (HC.out (w.alloc (.cells #[.int .i64 8, .string i, .string f, .string g, .string y, .int .i64 a, .int .i64 d, .string t] 85 (0, 0))) (H.out.below HB3.out).l (H.out.below HB3.out).p).mono ?_
  rintro e w1 ⟨v3, rfl, hx, hb1⟩
  have HF6 := Lib.hid (blk_below HF2.out hb1)
  have HB7 := Lib.hid (HB3.out.trans (hb1.mono (by have := HB3.out.size; simp at this ⊢ <;> omega)))
  clear hb1 HB3 HF2
  have HR3 := Lib.hid hx
  clear hx
  have HT3 := Lib.hid (HTS.out _ (H.out.below HB7.out))
  have HX3 := Lib.hid (HPV.out _ (H.out.below HB7.out))
  by_cases hz : z = 0
  · subst hz
    have hc8 : w1.cell? ⟨w.heap.size, 0, none⟩ = some (.int .i64 8) := by rw [cell_of_row _ _ _ _ _ _ HF6.out]; rfl
    go_wp2_with fail
    go_ret3
    exact ⟨v3, (.slice A2 n2 c2), rfl, by unfold errs2; rw [if_pos rfl]; exact HR3.out, by unfold errs2; rw [if_pos rfl]; exact HX3.out, HB7.out⟩
  · have hz1 : (z != 0) = true := by simpa using hz
    have HZ := Lib.hid hz
    clear hz
    have hc8 : w1.cell? ⟨w.heap.size, 0, none⟩ = some (.int .i64 8) := by rw [cell_of_row _ _ _ _ _ _ HF6.out]; rfl
    go_wp2_with fail
    go_ret3
    exact ⟨.slice none 0 0, .slice none 0 0, rfl, by unfold errs2; rw [if_neg HZ.out]; exact TS.nil _, by unfold errs2; rw [if_neg HZ.out]; exact PV.nil _, HB7.out⟩
set_option maxRecDepth 100000 in
set_option maxHeartbeats 4000000 in
theorem gturn_9 (A A2 : Option Addr) (n c n2 c2 : Nat) (ss : List ByteArray) (ps : List Pr) (i f g y : ByteArray) (a d : Int) (t : ByteArray) (w : World) (h : LP w A n ss A2 n2 ps) (k : RsOk n c ss n2 c2 ps) (hy : y.size ≤ maxLen) :
    Calls Try.prog 50 #[.slice A n c, .slice A2 n2 c2, .agg #[.int .i64 9, .string i, .string f, .string g, .string y, .int .i64 a, .int .i64 d, .string t]] w (TurnP (errs2 (setE ps (y, a, d, t)) (ss)) (errs2 (setE ps (y, a, d, t)) (setV ps (y, a, d, t))) (setE ps (y, a, d, t)) w) := by
  have H := Lib.hid h
  have K := Lib.hid k
  have hn := k.ln
  have hn2 := k.ln2
  have HTS : Hid (∀ W, LP W A n ss A2 n2 ps → TS W (.slice A n c) ss) := Lib.hid fun W q => ⟨A, c, by rw [q.l.1], by rw [q.l.1]; exact q.l, by rw [q.l.1]; exact K.out.lc, K.out.cm⟩
  have HPV : Hid (∀ W, LP W A n ss A2 n2 ps → PV W (.slice A2 n2 c2) ps) := Lib.hid fun W q => ⟨A2, c2, by rw [q.p.1], by rw [q.p.1]; exact q.p, by rw [q.p.1]; exact K.out.lc2, K.out.cm2⟩
  clear h k
  have HC := Lib.hid (fun (W : World) (q1 : SlN W A n ss) (q2 : RdX prC 4 W A2 n2 ps) => eset_any A2 n2 c2 ps y a d t W q2 K.out.ln2 K.out.lc2 K.out.rp hy)
  generalize setE ps (y, a, d, t) = z at *
  generalize setV ps (y, a, d, t) = V at *
  have HB1 := Lib.hid (Below.refl w.heap.size w)
  go_enter Try.func50, Try.ntmps50
  have HF2 := Lib.hid (blk_new w (.cells #[.int .i64 9, .string i, .string f, .string g, .string y, .int .i64 a, .int .i64 d, .string t] 85 (0, 0)))
  have HB3 := Lib.hid (HB1.out.alloc HB1.out.size (.cells #[.int .i64 9, .string i, .string f, .string g, .string y, .int .i64 a, .int .i64 d, .string t] 85 (0, 0)))
  clear HB1
  go_wp2_with fail
  refine (clone_any A n c ss (w.alloc (.cells #[.int .i64 9, .string i, .string f, .string g, .string y, .int .i64 a, .int .i64 d, .string t] 85 (0, 0))) (H.out.below HB3.out).l (by omega)).mono ?_
  rintro e w1 ⟨v1, rfl, ht, hb1⟩
  have HF4 := Lib.hid (blk_below HF2.out hb1)
  have HB5 := Lib.hid (HB3.out.trans (hb1.mono (by have := HB3.out.size; simp at this ⊢ <;> omega)))
  clear hb1 HB3 HF2
  have HT1 := Lib.hid ht
  clear ht
  go_wp2_with fail
  refine (pclone_any A2 n2 c2 ps w1 (H.out.below HB5.out).p (by omega)).mono ?_
  rintro e w2 ⟨v2, rfl, hx, hb2⟩
  have HF6 := Lib.hid (blk_below HF4.out hb2)
  have HB7 := Lib.hid (HB5.out.trans (hb2.mono (by have := HB5.out.size; simp at this ⊢ <;> omega)))
  have HT2 := Lib.hid (HT1.out.laterT hb2)
  clear hb2 HB5 HF4
  have HX2 := Lib.hid (PV.own hx)
  clear hx HT1
  have hc8 : w2.cell? ⟨w.heap.size, 0, none⟩ = some (.int .i64 9) := by rw [cell_of_row _ _ _ _ _ _ HF6.out]; rfl
  have hc9 : w2.cell? ⟨w.heap.size, 4, none⟩ = some (.string y) := by rw [cell_of_row _ _ _ _ _ _ HF6.out]; rfl
  have hc10 : w2.cell? ⟨w.heap.size, 5, none⟩ = some (.int .i64 a) := by rw [cell_of_row _ _ _ _ _ _ HF6.out]; rfl
  have hc11 : w2.cell? ⟨w.heap.size, 6, none⟩ = some (.int .i64 d) := by rw [cell_of_row _ _ _ _ _ _ HF6.out]; rfl
  have hc12 : w2.cell? ⟨w.heap.size, 7, none⟩ = some (.string t) := by rw [cell_of_row _ _ _ _ _ _ HF6.out]; rfl
  go_wp2_with fail
  clear hc8 hc9 hc10 hc11 hc12
  refine (HC.out w2 (H.out.below HB7.out).l (H.out.below HB7.out).p).mono ?_
  rintro e w3 ⟨v3, rfl, hx, hb3⟩
  have HF13 := Lib.hid (blk_below HF6.out hb3)
  have HB14 := Lib.hid (HB7.out.trans (hb3.mono (by have := HB7.out.size; simp at this ⊢ <;> omega)))
  have HT3 := Lib.hid (HT2.out.laterT hb3)
  have HX3 := Lib.hid (HX2.out.later hb3)
  clear hb3 HB7 HF6
  have HR3 := Lib.hid (PV.own hx)
  clear hx
  clear HT2 HX2
  by_cases hz : z = 0
  · subst hz
    go_wp2_with fail
    go_ret3
    exact ⟨v1, v3, rfl, by unfold errs2; rw [if_pos rfl]; exact HT3.out, by unfold errs2; rw [if_pos rfl]; exact HR3.out, HB14.out⟩
  · have hz1 : (z != 0) = true := by simpa using hz
    have HZ := Lib.hid hz
    clear hz
    go_wp2_with fail
    go_ret3
    exact ⟨.slice none 0 0, .slice none 0 0, rfl, by unfold errs2; rw [if_neg HZ.out]; exact TS.nil _, by unfold errs2; rw [if_neg HZ.out]; exact PV.nil _, HB14.out⟩
set_option maxRecDepth 100000 in
set_option maxHeartbeats 4000000 in
theorem gturn_11 (A A2 : Option Addr) (n c n2 c2 : Nat) (ss : List ByteArray) (ps : List Pr) (i f g y : ByteArray) (a d : Int) (t : ByteArray) (w : World) (h : LP w A n ss A2 n2 ps) (k : RsOk n c ss n2 c2 ps) (hy : y.size ≤ maxLen) :
    Calls Try.prog 50 #[.slice A n c, .slice A2 n2 c2, .agg #[.int .i64 11, .string i, .string f, .string g, .string y, .int .i64 a, .int .i64 d, .string t]] w (TurnP (errs2 (setE ps (y, a, d, t)) (ss)) (errs2 (setE ps (y, a, d, t)) (setV ps (y, a, d, t))) (setE ps (y, a, d, t)) w) := by
  have H := Lib.hid h
  have K := Lib.hid k
  have hn := k.ln
  have hn2 := k.ln2
  have HTS : Hid (∀ W, LP W A n ss A2 n2 ps → TS W (.slice A n c) ss) := Lib.hid fun W q => ⟨A, c, by rw [q.l.1], by rw [q.l.1]; exact q.l, by rw [q.l.1]; exact K.out.lc, K.out.cm⟩
  have HPV : Hid (∀ W, LP W A n ss A2 n2 ps → PV W (.slice A2 n2 c2) ps) := Lib.hid fun W q => ⟨A2, c2, by rw [q.p.1], by rw [q.p.1]; exact q.p, by rw [q.p.1]; exact K.out.lc2, K.out.cm2⟩
  clear h k
  have HC := Lib.hid (fun (W : World) (q1 : SlN W A n ss) (q2 : RdX prC 4 W A2 n2 ps) => eset_any A2 n2 c2 ps y a d t W q2 K.out.ln2 K.out.lc2 K.out.rp hy)
  generalize setE ps (y, a, d, t) = z at *
  generalize setV ps (y, a, d, t) = V at *
  have HB1 := Lib.hid (Below.refl w.heap.size w)
  go_enter Try.func50, Try.ntmps50
  have HF2 := Lib.hid (blk_new w (.cells #[.int .i64 11, .string i, .string f, .string g, .string y, .int .i64 a, .int .i64 d, .string t] 85 (0, 0)))
  have HB3 := Lib.hid (HB1.out.alloc HB1.out.size (.cells #[.int .i64 11, .string i, .string f, .string g, .string y, .int .i64 a, .int .i64 d, .string t] 85 (0, 0)))
  clear HB1
  go_wp2_with fail
  refine (clone_any A n c ss (w.alloc (.cells #[.int .i64 11, .string i, .string f, .string g, .string y, .int .i64 a, .int .i64 d, .string t] 85 (0, 0))) (H.out.below HB3.out).l (by omega)).mono ?_
  rintro e w1 ⟨v1, rfl, ht, hb1⟩
  have HF4 := Lib.hid (blk_below HF2.out hb1)
  have HB5 := Lib.hid (HB3.out.trans (hb1.mono (by have := HB3.out.size; simp at this ⊢ <;> omega)))
  clear hb1 HB3 HF2
  have HT1 := Lib.hid ht
  clear ht
  go_wp2_with fail
  refine (pclone_any A2 n2 c2 ps w1 (H.out.below HB5.out).p (by omega)).mono ?_
  rintro e w2 ⟨v2, rfl, hx, hb2⟩
  have HF6 := Lib.hid (blk_below HF4.out hb2)
  have HB7 := Lib.hid (HB5.out.trans (hb2.mono (by have := HB5.out.size; simp at this ⊢ <;> omega)))
  have HT2 := Lib.hid (HT1.out.laterT hb2)
  clear hb2 HB5 HF4
  have HX2 := Lib.hid (PV.own hx)
  clear hx HT1
  have hc8 : w2.cell? ⟨w.heap.size, 0, none⟩ = some (.int .i64 11) := by rw [cell_of_row _ _ _ _ _ _ HF6.out]; rfl
  have hc9 : w2.cell? ⟨w.heap.size, 4, none⟩ = some (.string y) := by rw [cell_of_row _ _ _ _ _ _ HF6.out]; rfl
  have hc10 : w2.cell? ⟨w.heap.size, 5, none⟩ = some (.int .i64 a) := by rw [cell_of_row _ _ _ _ _ _ HF6.out]; rfl
  have hc11 : w2.cell? ⟨w.heap.size, 6, none⟩ = some (.int .i64 d) := by rw [cell_of_row _ _ _ _ _ _ HF6.out]; rfl
  have hc12 : w2.cell? ⟨w.heap.size, 7, none⟩ = some (.string t) := by rw [cell_of_row _ _ _ _ _ _ HF6.out]; rfl
  go_wp2_with fail
  clear hc8 hc9 hc10 hc11 hc12
  refine (HC.out w2 (H.out.below HB7.out).l (H.out.below HB7.out).p).mono ?_
  rintro e w3 ⟨v3, rfl, hx, hb3⟩
  have HF13 := Lib.hid (blk_below HF6.out hb3)
  have HB14 := Lib.hid (HB7.out.trans (hb3.mono (by have := HB7.out.size; simp at this ⊢ <;> omega)))
  have HT3 := Lib.hid (HT2.out.laterT hb3)
  have HX3 := Lib.hid (HX2.out.later hb3)
  clear hb3 HB7 HF6
  have HR3 := Lib.hid (PV.own hx)
  clear hx
  clear HT2 HX2
  by_cases hz : z = 0
  · subst hz
    go_wp2_with fail
    go_ret3
    exact ⟨v1, v3, rfl, by unfold errs2; rw [if_pos rfl]; exact HT3.out, by unfold errs2; rw [if_pos rfl]; exact HR3.out, HB14.out⟩
  · have hz1 : (z != 0) = true := by simpa using hz
    have HZ := Lib.hid hz
    clear hz
    go_wp2_with fail
    go_ret3
    exact ⟨.slice none 0 0, .slice none 0 0, rfl, by unfold errs2; rw [if_neg HZ.out]; exact TS.nil _, by unfold errs2; rw [if_neg HZ.out]; exact PV.nil _, HB14.out⟩
set_option maxRecDepth 100000 in
set_option maxHeartbeats 4000000 in
theorem rturn_9 (A A2 : Option Addr) (n c n2 c2 : Nat) (ss : List ByteArray) (ps : List Pr) (i f g y : ByteArray) (a d : Int) (t : ByteArray) (w : World) (h : LP w A n ss A2 n2 ps) (k : RsOk n c ss n2 c2 ps) (hy : y.size ≤ maxLen) :
    Calls Try.prog 51 #[.slice A n c, .slice A2 n2 c2, .agg #[.int .i64 9, .string i, .string f, .string g, .string y, .int .i64 a, .int .i64 d, .string t]] w (TurnP (errs2 (setE ps (y, a, d, t)) (ss)) (errs2 (setE ps (y, a, d, t)) (setV ps (y, a, d, t))) (setE ps (y, a, d, t)) w) := by
  have H := Lib.hid h
  have K := Lib.hid k
  have hn := k.ln
  have hn2 := k.ln2
  have HTS : Hid (∀ W, LP W A n ss A2 n2 ps → TS W (.slice A n c) ss) := Lib.hid fun W q => ⟨A, c, by rw [q.l.1], by rw [q.l.1]; exact q.l, by rw [q.l.1]; exact K.out.lc, K.out.cm⟩
  have HPV : Hid (∀ W, LP W A n ss A2 n2 ps → PV W (.slice A2 n2 c2) ps) := Lib.hid fun W q => ⟨A2, c2, by rw [q.p.1], by rw [q.p.1]; exact q.p, by rw [q.p.1]; exact K.out.lc2, K.out.cm2⟩
  clear h k
  have HC := Lib.hid (fun (W : World) (q1 : SlN W A n ss) (q2 : RdX prC 4 W A2 n2 ps) => rset_any A2 n2 c2 ps y a d t W q2 K.out.ln2 K.out.rp hy)
  generalize setE ps (y, a, d, t) = z at *
  generalize setV ps (y, a, d, t) = V at *
  have HB1 := Lib.hid (Below.refl w.heap.size w)
  go_enter Try.func51, Try.ntmps51
  have HF2 := Lib.hid (blk_new w (.cells #[.int .i64 9, .string i, .string f, .string g, .string y, .int .i64 a, .int .i64 d, .string t] 85 (0, 0)))
  have HB3 := Lib.hid (HB1.out.alloc HB1.out.size (.cells #[.int .i64 9, .string i, .string f, .string g, .string y, .int .i64 a, .int .i64 d, .string t] 85 (0, 0)))
  clear HB1
  go_wp2_with fail
  have hc4 : (w.alloc (.cells #[.int .i64 9, .string i, .string f, .string g, .string y, .int .i64 a, .int .i64 d, .string t] 85 (0, 0))).cell? ⟨w.heap.size, 0, none⟩ = some (.int .i64 9) := by rw [cell_of_row _ _ _ _ _ _ HF2.out]; rfl
  have hc5 : (w.alloc (.cells #[.int .i64 9, .string i, .string f, .string g, .string y, .int .i64 a, .int .i64 d, .string t] 85 (0, 0))).cell? ⟨w.heap.size, 4, none⟩ = some (.string y) := by rw [cell_of_row _ _ _ _ _ _ HF2.out]; rfl
  have hc6 : (w.alloc (.cells #[.int .i64 9, .string i, .string f, .string g, .string y, .int .i64 a, .int .i64 d, .string t] 85 (0, 0))).cell? ⟨w.heap.size, 5, none⟩ = some (.int .i64 a) := by rw [cell_of_row _ _ _ _ _ _ HF2.out]; rfl
  have hc7 : (w.alloc (.cells #[.int .i64 9, .string i, .string f, .string g, .string y, .int .i64 a, .int .i64 d, .string t] 85 (0, 0))).cell? ⟨w.heap.size, 6, none⟩ = some (.int .i64 d) := by rw [cell_of_row _ _ _ _ _ _ HF2.out]; rfl
  have hc8 : (w.alloc (.cells #[.int .i64 9, .string i, .string f, .string g, .string y, .int .i64 a, .int .i64 d, .string t] 85 (0, 0))).cell? ⟨w.heap.size, 7, none⟩ = some (.string t) := by rw [cell_of_row _ _ _ _ _ _ HF2.out]; rfl
  go_wp2_with fail
  clear hc4 hc5 hc6 hc7 hc8
  refine (HC.out (w.alloc (.cells #[.int .i64 9, .string i, .string f, .string g, .string y, .int .i64 a, .int .i64 d, .string t] 85 (0, 0))) (H.out.below HB3.out).l (H.out.below HB3.out).p).mono ?_
  rintro e w1 ⟨v3, rfl, hx, hb1⟩
  have HF9 := Lib.hid (blk_below HF2.out hb1)
  have HB10 := Lib.hid (HB3.out.trans (hb1.mono (by have := HB3.out.size; simp at this ⊢ <;> omega)))
  clear hb1 HB3 HF2
  have HR3 := Lib.hid (PV.own hx)
  clear hx
  have HT3 := Lib.hid (HTS.out _ (H.out.below HB10.out))
  have HX3 := Lib.hid (HPV.out _ (H.out.below HB10.out))
  by_cases hz : z = 0
  · subst hz
    have hc11 : w1.cell? ⟨w.heap.size, 0, none⟩ = some (.int .i64 9) := by rw [cell_of_row _ _ _ _ _ _ HF9.out]; rfl
    go_wp2_with fail
    go_ret3
    exact ⟨(.slice A n c), v3, rfl, by unfold errs2; rw [if_pos rfl]; exact HT3.out, by unfold errs2; rw [if_pos rfl]; exact HR3.out, HB10.out⟩
  · have hz1 : (z != 0) = true := by simpa using hz
    have HZ := Lib.hid hz
    clear hz
    have hc11 : w1.cell? ⟨w.heap.size, 0, none⟩ = some (.int .i64 9) := by rw [cell_of_row _ _ _ _ _ _ HF9.out]; rfl
    go_wp2_with fail
    go_ret3
    exact ⟨.slice none 0 0, .slice none 0 0, rfl, by unfold errs2; rw [if_neg HZ.out]; exact TS.nil _, by unfold errs2; rw [if_neg HZ.out]; exact PV.nil _, HB10.out⟩
set_option maxRecDepth 100000 in
set_option maxHeartbeats 4000000 in
theorem rturn_11 (A A2 : Option Addr) (n c n2 c2 : Nat) (ss : List ByteArray) (ps : List Pr) (i f g y : ByteArray) (a d : Int) (t : ByteArray) (w : World) (h : LP w A n ss A2 n2 ps) (k : RsOk n c ss n2 c2 ps) (hy : y.size ≤ maxLen) :
    Calls Try.prog 51 #[.slice A n c, .slice A2 n2 c2, .agg #[.int .i64 11, .string i, .string f, .string g, .string y, .int .i64 a, .int .i64 d, .string t]] w (TurnP (errs2 (setE ps (y, a, d, t)) (ss)) (errs2 (setE ps (y, a, d, t)) (setV ps (y, a, d, t))) (setE ps (y, a, d, t)) w) := by
  have H := Lib.hid h
  have K := Lib.hid k
  have hn := k.ln
  have hn2 := k.ln2
  have HTS : Hid (∀ W, LP W A n ss A2 n2 ps → TS W (.slice A n c) ss) := Lib.hid fun W q => ⟨A, c, by rw [q.l.1], by rw [q.l.1]; exact q.l, by rw [q.l.1]; exact K.out.lc, K.out.cm⟩
  have HPV : Hid (∀ W, LP W A n ss A2 n2 ps → PV W (.slice A2 n2 c2) ps) := Lib.hid fun W q => ⟨A2, c2, by rw [q.p.1], by rw [q.p.1]; exact q.p, by rw [q.p.1]; exact K.out.lc2, K.out.cm2⟩
  clear h k
  have HC := Lib.hid (fun (W : World) (q1 : SlN W A n ss) (q2 : RdX prC 4 W A2 n2 ps) => rset_any A2 n2 c2 ps y a d t W q2 K.out.ln2 K.out.rp hy)
  generalize setE ps (y, a, d, t) = z at *
  generalize setV ps (y, a, d, t) = V at *
  have HB1 := Lib.hid (Below.refl w.heap.size w)
  go_enter Try.func51, Try.ntmps51
  have HF2 := Lib.hid (blk_new w (.cells #[.int .i64 11, .string i, .string f, .string g, .string y, .int .i64 a, .int .i64 d, .string t] 85 (0, 0)))
  have HB3 := Lib.hid (HB1.out.alloc HB1.out.size (.cells #[.int .i64 11, .string i, .string f, .string g, .string y, .int .i64 a, .int .i64 d, .string t] 85 (0, 0)))
  clear HB1
  go_wp2_with fail
  have hc4 : (w.alloc (.cells #[.int .i64 11, .string i, .string f, .string g, .string y, .int .i64 a, .int .i64 d, .string t] 85 (0, 0))).cell? ⟨w.heap.size, 0, none⟩ = some (.int .i64 11) := by rw [cell_of_row _ _ _ _ _ _ HF2.out]; rfl
  have hc5 : (w.alloc (.cells #[.int .i64 11, .string i, .string f, .string g, .string y, .int .i64 a, .int .i64 d, .string t] 85 (0, 0))).cell? ⟨w.heap.size, 4, none⟩ = some (.string y) := by rw [cell_of_row _ _ _ _ _ _ HF2.out]; rfl
  have hc6 : (w.alloc (.cells #[.int .i64 11, .string i, .string f, .string g, .string y, .int .i64 a, .int .i64 d, .string t] 85 (0, 0))).cell? ⟨w.heap.size, 5, none⟩ = some (.int .i64 a) := by rw [cell_of_row _ _ _ _ _ _ HF2.out]; rfl
  have hc7 : (w.alloc (.cells #[.int .i64 11, .string i, .string f, .string g, .string y, .int .i64 a, .int .i64 d, .string t] 85 (0, 0))).cell? ⟨w.heap.size, 6, none⟩ = some (.int .i64 d) := by rw [cell_of_row _ _ _ _ _ _ HF2.out]; rfl
  have hc8 : (w.alloc (.cells #[.int .i64 11, .string i, .string f, .string g, .string y, .int .i64 a, .int .i64 d, .string t] 85 (0, 0))).cell? ⟨w.heap.size, 7, none⟩ = some (.string t) := by rw [cell_of_row _ _ _ _ _ _ HF2.out]; rfl
  go_wp2_with fail
  clear hc4 hc5 hc6 hc7 hc8
  refine (HC.out (w.alloc (.cells #[.int .i64 11, .string i, .string f, .string g, .string y, .int .i64 a, .int .i64 d, .string t] 85 (0, 0))) (H.out.below HB3.out).l (H.out.below HB3.out).p).mono ?_
  rintro e w1 ⟨v3, rfl, hx, hb1⟩
  have HF9 := Lib.hid (blk_below HF2.out hb1)
  have HB10 := Lib.hid (HB3.out.trans (hb1.mono (by have := HB3.out.size; simp at this ⊢ <;> omega)))
  clear hb1 HB3 HF2
  have HR3 := Lib.hid (PV.own hx)
  clear hx
  have HT3 := Lib.hid (HTS.out _ (H.out.below HB10.out))
  have HX3 := Lib.hid (HPV.out _ (H.out.below HB10.out))
  by_cases hz : z = 0
  · subst hz
    have hc11 : w1.cell? ⟨w.heap.size, 0, none⟩ = some (.int .i64 11) := by rw [cell_of_row _ _ _ _ _ _ HF9.out]; rfl
    go_wp2_with fail
    go_ret3
    exact ⟨(.slice A n c), v3, rfl, by unfold errs2; rw [if_pos rfl]; exact HT3.out, by unfold errs2; rw [if_pos rfl]; exact HR3.out, HB10.out⟩
  · have hz1 : (z != 0) = true := by simpa using hz
    have HZ := Lib.hid hz
    clear hz
    have hc11 : w1.cell? ⟨w.heap.size, 0, none⟩ = some (.int .i64 11) := by rw [cell_of_row _ _ _ _ _ _ HF9.out]; rfl
    go_wp2_with fail
    go_ret3
    exact ⟨.slice none 0 0, .slice none 0 0, rfl, by unfold errs2; rw [if_neg HZ.out]; exact TS.nil _, by unfold errs2; rw [if_neg HZ.out]; exact PV.nil _, HB10.out⟩
set_option maxRecDepth 100000 in
set_option maxHeartbeats 4000000 in
theorem gturn_10 (A A2 : Option Addr) (n c n2 c2 : Nat) (ss : List ByteArray) (ps : List Pr) (i f g y : ByteArray) (a d : Int) (t : ByteArray) (w : World) (h : LP w A n ss A2 n2 ps) (k : RsOk n c ss n2 c2 ps) (_hy : y.size ≤ maxLen) :
    Calls Try.prog 50 #[.slice A n c, .slice A2 n2 c2, .agg #[.int .i64 10, .string i, .string f, .string g, .string y, .int .i64 a, .int .i64 d, .string t]] w (TurnP (errs2 (usE ps y) (ss)) (errs2 (usE ps y) (usV ps y)) (usE ps y) w) := by
  have H := Lib.hid h
  have K := Lib.hid k
  have hn := k.ln
  have hn2 := k.ln2
  have HTS : Hid (∀ W, LP W A n ss A2 n2 ps → TS W (.slice A n c) ss) := Lib.hid fun W q => ⟨A, c, by rw [q.l.1], by rw [q.l.1]; exact q.l, by rw [q.l.1]; exact K.out.lc, K.out.cm⟩
  have HPV : Hid (∀ W, LP W A n ss A2 n2 ps → PV W (.slice A2 n2 c2) ps) := Lib.hid fun W q => ⟨A2, c2, by rw [q.p.1], by rw [q.p.1]; exact q.p, by rw [q.p.1]; exact K.out.lc2, K.out.cm2⟩
  clear h k
  have HC := Lib.hid (fun (W : World) (q1 : SlN W A n ss) (q2 : RdX prC 4 W A2 n2 ps) => eunset_any A2 n2 c2 ps y W q2 K.out.ln2 K.out.lc2 K.out.rp)
  generalize usE ps y = z at *
  generalize usV ps y = V at *
  have HB1 := Lib.hid (Below.refl w.heap.size w)
  go_enter Try.func50, Try.ntmps50
  have HF2 := Lib.hid (blk_new w (.cells #[.int .i64 10, .string i, .string f, .string g, .string y, .int .i64 a, .int .i64 d, .string t] 85 (0, 0)))
  have HB3 := Lib.hid (HB1.out.alloc HB1.out.size (.cells #[.int .i64 10, .string i, .string f, .string g, .string y, .int .i64 a, .int .i64 d, .string t] 85 (0, 0)))
  clear HB1
  go_wp2_with fail
  refine (clone_any A n c ss (w.alloc (.cells #[.int .i64 10, .string i, .string f, .string g, .string y, .int .i64 a, .int .i64 d, .string t] 85 (0, 0))) (H.out.below HB3.out).l (by omega)).mono ?_
  rintro e w1 ⟨v1, rfl, ht, hb1⟩
  have HF4 := Lib.hid (blk_below HF2.out hb1)
  have HB5 := Lib.hid (HB3.out.trans (hb1.mono (by have := HB3.out.size; simp at this ⊢ <;> omega)))
  clear hb1 HB3 HF2
  have HT1 := Lib.hid ht
  clear ht
  go_wp2_with fail
  refine (pclone_any A2 n2 c2 ps w1 (H.out.below HB5.out).p (by omega)).mono ?_
  rintro e w2 ⟨v2, rfl, hx, hb2⟩
  have HF6 := Lib.hid (blk_below HF4.out hb2)
  have HB7 := Lib.hid (HB5.out.trans (hb2.mono (by have := HB5.out.size; simp at this ⊢ <;> omega)))
  have HT2 := Lib.hid (HT1.out.laterT hb2)
  clear hb2 HB5 HF4
  have HX2 := Lib.hid (PV.own hx)
  clear hx HT1
  have hc8 : w2.cell? ⟨w.heap.size, 0, none⟩ = some (.int .i64 10) := by rw [cell_of_row _ _ _ _ _ _ HF6.out]; rfl
  have hc9 : w2.cell? ⟨w.heap.size, 4, none⟩ = some (.string y) := by rw [cell_of_row _ _ _ _ _ _ HF6.out]; rfl
  go_wp2_with fail
  clear hc8 hc9
  refine (HC.out w2 (H.out.below HB7.out).l (H.out.below HB7.out).p).mono ?_
  rintro e w3 ⟨v3, rfl, hx, hb3⟩
  have HF10 := Lib.hid (blk_below HF6.out hb3)
  have HB11 := Lib.hid (HB7.out.trans (hb3.mono (by have := HB7.out.size; simp at this ⊢ <;> omega)))
  have HT3 := Lib.hid (HT2.out.laterT hb3)
  have HX3 := Lib.hid (HX2.out.later hb3)
  clear hb3 HB7 HF6
  have HR3 := Lib.hid (PV.own hx)
  clear hx
  clear HT2 HX2
  by_cases hz : z = 0
  · subst hz
    go_wp2_with fail
    go_ret3
    exact ⟨v1, v3, rfl, by unfold errs2; rw [if_pos rfl]; exact HT3.out, by unfold errs2; rw [if_pos rfl]; exact HR3.out, HB11.out⟩
  · have hz1 : (z != 0) = true := by simpa using hz
    have HZ := Lib.hid hz
    clear hz
    go_wp2_with fail
    go_ret3
    exact ⟨.slice none 0 0, .slice none 0 0, rfl, by unfold errs2; rw [if_neg HZ.out]; exact TS.nil _, by unfold errs2; rw [if_neg HZ.out]; exact PV.nil _, HB11.out⟩
set_option maxRecDepth 100000 in
set_option maxHeartbeats 4000000 in
theorem gturn_12 (A A2 : Option Addr) (n c n2 c2 : Nat) (ss : List ByteArray) (ps : List Pr) (i f g y : ByteArray) (a d : Int) (t : ByteArray) (w : World) (h : LP w A n ss A2 n2 ps) (k : RsOk n c ss n2 c2 ps) (_hy : y.size ≤ maxLen) :
    Calls Try.prog 50 #[.slice A n c, .slice A2 n2 c2, .agg #[.int .i64 12, .string i, .string f, .string g, .string y, .int .i64 a, .int .i64 d, .string t]] w (TurnP (errs2 (usE ps y) (ss)) (errs2 (usE ps y) (usV ps y)) (usE ps y) w) := by
  have H := Lib.hid h
  have K := Lib.hid k
  have hn := k.ln
  have hn2 := k.ln2
  have HTS : Hid (∀ W, LP W A n ss A2 n2 ps → TS W (.slice A n c) ss) := Lib.hid fun W q => ⟨A, c, by rw [q.l.1], by rw [q.l.1]; exact q.l, by rw [q.l.1]; exact K.out.lc, K.out.cm⟩
  have HPV : Hid (∀ W, LP W A n ss A2 n2 ps → PV W (.slice A2 n2 c2) ps) := Lib.hid fun W q => ⟨A2, c2, by rw [q.p.1], by rw [q.p.1]; exact q.p, by rw [q.p.1]; exact K.out.lc2, K.out.cm2⟩
  clear h k
  have HC := Lib.hid (fun (W : World) (q1 : SlN W A n ss) (q2 : RdX prC 4 W A2 n2 ps) => eunset_any A2 n2 c2 ps y W q2 K.out.ln2 K.out.lc2 K.out.rp)
  generalize usE ps y = z at *
  generalize usV ps y = V at *
  have HB1 := Lib.hid (Below.refl w.heap.size w)
  go_enter Try.func50, Try.ntmps50
  have HF2 := Lib.hid (blk_new w (.cells #[.int .i64 12, .string i, .string f, .string g, .string y, .int .i64 a, .int .i64 d, .string t] 85 (0, 0)))
  have HB3 := Lib.hid (HB1.out.alloc HB1.out.size (.cells #[.int .i64 12, .string i, .string f, .string g, .string y, .int .i64 a, .int .i64 d, .string t] 85 (0, 0)))
  clear HB1
  go_wp2_with fail
  refine (clone_any A n c ss (w.alloc (.cells #[.int .i64 12, .string i, .string f, .string g, .string y, .int .i64 a, .int .i64 d, .string t] 85 (0, 0))) (H.out.below HB3.out).l (by omega)).mono ?_
  rintro e w1 ⟨v1, rfl, ht, hb1⟩
  have HF4 := Lib.hid (blk_below HF2.out hb1)
  have HB5 := Lib.hid (HB3.out.trans (hb1.mono (by have := HB3.out.size; simp at this ⊢ <;> omega)))
  clear hb1 HB3 HF2
  have HT1 := Lib.hid ht
  clear ht
  go_wp2_with fail
  refine (pclone_any A2 n2 c2 ps w1 (H.out.below HB5.out).p (by omega)).mono ?_
  rintro e w2 ⟨v2, rfl, hx, hb2⟩
  have HF6 := Lib.hid (blk_below HF4.out hb2)
  have HB7 := Lib.hid (HB5.out.trans (hb2.mono (by have := HB5.out.size; simp at this ⊢ <;> omega)))
  have HT2 := Lib.hid (HT1.out.laterT hb2)
  clear hb2 HB5 HF4
  have HX2 := Lib.hid (PV.own hx)
  clear hx HT1
  have hc8 : w2.cell? ⟨w.heap.size, 0, none⟩ = some (.int .i64 12) := by rw [cell_of_row _ _ _ _ _ _ HF6.out]; rfl
  have hc9 : w2.cell? ⟨w.heap.size, 4, none⟩ = some (.string y) := by rw [cell_of_row _ _ _ _ _ _ HF6.out]; rfl
  go_wp2_with fail
  clear hc8 hc9
  refine (HC.out w2 (H.out.below HB7.out).l (H.out.below HB7.out).p).mono ?_
  rintro e w3 ⟨v3, rfl, hx, hb3⟩
  have HF10 := Lib.hid (blk_below HF6.out hb3)
  have HB11 := Lib.hid (HB7.out.trans (hb3.mono (by have := HB7.out.size; simp at this ⊢ <;> omega)))
  have HT3 := Lib.hid (HT2.out.laterT hb3)
  have HX3 := Lib.hid (HX2.out.later hb3)
  clear hb3 HB7 HF6
  have HR3 := Lib.hid (PV.own hx)
  clear hx
  clear HT2 HX2
  by_cases hz : z = 0
  · subst hz
    go_wp2_with fail
    go_ret3
    exact ⟨v1, v3, rfl, by unfold errs2; rw [if_pos rfl]; exact HT3.out, by unfold errs2; rw [if_pos rfl]; exact HR3.out, HB11.out⟩
  · have hz1 : (z != 0) = true := by simpa using hz
    have HZ := Lib.hid hz
    clear hz
    go_wp2_with fail
    go_ret3
    exact ⟨.slice none 0 0, .slice none 0 0, rfl, by unfold errs2; rw [if_neg HZ.out]; exact TS.nil _, by unfold errs2; rw [if_neg HZ.out]; exact PV.nil _, HB11.out⟩
set_option maxRecDepth 100000 in
set_option maxHeartbeats 4000000 in
theorem rturn_10 (A A2 : Option Addr) (n c n2 c2 : Nat) (ss : List ByteArray) (ps : List Pr) (i f g y : ByteArray) (a d : Int) (t : ByteArray) (w : World) (h : LP w A n ss A2 n2 ps) (k : RsOk n c ss n2 c2 ps) (_hy : y.size ≤ maxLen) :
    Calls Try.prog 51 #[.slice A n c, .slice A2 n2 c2, .agg #[.int .i64 10, .string i, .string f, .string g, .string y, .int .i64 a, .int .i64 d, .string t]] w (TurnP (errs2 (usE ps y) (ss)) (errs2 (usE ps y) (usV ps y)) (usE ps y) w) := by
  have H := Lib.hid h
  have K := Lib.hid k
  have hn := k.ln
  have hn2 := k.ln2
  have HTS : Hid (∀ W, LP W A n ss A2 n2 ps → TS W (.slice A n c) ss) := Lib.hid fun W q => ⟨A, c, by rw [q.l.1], by rw [q.l.1]; exact q.l, by rw [q.l.1]; exact K.out.lc, K.out.cm⟩
  have HPV : Hid (∀ W, LP W A n ss A2 n2 ps → PV W (.slice A2 n2 c2) ps) := Lib.hid fun W q => ⟨A2, c2, by rw [q.p.1], by rw [q.p.1]; exact q.p, by rw [q.p.1]; exact K.out.lc2, K.out.cm2⟩
  clear h k
  have HC := Lib.hid (fun (W : World) (q1 : SlN W A n ss) (q2 : RdX prC 4 W A2 n2 ps) => runset_any A2 n2 c2 ps y W q2 K.out.ln2 K.out.lc2 K.out.rp)
  generalize usE ps y = z at *
  generalize usV ps y = V at *
  have HB1 := Lib.hid (Below.refl w.heap.size w)
  go_enter Try.func51, Try.ntmps51
  have HF2 := Lib.hid (blk_new w (.cells #[.int .i64 10, .string i, .string f, .string g, .string y, .int .i64 a, .int .i64 d, .string t] 85 (0, 0)))
  have HB3 := Lib.hid (HB1.out.alloc HB1.out.size (.cells #[.int .i64 10, .string i, .string f, .string g, .string y, .int .i64 a, .int .i64 d, .string t] 85 (0, 0)))
  clear HB1
  go_wp2_with fail
  have hc4 : (w.alloc (.cells #[.int .i64 10, .string i, .string f, .string g, .string y, .int .i64 a, .int .i64 d, .string t] 85 (0, 0))).cell? ⟨w.heap.size, 0, none⟩ = some (.int .i64 10) := by rw [cell_of_row _ _ _ _ _ _ HF2.out]; rfl
  have hc5 : (w.alloc (.cells #[.int .i64 10, .string i, .string f, .string g, .string y, .int .i64 a, .int .i64 d, .string t] 85 (0, 0))).cell? ⟨w.heap.size, 4, none⟩ = some (.string y) := by rw [cell_of_row _ _ _ _ _ _ HF2.out]; rfl
  go_wp2_with fail
  clear hc4 hc5
  refine (HC.out (w.alloc (.cells #[.int .i64 10, .string i, .string f, .string g, .string y, .int .i64 a, .int .i64 d, .string t] 85 (0, 0))) (H.out.below HB3.out).l (H.out.below HB3.out).p).mono ?_
  rintro e w1 ⟨v3, rfl, hx, hb1⟩
  have HF6 := Lib.hid (blk_below HF2.out hb1)
  have HB7 := Lib.hid (HB3.out.trans (hb1.mono (by have := HB3.out.size; simp at this ⊢ <;> omega)))
  clear hb1 HB3 HF2
  have HR3 := Lib.hid (PV.own hx)
  clear hx
  have HT3 := Lib.hid (HTS.out _ (H.out.below HB7.out))
  have HX3 := Lib.hid (HPV.out _ (H.out.below HB7.out))
  by_cases hz : z = 0
  · subst hz
    have hc8 : w1.cell? ⟨w.heap.size, 0, none⟩ = some (.int .i64 10) := by rw [cell_of_row _ _ _ _ _ _ HF6.out]; rfl
    go_wp2_with fail
    go_ret3
    exact ⟨(.slice A n c), v3, rfl, by unfold errs2; rw [if_pos rfl]; exact HT3.out, by unfold errs2; rw [if_pos rfl]; exact HR3.out, HB7.out⟩
  · have hz1 : (z != 0) = true := by simpa using hz
    have HZ := Lib.hid hz
    clear hz
    have hc8 : w1.cell? ⟨w.heap.size, 0, none⟩ = some (.int .i64 10) := by rw [cell_of_row _ _ _ _ _ _ HF6.out]; rfl
    go_wp2_with fail
    go_ret3
    exact ⟨.slice none 0 0, .slice none 0 0, rfl, by unfold errs2; rw [if_neg HZ.out]; exact TS.nil _, by unfold errs2; rw [if_neg HZ.out]; exact PV.nil _, HB7.out⟩
set_option maxRecDepth 100000 in
set_option maxHeartbeats 4000000 in
theorem rturn_12 (A A2 : Option Addr) (n c n2 c2 : Nat) (ss : List ByteArray) (ps : List Pr) (i f g y : ByteArray) (a d : Int) (t : ByteArray) (w : World) (h : LP w A n ss A2 n2 ps) (k : RsOk n c ss n2 c2 ps) (_hy : y.size ≤ maxLen) :
    Calls Try.prog 51 #[.slice A n c, .slice A2 n2 c2, .agg #[.int .i64 12, .string i, .string f, .string g, .string y, .int .i64 a, .int .i64 d, .string t]] w (TurnP (errs2 (usE ps y) (ss)) (errs2 (usE ps y) (usV ps y)) (usE ps y) w) := by
  have H := Lib.hid h
  have K := Lib.hid k
  have hn := k.ln
  have hn2 := k.ln2
  have HTS : Hid (∀ W, LP W A n ss A2 n2 ps → TS W (.slice A n c) ss) := Lib.hid fun W q => ⟨A, c, by rw [q.l.1], by rw [q.l.1]; exact q.l, by rw [q.l.1]; exact K.out.lc, K.out.cm⟩
  have HPV : Hid (∀ W, LP W A n ss A2 n2 ps → PV W (.slice A2 n2 c2) ps) := Lib.hid fun W q => ⟨A2, c2, by rw [q.p.1], by rw [q.p.1]; exact q.p, by rw [q.p.1]; exact K.out.lc2, K.out.cm2⟩
  clear h k
  have HC := Lib.hid (fun (W : World) (q1 : SlN W A n ss) (q2 : RdX prC 4 W A2 n2 ps) => runset_any A2 n2 c2 ps y W q2 K.out.ln2 K.out.lc2 K.out.rp)
  generalize usE ps y = z at *
  generalize usV ps y = V at *
  have HB1 := Lib.hid (Below.refl w.heap.size w)
  go_enter Try.func51, Try.ntmps51
  have HF2 := Lib.hid (blk_new w (.cells #[.int .i64 12, .string i, .string f, .string g, .string y, .int .i64 a, .int .i64 d, .string t] 85 (0, 0)))
  have HB3 := Lib.hid (HB1.out.alloc HB1.out.size (.cells #[.int .i64 12, .string i, .string f, .string g, .string y, .int .i64 a, .int .i64 d, .string t] 85 (0, 0)))
  clear HB1
  go_wp2_with fail
  have hc4 : (w.alloc (.cells #[.int .i64 12, .string i, .string f, .string g, .string y, .int .i64 a, .int .i64 d, .string t] 85 (0, 0))).cell? ⟨w.heap.size, 0, none⟩ = some (.int .i64 12) := by rw [cell_of_row _ _ _ _ _ _ HF2.out]; rfl
  have hc5 : (w.alloc (.cells #[.int .i64 12, .string i, .string f, .string g, .string y, .int .i64 a, .int .i64 d, .string t] 85 (0, 0))).cell? ⟨w.heap.size, 4, none⟩ = some (.string y) := by rw [cell_of_row _ _ _ _ _ _ HF2.out]; rfl
  go_wp2_with fail
  clear hc4 hc5
  refine (HC.out (w.alloc (.cells #[.int .i64 12, .string i, .string f, .string g, .string y, .int .i64 a, .int .i64 d, .string t] 85 (0, 0))) (H.out.below HB3.out).l (H.out.below HB3.out).p).mono ?_
  rintro e w1 ⟨v3, rfl, hx, hb1⟩
  have HF6 := Lib.hid (blk_below HF2.out hb1)
  have HB7 := Lib.hid (HB3.out.trans (hb1.mono (by have := HB3.out.size; simp at this ⊢ <;> omega)))
  clear hb1 HB3 HF2
  have HR3 := Lib.hid (PV.own hx)
  clear hx
  have HT3 := Lib.hid (HTS.out _ (H.out.below HB7.out))
  have HX3 := Lib.hid (HPV.out _ (H.out.below HB7.out))
  by_cases hz : z = 0
  · subst hz
    have hc8 : w1.cell? ⟨w.heap.size, 0, none⟩ = some (.int .i64 12) := by rw [cell_of_row _ _ _ _ _ _ HF6.out]; rfl
    go_wp2_with fail
    go_ret3
    exact ⟨(.slice A n c), v3, rfl, by unfold errs2; rw [if_pos rfl]; exact HT3.out, by unfold errs2; rw [if_pos rfl]; exact HR3.out, HB7.out⟩
  · have hz1 : (z != 0) = true := by simpa using hz
    have HZ := Lib.hid hz
    clear hz
    have hc8 : w1.cell? ⟨w.heap.size, 0, none⟩ = some (.int .i64 12) := by rw [cell_of_row _ _ _ _ _ _ HF6.out]; rfl
    go_wp2_with fail
    go_ret3
    exact ⟨.slice none 0 0, .slice none 0 0, rfl, by unfold errs2; rw [if_neg HZ.out]; exact TS.nil _, by unfold errs2; rw [if_neg HZ.out]; exact PV.nil _, HB7.out⟩
set_option maxRecDepth 100000 in
set_option maxHeartbeats 4000000 in
theorem gturn_no (A A2 : Option Addr) (n c n2 c2 : Nat) (ss : List ByteArray) (ps : List Pr) (o : Int) (i f g y : ByteArray) (a d : Int) (t : ByteArray) (w : World) (h : LP w A n ss A2 n2 ps) (k : RsOk n c ss n2 c2 ps) (_hy : y.size ≤ maxLen) (ho : o < 5 ∨ 12 < o) :
    Calls Try.prog 50 #[.slice A n c, .slice A2 n2 c2, .agg #[.int .i64 o, .string i, .string f, .string g, .string y, .int .i64 a, .int .i64 d, .string t]] w (TurnP ([]) ([]) (2) w) := by
  have H := Lib.hid h
  have K := Lib.hid k
  have hn := k.ln
  have hn2 := k.ln2
  have HTS : Hid (∀ W, LP W A n ss A2 n2 ps → TS W (.slice A n c) ss) := Lib.hid fun W q => ⟨A, c, by rw [q.l.1], by rw [q.l.1]; exact q.l, by rw [q.l.1]; exact K.out.lc, K.out.cm⟩
  have HPV : Hid (∀ W, LP W A n ss A2 n2 ps → PV W (.slice A2 n2 c2) ps) := Lib.hid fun W q => ⟨A2, c2, by rw [q.p.1], by rw [q.p.1]; exact q.p, by rw [q.p.1]; exact K.out.lc2, K.out.cm2⟩
  clear h k
  have e5 : (o == 5) = false := by simp; omega
  have e6 : (o == 6) = false := by simp; omega
  have e7 : (o == 7) = false := by simp; omega
  have e8 : (o == 8) = false := by simp; omega
  have e9 : (o == 9) = false := by simp; omega
  have e10 : (o == 10) = false := by simp; omega
  have e11 : (o == 11) = false := by simp; omega
  have e12 : (o == 12) = false := by simp; omega
  clear ho
  have HB1 := Lib.hid (Below.refl w.heap.size w)
  go_enter Try.func50, Try.ntmps50
  have HF2 := Lib.hid (blk_new w (.cells #[.int .i64 o, .string i, .string f, .string g, .string y, .int .i64 a, .int .i64 d, .string t] 85 (0, 0)))
  have HB3 := Lib.hid (HB1.out.alloc HB1.out.size (.cells #[.int .i64 o, .string i, .string f, .string g, .string y, .int .i64 a, .int .i64 d, .string t] 85 (0, 0)))
  clear HB1
  go_wp2_with fail
  refine (clone_any A n c ss (w.alloc (.cells #[.int .i64 o, .string i, .string f, .string g, .string y, .int .i64 a, .int .i64 d, .string t] 85 (0, 0))) (H.out.below HB3.out).l (by omega)).mono ?_
  rintro e w1 ⟨v1, rfl, ht, hb1⟩
  have HF4 := Lib.hid (blk_below HF2.out hb1)
  have HB5 := Lib.hid (HB3.out.trans (hb1.mono (by have := HB3.out.size; simp at this ⊢ <;> omega)))
  clear hb1 HB3 HF2
  have HT1 := Lib.hid ht
  clear ht
  go_wp2_with fail
  refine (pclone_any A2 n2 c2 ps w1 (H.out.below HB5.out).p (by omega)).mono ?_
  rintro e w2 ⟨v2, rfl, hx, hb2⟩
  have HF6 := Lib.hid (blk_below HF4.out hb2)
  have HB7 := Lib.hid (HB5.out.trans (hb2.mono (by have := HB5.out.size; simp at this ⊢ <;> omega)))
  have HT2 := Lib.hid (HT1.out.laterT hb2)
  clear hb2 HB5 HF4
  have HX2 := Lib.hid (PV.own hx)
  clear hx HT1
  have hc8 : w2.cell? ⟨w.heap.size, 0, none⟩ = some (.int .i64 o) := by rw [cell_of_row _ _ _ _ _ _ HF6.out]; rfl
  go_wp2_with fail
  clear hc8
  go_ret3
  exact ⟨.slice none 0 0, .slice none 0 0, rfl, TS.nil _, PV.nil _, HB7.out⟩
set_option maxRecDepth 100000 in
set_option maxHeartbeats 4000000 in
theorem rturn_no (A A2 : Option Addr) (n c n2 c2 : Nat) (ss : List ByteArray) (ps : List Pr) (o : Int) (i f g y : ByteArray) (a d : Int) (t : ByteArray) (w : World) (h : LP w A n ss A2 n2 ps) (k : RsOk n c ss n2 c2 ps) (_hy : y.size ≤ maxLen) (ho : o < 5 ∨ 12 < o) :
    Calls Try.prog 51 #[.slice A n c, .slice A2 n2 c2, .agg #[.int .i64 o, .string i, .string f, .string g, .string y, .int .i64 a, .int .i64 d, .string t]] w (TurnP ([]) ([]) (2) w) := by
  have H := Lib.hid h
  have K := Lib.hid k
  have hn := k.ln
  have hn2 := k.ln2
  have HTS : Hid (∀ W, LP W A n ss A2 n2 ps → TS W (.slice A n c) ss) := Lib.hid fun W q => ⟨A, c, by rw [q.l.1], by rw [q.l.1]; exact q.l, by rw [q.l.1]; exact K.out.lc, K.out.cm⟩
  have HPV : Hid (∀ W, LP W A n ss A2 n2 ps → PV W (.slice A2 n2 c2) ps) := Lib.hid fun W q => ⟨A2, c2, by rw [q.p.1], by rw [q.p.1]; exact q.p, by rw [q.p.1]; exact K.out.lc2, K.out.cm2⟩
  clear h k
  have e5 : (o == 5) = false := by simp; omega
  have e6 : (o == 6) = false := by simp; omega
  have e7 : (o == 7) = false := by simp; omega
  have e8 : (o == 8) = false := by simp; omega
  have e9 : (o == 9) = false := by simp; omega
  have e10 : (o == 10) = false := by simp; omega
  have e11 : (o == 11) = false := by simp; omega
  have e12 : (o == 12) = false := by simp; omega
  clear ho
  have HB1 := Lib.hid (Below.refl w.heap.size w)
  go_enter Try.func51, Try.ntmps51
  have HF2 := Lib.hid (blk_new w (.cells #[.int .i64 o, .string i, .string f, .string g, .string y, .int .i64 a, .int .i64 d, .string t] 85 (0, 0)))
  have HB3 := Lib.hid (HB1.out.alloc HB1.out.size (.cells #[.int .i64 o, .string i, .string f, .string g, .string y, .int .i64 a, .int .i64 d, .string t] 85 (0, 0)))
  clear HB1
  go_wp2_with fail
  have hc4 : (w.alloc (.cells #[.int .i64 o, .string i, .string f, .string g, .string y, .int .i64 a, .int .i64 d, .string t] 85 (0, 0))).cell? ⟨w.heap.size, 0, none⟩ = some (.int .i64 o) := by rw [cell_of_row _ _ _ _ _ _ HF2.out]; rfl
  go_wp2_with fail
  clear hc4
  go_ret3
  exact ⟨.slice none 0 0, .slice none 0 0, rfl, TS.nil _, PV.nil _, HB3.out⟩
end Go.Proofs.Ytjnichiblljmjaa

namespace Go.Proofs.Ytjnichiblljmjaa
open Go.RowKit Vi

abbrev OpD := Int × ByteArray × ByteArray × ByteArray × ByteArray × Int × Int × ByteArray
def opC (x : OpD) : List Value := [.int .i64 x.1, .string x.2.1, .string x.2.2.1, .string x.2.2.2.1, .string x.2.2.2.2.1, .int .i64 x.2.2.2.2.2.1, .int .i64 x.2.2.2.2.2.2.1, .string x.2.2.2.2.2.2.2]
set_option maxRecDepth 100000 in
set_option maxHeartbeats 4000000 in
theorem fewops_any (A : Option Addr) (n c : Nat) (l : List OpD) (w : World) (h : RdX opC 8 w A n l) (hm : n ≤ maxLen) :
    Calls Try.prog 45 #[.slice A n c] w (RetBool (n ≤ 70) w) := by
  have H := Lib.hid h
  unfold maxLen at hm
  clear h
  have HB1 := Lib.hid (Below.refl w.heap.size w)
  go_enter Try.func45, Try.ntmps45
  go_wp2_with fail
  go_loopw [3, 4] (fun s i wr => ∃ k m : Nat, s = .int .i64 (m : Int) ∧ i = .int .i64 (k : Int) ∧ k ≤ n ∧ k ≤ 71 ∧ m ≤ 25000 * k ∧ Below w.heap.size w wr) (fun _ i _ => n - (intOf i).toNat)
  case atStart => exact ⟨0, 0, rfl, rfl, Nat.zero_le _, by omega, by omega, HB1.out⟩
  case round =>
    obtain ⟨k, m, rfl, rfl, hk, hk1, hmm, hb⟩ := hrel
    have HB := Lib.hid hb
    clear hb
    by_cases hlt : k < n ∧ k ≤ 70
    · obtain ⟨hlt, h20⟩ := hlt
      have hd1 : decide ((k : Int) < (n : Int)) = true := decide_eq_true (by omega)
      have hd2 : decide ((k : Int) ≤ 70) = true := decide_eq_true (by omega)
      obtain ⟨b, off, hl, rfl, hbb, _⟩ := (H.out.below HB.out).at hlt
      obtain ⟨x, hx⟩ : ∃ x, l[k] = x := ⟨_, rfl⟩
      have HX := Lib.hid (show l[k]? = some x by rw [List.getElem?_eq_getElem hl, hx])
      obtain ⟨o, i, f, g, y, a, d, t⟩ := x
      have hi0 : (0 : Int) ≤ (k : Int) := by omega
      clear hx
      have hv0 : IntKind.i64.wrap ((m : Int) + min (i.size : Int) 5000) = (m : Int) + min (i.size : Int) 5000 := IntWalk.i64_in _ (by omega)
      have hv1 : IntKind.i64.wrap (((m : Int) + min (i.size : Int) 5000) + min (f.size : Int) 5000) = ((m : Int) + min (i.size : Int) 5000) + min (f.size : Int) 5000 := IntWalk.i64_in _ (by omega)
      have hv2 : IntKind.i64.wrap ((((m : Int) + min (i.size : Int) 5000) + min (f.size : Int) 5000) + min (g.size : Int) 5000) = (((m : Int) + min (i.size : Int) 5000) + min (f.size : Int) 5000) + min (g.size : Int) 5000 := IntWalk.i64_in _ (by omega)
      have hv3 : IntKind.i64.wrap (((((m : Int) + min (i.size : Int) 5000) + min (f.size : Int) 5000) + min (g.size : Int) 5000) + min (y.size : Int) 5000) = ((((m : Int) + min (i.size : Int) 5000) + min (f.size : Int) 5000) + min (g.size : Int) 5000) + min (y.size : Int) 5000 := IntWalk.i64_in _ (by omega)
      have hv4 : IntKind.i64.wrap ((((((m : Int) + min (i.size : Int) 5000) + min (f.size : Int) 5000) + min (g.size : Int) 5000) + min (y.size : Int) 5000) + min (t.size : Int) 5000) = (((((m : Int) + min (i.size : Int) 5000) + min (f.size : Int) 5000) + min (g.size : Int) 5000) + min (y.size : Int) 5000) + min (t.size : Int) 5000 := IntWalk.i64_in _ (by omega)
      have hc101 : wr.cell? ⟨b, off + k * 8 + 1, none⟩ = some (.string i) := (H.out.below HB.out).cellAt HX.out hlt 1 _ rfl
      have hc102 : wr.cell? ⟨b, off + k * 8 + 2, none⟩ = some (.string f) := (H.out.below HB.out).cellAt HX.out hlt 2 _ rfl
      have hc103 : wr.cell? ⟨b, off + k * 8 + 3, none⟩ = some (.string g) := (H.out.below HB.out).cellAt HX.out hlt 3 _ rfl
      have hc104 : wr.cell? ⟨b, off + k * 8 + 4, none⟩ = some (.string y) := (H.out.below HB.out).cellAt HX.out hlt 4 _ rfl
      have hc105 : wr.cell? ⟨b, off + k * 8 + 7, none⟩ = some (.string t) := (H.out.below HB.out).cellAt HX.out hlt 7 _ rfl
      go_wp2_with fail
      have Rhc101 := fun d os => cell_regrown hc101 d os
      have Rhc102 := fun d os => cell_regrown hc102 d os
      have Rhc103 := fun d os => cell_regrown hc103 d os
      have Rhc104 := fun d os => cell_regrown hc104 d os
      have Rhc105 := fun d os => cell_regrown hc105 d os
      refine wp_region_quiet_below (by kernel_rfl) (by kernel_rfl) ?_
      repeat (any_goals (first | go_big_quiet_step (fail) | quiet_step (fail) | (refine wpQuiet_step (fun K hK => ?_); go_simp; refine hK _ ?_; clear hK K)))
      refine wpQuiet_nil ?_
      intro w11 hw11
      have hb11 := below_anyY hw11
      clear hw11 Rhc101 Rhc102 Rhc103 Rhc104 Rhc105
      clear hc101 hc102 hc103 hc104 hc105
      have HB2 := Lib.hid (HB.out.trans (hb11.mono HB.out.size))
      clear hb11
      clear hv0 hv1 hv2 hv3 hv4
      go_wp2_with fail
      go_roundw
      case rel => exact ⟨k + 1, m + min i.size 5000 + min f.size 5000 + min g.size 5000 + min y.size 5000 + min t.size 5000, nat_eq (by omega), by go_num, by omega, by omega, by omega, HB2.out⟩
      case measure => simp [intOf] <;> omega
    · have hd0 : (decide ((k : Int) < (n : Int)) = false) ∨ (decide ((k : Int) < (n : Int)) = true ∧ decide ((k : Int) ≤ 70) = false) := by
        by_cases h1 : k < n
        · exact Or.inr ⟨decide_eq_true (by omega), decide_eq_false (by omega)⟩
        · exact Or.inl (decide_eq_false (by omega))
      by_cases h2 : n ≤ 70
      · have d2 : decide ((n : Int) ≤ 70) = true := decide_eq_true (by omega)
        rcases hd0 with hd1 | ⟨hd1, hd2⟩
        all_goals
          go_wp2_with fail
          all_goals
            go_ret
            exact ⟨_, rfl, (fun _ => h2), HB.out⟩
      · have d2 : decide ((n : Int) ≤ 70) = false := decide_eq_false (by omega)
        rcases hd0 with hd1 | ⟨hd1, hd2⟩
        all_goals
          go_wp2_with fail
          all_goals
            go_ret
            exact ⟨_, rfl, (fun h => by cases h), HB.out⟩
theorem wrN_zero : ∀ (p : ByteArray) (X : List Nd), wrN p X = 0 → ∀ x ∈ X, ndE x = 0
  | _, [], _, x, hx => by cases hx
  | p, y :: r, h, x, hx => by
    unfold wrN at h
    by_cases hy : ndE y = 0
    · rw [if_neg (by simpa using hy)] at h
      split at h
      · cases h
      · rcases List.mem_cons.1 hx with rfl | hx
        · exact hy
        · exact wrN_zero _ r h x hx
    · rw [if_pos hy] at h; exact absurd h hy
theorem gW_nodes {X : List Nd} {Y : List Ed} (h : gW X Y = 0) : ∀ x ∈ X, ndE x = 0 := by
  unfold gW at h
  split at h
  · cases h
  · split at h
    · next h1 => exact absurd h h1
    · next h1 => exact wrN_zero _ X (by simpa using h1)
theorem both_turn (A A2 : Option Addr) (n c n2 c2 : Nat) (ss : List ByteArray) (ps : List Pr) (o : Int) (i f g y : ByteArray) (a d : Int) (t : ByteArray) (k : RsOk n c ss n2 c2 ps) (hy : y.size ≤ maxLen) :
    ∃ (SS : List ByteArray) (PS : List Pr) (z : Int), Hid (∀ (W : World), LP W A n ss A2 n2 ps → Calls Try.prog 50 #[.slice A n c, .slice A2 n2 c2, .agg #[.int .i64 o, .string i, .string f, .string g, .string y, .int .i64 a, .int .i64 d, .string t]] W (TurnP SS PS z W)) ∧
      Hid (∀ (W : World), LP W A n ss A2 n2 ps → Calls Try.prog 51 #[.slice A n c, .slice A2 n2 c2, .agg #[.int .i64 o, .string i, .string f, .string g, .string y, .int .i64 a, .int .i64 d, .string t]] W (TurnP SS PS z W)) := by
  by_cases hno : o < 5 ∨ 12 < o
  · exact ⟨_, _, _, Lib.hid fun W q => gturn_no A A2 n c n2 c2 ss ps o i f g y a d t W q k hy hno, Lib.hid fun W q => rturn_no A A2 n c n2 c2 ss ps o i f g y a d t W q k hy hno⟩
  by_cases h5 : o = 5
  · subst h5
    exact ⟨_, _, _, Lib.hid fun W q => gturn_5 A A2 n c n2 c2 ss ps i f g y a d t W q k hy, Lib.hid fun W q => rturn_5 A A2 n c n2 c2 ss ps i f g y a d t W q k hy⟩
  by_cases h6 : o = 6
  · subst h6
    exact ⟨_, _, _, Lib.hid fun W q => gturn_6 A A2 n c n2 c2 ss ps i f g y a d t W q k hy, Lib.hid fun W q => rturn_6 A A2 n c n2 c2 ss ps i f g y a d t W q k hy⟩
  by_cases h7 : o = 7
  · subst h7
    exact ⟨_, _, _, Lib.hid fun W q => gturn_7 A A2 n c n2 c2 ss ps i f g y a d t W q k hy, Lib.hid fun W q => rturn_7 A A2 n c n2 c2 ss ps i f g y a d t W q k hy⟩
  by_cases h8 : o = 8
  · subst h8
    exact ⟨_, _, _, Lib.hid fun W q => gturn_8 A A2 n c n2 c2 ss ps i f g y a d t W q k hy, Lib.hid fun W q => rturn_8 A A2 n c n2 c2 ss ps i f g y a d t W q k hy⟩
  by_cases h9 : o = 9
  · subst h9
    exact ⟨_, _, _, Lib.hid fun W q => gturn_9 A A2 n c n2 c2 ss ps i f g y a d t W q k hy, Lib.hid fun W q => rturn_9 A A2 n c n2 c2 ss ps i f g y a d t W q k hy⟩
  by_cases h10 : o = 10
  · subst h10
    exact ⟨_, _, _, Lib.hid fun W q => gturn_10 A A2 n c n2 c2 ss ps i f g y a d t W q k hy, Lib.hid fun W q => rturn_10 A A2 n c n2 c2 ss ps i f g y a d t W q k hy⟩
  by_cases h11 : o = 11
  · subst h11
    exact ⟨_, _, _, Lib.hid fun W q => gturn_11 A A2 n c n2 c2 ss ps i f g y a d t W q k hy, Lib.hid fun W q => rturn_11 A A2 n c n2 c2 ss ps i f g y a d t W q k hy⟩
  by_cases h12 : o = 12
  · subst h12
    exact ⟨_, _, _, Lib.hid fun W q => gturn_12 A A2 n c n2 c2 ss ps i f g y a d t W q k hy, Lib.hid fun W q => rturn_12 A A2 n c n2 c2 ss ps i f g y a d t W q k hy⟩
  exact absurd hno (by omega)
theorem both_right (o : Int) (i f g y : ByteArray) (a d : Int) (t : ByteArray) (hi : i.size ≤ maxLen) (hf : f.size ≤ maxLen) (hg : g.size ≤ maxLen) (hy : y.size ≤ maxLen) :
    ∃ b : Bool, Hid (∀ W, Calls Try.prog 47 #[.agg #[.int .i64 o, .string i, .string f, .string g, .string y, .int .i64 a, .int .i64 d, .string t]] W fun e w' => e = .returned (.bool b) ∧ Below W.heap.size W w') ∧
      Hid (∀ W, Calls Try.prog 48 #[.agg #[.int .i64 o, .string i, .string f, .string g, .string y, .int .i64 a, .int .i64 d, .string t]] W fun e w' => e = .returned (.int .i64 (rightE b)) ∧ Below W.heap.size W w') := by
  by_cases hno : o < 1 ∨ 12 < o
  · have e : rightB o i f g y a d t = false := by
      unfold rightB
      rcases hno with h | h
      · rw [decide_eq_false (show ¬ 1 ≤ o by omega)]; simp
      · rw [decide_eq_false (show ¬ o ≤ 12 by omega)]; simp
    exact ⟨false, Lib.hid fun W => e ▸ rright_no o i f g y a d t W hi hno, Lib.hid fun W => gright_no o i f g y a d t W hno⟩
  by_cases h1 : o = 1
  · subst h1
    exact ⟨_, Lib.hid fun W => rright_1 i f g y a d t W hi hf hg hy, Lib.hid fun W => gright_1 i f g y a d t W hi hf hg hy⟩
  by_cases h2 : o = 2
  · subst h2
    exact ⟨_, Lib.hid fun W => rright_2 i f g y a d t W hi hf hg hy, Lib.hid fun W => gright_2 i f g y a d t W hi hf hg hy⟩
  by_cases h3 : o = 3
  · subst h3
    exact ⟨_, Lib.hid fun W => rright_3 i f g y a d t W hi hf hg hy, Lib.hid fun W => gright_3 i f g y a d t W hi hf hg hy⟩
  by_cases h4 : o = 4
  · subst h4
    exact ⟨_, Lib.hid fun W => rright_4 i f g y a d t W hi hf hg hy, Lib.hid fun W => gright_4 i f g y a d t W hi hf hg hy⟩
  by_cases h5 : o = 5
  · subst h5
    exact ⟨_, Lib.hid fun W => rright_5 i f g y a d t W hi hf hg hy, Lib.hid fun W => gright_5 i f g y a d t W hi hf hg hy⟩
  by_cases h6 : o = 6
  · subst h6
    exact ⟨_, Lib.hid fun W => rright_6 i f g y a d t W hi hf hg hy, Lib.hid fun W => gright_6 i f g y a d t W hi hf hg hy⟩
  by_cases h7 : o = 7
  · subst h7
    exact ⟨_, Lib.hid fun W => rright_7 i f g y a d t W hi hf hg hy, Lib.hid fun W => gright_7 i f g y a d t W hi hf hg hy⟩
  by_cases h8 : o = 8
  · subst h8
    exact ⟨_, Lib.hid fun W => rright_8 i f g y a d t W hi hf hg hy, Lib.hid fun W => gright_8 i f g y a d t W hi hf hg hy⟩
  by_cases h9 : o = 9
  · subst h9
    exact ⟨_, Lib.hid fun W => rright_9 i f g y a d t W hi hf hg hy, Lib.hid fun W => gright_9 i f g y a d t W hi hf hg hy⟩
  by_cases h10 : o = 10
  · subst h10
    exact ⟨_, Lib.hid fun W => rright_10 i f g y a d t W hi hf hg hy, Lib.hid fun W => gright_10 i f g y a d t W hi hf hg hy⟩
  by_cases h11 : o = 11
  · subst h11
    exact ⟨_, Lib.hid fun W => rright_11 i f g y a d t W hi hf hg hy, Lib.hid fun W => gright_11 i f g y a d t W hi hf hg hy⟩
  by_cases h12 : o = 12
  · subst h12
    exact ⟨_, Lib.hid fun W => rright_12 i f g y a d t W hi hf hg hy, Lib.hid fun W => gright_12 i f g y a d t W hi hf hg hy⟩
  exact absurd hno (by omega)
end Go.Proofs.Ytjnichiblljmjaa

namespace Go.Proofs.Ytjnichiblljmjaa
open Go.RowKit Vi Go.WideMaps Go.Maps

set_option maxRecDepth 100000 in
theorem ofedge_no (k : Int) (w : World) (e7 : (k == 7) = false) (e8 : (k == 8) = false) (e11 : (k == 11) = false) (e12 : (k == 12) = false) : Calls Try.prog 49 #[.int .i64 k] w fun e w' => e = .returned (.bool false) ∧ w = w' := by
  go_enter Try.func49, Try.ntmps49
  go_wp2_with fail
  go_ret
  exact ⟨rfl, rfl⟩
set_option maxRecDepth 100000 in
theorem ofedge_7 (w : World) : Calls Try.prog 49 #[.int .i64 7] w fun e w' => e = .returned (.bool true) ∧ w = w' := by
  go_enter Try.func49, Try.ntmps49
  go_wp2_with fail
  go_ret
  exact ⟨rfl, rfl⟩
set_option maxRecDepth 100000 in
theorem ofedge_8 (w : World) : Calls Try.prog 49 #[.int .i64 8] w fun e w' => e = .returned (.bool true) ∧ w = w' := by
  go_enter Try.func49, Try.ntmps49
  go_wp2_with fail
  go_ret
  exact ⟨rfl, rfl⟩
set_option maxRecDepth 100000 in
theorem ofedge_11 (w : World) : Calls Try.prog 49 #[.int .i64 11] w fun e w' => e = .returned (.bool true) ∧ w = w' := by
  go_enter Try.func49, Try.ntmps49
  go_wp2_with fail
  go_ret
  exact ⟨rfl, rfl⟩
set_option maxRecDepth 100000 in
theorem ofedge_12 (w : World) : Calls Try.prog 49 #[.int .i64 12] w fun e w' => e = .returned (.bool true) ∧ w = w' := by
  go_enter Try.func49, Try.ntmps49
  go_wp2_with fail
  go_ret
  exact ⟨rfl, rfl⟩
set_option maxRecDepth 100000 in
theorem gnodes0 (m : Value) (w : World) : Calls Try.prog 104 #[.slice none 0 0, m] w fun e w' => e = .returned (.int .i64 0) ∧ w = w' := by
  go_enter Try.func104, Try.ntmps104
  go_wp2_with fail
  go_loop [11] (fun i => i = .int .i64 0) (fun _ => 0)
  case atStart => exact rfl
  case round =>
    subst hrel
    go_wp2_with fail
    go_ret
    exact ⟨rfl, rfl⟩
set_option maxRecDepth 100000 in
theorem gedges00 (m : Value) (w : World) : Calls Try.prog 105 #[.slice none 0 0, m] w fun e w' => e = .returned (.int .i64 0) ∧ w = w' := by
  go_enter Try.func105, Try.ntmps105
  go_wp2_with fail
  go_loop [15] (fun i => i = .int .i64 0) (fun _ => 0)
  case atStart => exact rfl
  case round =>
    subst hrel
    go_wp2_with fail
    go_ret
    exact ⟨rfl, rfl⟩
set_option maxRecDepth 100000 in
theorem npick0 (f g : Value) (w : World) : Calls Try.prog 106 #[.slice none 0 0, f, g] w fun e w' => e = .returned (.slice none 0 0) ∧ w = w' := by
  go_enter Try.func106, Try.ntmps106
  go_wp2_with fail
  go_loop [7, 12] (fun p i => p = .slice none 0 0 ∧ i = .int .i64 0) (fun _ _ => 0)
  case atStart => exact ⟨rfl, rfl⟩
  case round =>
    obtain ⟨rfl, rfl⟩ := hrel
    go_wp2_with fail
    go_ret
    exact ⟨rfl, rfl⟩
set_option maxRecDepth 100000 in
theorem epick0 (f g : Value) (w : World) : Calls Try.prog 109 #[.slice none 0 0, f, g] w fun e w' => e = .returned (.slice none 0 0) ∧ w = w' := by
  go_enter Try.func109, Try.ntmps109
  go_wp2_with fail
  go_loop [7, 12] (fun p i => p = .slice none 0 0 ∧ i = .int .i64 0) (fun _ _ => 0)
  case atStart => exact ⟨rfl, rfl⟩
  case round =>
    obtain ⟨rfl, rfl⟩ := hrel
    go_wp2_with fail
    go_ret
    exact ⟨rfl, rfl⟩
set_option maxRecDepth 100000 in
theorem nbsf0 (s : ByteArray) (f : Value) (w : World) : Calls Try.prog 221 #[.slice none 0 0, .string s, f] w fun e w' => e = .returned (.tuple #[.int .i64 0, .bool false]) ∧ w = w' := by
  go_enter Try.func221, Try.ntmps221
  go_wp2_with fail
  go_loop [9, 10, 11] (fun i j _ => i = .int .i64 0 ∧ j = .int .i64 0) (fun _ _ _ => 0)
  case atStart => exact ⟨rfl, rfl⟩
  case round =>
    obtain ⟨rfl, rfl⟩ := hrel
    go_wp2_with fail
    go_ret2
    exact ⟨rfl, rfl⟩
set_option maxRecDepth 100000 in
theorem ebsf0 (s : ByteArray) (f : Value) (w : World) : Calls Try.prog 225 #[.slice none 0 0, .string s, f] w fun e w' => e = .returned (.tuple #[.int .i64 0, .bool false]) ∧ w = w' := by
  go_enter Try.func225, Try.ntmps225
  go_wp2_with fail
  go_loop [9, 10, 11] (fun i j _ => i = .int .i64 0 ∧ j = .int .i64 0) (fun _ _ _ => 0)
  case atStart => exact ⟨rfl, rfl⟩
  case round =>
    obtain ⟨rfl, rfl⟩ := hrel
    go_wp2_with fail
    go_ret2
    exact ⟨rfl, rfl⟩
set_option maxRecDepth 100000 in
theorem nfind0 (s : ByteArray) (w : World) : Calls Try.prog 204 #[.slice none 0 0, .string s] w fun e w' => e = .returned (.tuple #[.int .i64 0, .bool false]) ∧ w = w' := by
  go_enter Try.func204, Try.ntmps204
  go_wp2_with fail
  refine (nbsf0 _ _ _).mono ?_
  rintro e w' ⟨rfl, rfl⟩
  go_wp2_with fail
  go_ret2
  exact ⟨rfl, rfl⟩
set_option maxRecDepth 100000 in
theorem efind0 (s : ByteArray) (w : World) : Calls Try.prog 207 #[.slice none 0 0, .string s] w fun e w' => e = .returned (.tuple #[.int .i64 0, .bool false]) ∧ w = w' := by
  go_enter Try.func207, Try.ntmps207
  go_wp2_with fail
  refine (ebsf0 _ _ _).mono ?_
  rintro e w' ⟨rfl, rfl⟩
  go_wp2_with fail
  go_ret2
  exact ⟨rfl, rfl⟩
set_option maxRecDepth 100000 in
theorem gcheck0 (w : World) : Calls Try.prog 54 #[.agg #[.slice none 0 0, .slice none 0 0]] w fun e w' => e = .returned (.int .i64 0) ∧ Below w.heap.size w w' := by
  have hmm := fun W : World => run_makeMap (P := Try.prog) 157 W
  have HB1 := Lib.hid (Below.refl w.heap.size w)
  go_enter Try.func54, Try.ntmps54
  have HF2 := Lib.hid (blk_new w (.cells #[.slice none 0 0, .slice none 0 0] 39 (0, 0)))
  have HB3 := Lib.hid (HB1.out.alloc HB1.out.size (.cells #[.slice none 0 0, .slice none 0 0] 39 (0, 0)))
  clear HB1
  have hc4 : (w.alloc (.cells #[.slice none 0 0, .slice none 0 0] 39 (0, 0))).cell? ⟨w.heap.size, 0, none⟩ = some (.slice none 0 0) := by rw [cell_of_row _ _ _ _ _ _ HF2.out]; rfl
  have hc5 : (w.alloc (.cells #[.slice none 0 0, .slice none 0 0] 39 (0, 0))).cell? ⟨w.heap.size, 1, none⟩ = some (.slice none 0 0) := by rw [cell_of_row _ _ _ _ _ _ HF2.out]; rfl
  have HM := Lib.hid (blk_alloc HF2.out (.map #[] 0))
  have HBM := Lib.hid (HB3.out.alloc HB3.out.size (.map #[] 0))
  have m0 : ((w.alloc (.cells #[.slice none 0 0, .slice none 0 0] 39 (0, 0))).alloc (.map #[] 0)).cell? ⟨w.heap.size, 0, none⟩ = some (.slice none 0 0) := by rw [cell_of_row _ _ _ _ _ _ HM.out]; rfl
  have m1 : ((w.alloc (.cells #[.slice none 0 0, .slice none 0 0] 39 (0, 0))).alloc (.map #[] 0)).cell? ⟨w.heap.size, 1, none⟩ = some (.slice none 0 0) := by rw [cell_of_row _ _ _ _ _ _ HM.out]; rfl
  go_wp2_with fail
  refine (gnodes0 _ _).mono ?_
  rintro e w' ⟨rfl, rfl⟩
  go_wp2_with fail
  refine (gedges00 _ _).mono ?_
  rintro e w' ⟨rfl, rfl⟩
  go_wp2_with fail
  go_ret
  exact ⟨rfl, HBM.out⟩
set_option maxRecDepth 100000 in
theorem copy0 (w : World) : Calls Try.prog 55 #[.agg #[.slice none 0 0, .slice none 0 0]] w fun e w' => e = .returned (.agg #[.slice none 0 0, .slice none 0 0]) ∧ Below w.heap.size w w' := by
  have HB1 := Lib.hid (Below.refl w.heap.size w)
  go_enter Try.func55, Try.ntmps55
  have HF2 := Lib.hid (blk_new w (.cells #[.slice none 0 0, .slice none 0 0] 39 (0, 0)))
  have HB3 := Lib.hid (HB1.out.alloc HB1.out.size (.cells #[.slice none 0 0, .slice none 0 0] 39 (0, 0)))
  clear HB1
  have HF4 := Lib.hid (blk_alloc HF2.out (.cells #[.slice none 0 0, .slice none 0 0] 39 (0, 0)))
  clear HF2
  have HF5 : Hid (((w.alloc (.cells #[.slice none 0 0, .slice none 0 0] 39 (0, 0))).alloc (.cells #[.slice none 0 0, .slice none 0 0] 39 (0, 0))).heap[w.heap.size + 1]? = some (.cells #[.slice none 0 0, .slice none 0 0] 39 (0, 0))) := Lib.hid (blk_newN (W := (w.alloc (.cells #[.slice none 0 0, .slice none 0 0] 39 (0, 0)))) (o := (.cells #[.slice none 0 0, .slice none 0 0] 39 (0, 0))) (by simp))
  have HB6 := Lib.hid (HB3.out.alloc (by have := HB3.out.size; simp at this ⊢ <;> omega) (.cells #[.slice none 0 0, .slice none 0 0] 39 (0, 0)))
  clear HB3
  have hc7 : ((w.alloc (.cells #[.slice none 0 0, .slice none 0 0] 39 (0, 0))).alloc (.cells #[.slice none 0 0, .slice none 0 0] 39 (0, 0))).cell? ⟨w.heap.size, 0, none⟩ = some (.slice none 0 0) := by rw [cell_of_row _ _ _ _ _ _ HF4.out]; rfl
  have hc8 : ((w.alloc (.cells #[.slice none 0 0, .slice none 0 0] 39 (0, 0))).alloc (.cells #[.slice none 0 0, .slice none 0 0] 39 (0, 0))).cell? ⟨w.heap.size, 1, none⟩ = some (.slice none 0 0) := by rw [cell_of_row _ _ _ _ _ _ HF4.out]; rfl
  go_wp2_with fail
  have hr9 := fun d os => cell_regrown hc7 d os
  have hr10 := fun d os => cell_regrown hc8 d os
  refine wp_region_quiet_tail 7 (by kernel_rfl) (by kernel_rfl) ?_
  simp only [List.take_succ_cons, List.take_zero, List.drop_succ_cons, List.drop_zero]
  repeat (any_goals (first | go_big_quiet_step ((first | (go_at_call 106; with_reducible exact Calls.regrown_of (of_same (npick0 _ _ _))) | (go_at_call 109; with_reducible exact Calls.regrown_of (of_same (epick0 _ _ _))))) | quiet_step ((first | (go_at_call 106; with_reducible exact Calls.regrown_of (of_same (npick0 _ _ _))) | (go_at_call 109; with_reducible exact Calls.regrown_of (of_same (epick0 _ _ _)))))))
  refine wpQuiet_nil ?_
  intro w1 hw1
  have hb1 := below_anyY hw1
  clear hw1 hr9 hr10
  clear hc7 hc8
  have HF11 := Lib.hid (blk_below HF4.out hb1)
  have HF12 := Lib.hid (blk_below HF5.out hb1)
  have HB13 := Lib.hid (HB6.out.trans (hb1.mono HB6.out.size))
  clear hb1 HB6 HF4 HF5
  have hc14 : w1.cell? ⟨w.heap.size + 1, 0, none⟩ = some (.slice none 0 0) := by rw [cell_of_row _ _ _ _ _ _ HF12.out]; rfl
  have hc15 : w1.cell? ⟨w.heap.size + 1, 1, none⟩ = some (.slice none 0 0) := by rw [cell_of_row _ _ _ _ _ _ HF12.out]; rfl
  have hz16 : w1.frozen? ⟨w.heap.size + 1, 0, none⟩ = false := frozen_of_row _ _ _ _ _ HF12.out
  have hz17 : w1.frozen? ⟨w.heap.size + 1, 1, none⟩ = false := frozen_of_row _ _ _ _ _ HF12.out
  go_wp2_with fail
  refine bodyPost_ret (v := .agg #[.slice none 0 0, .slice none 0 0]) (by simp [results, Try.results55, go_sem, *]) rfl ?_
  exact ⟨rfl, (HB13.out.setCell (p := ⟨w.heap.size + 1, 0, none⟩) (by simp) _).setCell (p := ⟨w.heap.size + 1, 1, none⟩) (by simp) _⟩
def BegP (w : World) (e : Ending) (w' : World) : Prop := ∃ (p : Nat) (m : Value), e = .returned (.pointer (some ⟨p, 0, none⟩)) ∧ w'.heap[p]? = some (.cells #[.slice none 0 0, .slice none 0 0, m] 203 (0, 0)) ∧ Below w.heap.size w w'
set_option maxRecDepth 100000 in
theorem begin0 (w : World) : Calls Try.prog 141 #[.agg #[.slice none 0 0, .slice none 0 0]] w (BegP w) := by
  have hmm := fun W : World => run_makeMap (P := Try.prog) 201 W
  have HB1 := Lib.hid (Below.refl w.heap.size w)
  go_enter Try.func141, Try.ntmps141
  have HF2 := Lib.hid (blk_new w (.cells #[.slice none 0 0, .slice none 0 0] 39 (0, 0)))
  have HB3 := Lib.hid (HB1.out.alloc HB1.out.size (.cells #[.slice none 0 0, .slice none 0 0] 39 (0, 0)))
  clear HB1
  have hc4 : (w.alloc (.cells #[.slice none 0 0, .slice none 0 0] 39 (0, 0))).cell? ⟨w.heap.size, 0, none⟩ = some (.slice none 0 0) := by rw [cell_of_row _ _ _ _ _ _ HF2.out]; rfl
  have hc5 : (w.alloc (.cells #[.slice none 0 0, .slice none 0 0] 39 (0, 0))).cell? ⟨w.heap.size, 1, none⟩ = some (.slice none 0 0) := by rw [cell_of_row _ _ _ _ _ _ HF2.out]; rfl
  go_wp2_with fail
  clear hc4 hc5
  refine (copy0 (w.alloc (.cells #[.slice none 0 0, .slice none 0 0] 39 (0, 0)))).mono ?_
  rintro e w1 ⟨rfl, hb1⟩
  have HF6 := Lib.hid (blk_below HF2.out hb1)
  have HB7 := Lib.hid (HB3.out.trans (hb1.mono HB3.out.size))
  clear hb1 HB3 HF2
  have HBM := Lib.hid (HB7.out.alloc HB7.out.size (.map #[] 0))
  have HW := Lib.hid (show ((w1.alloc (.map #[] 0)).alloc (.cells #[.slice none 0 0, .slice none 0 0, .map (some w1.heap.size)] 203 (0, 0))).heap[w1.heap.size + 1]? = some (.cells #[.slice none 0 0, .slice none 0 0, .map (some w1.heap.size)] 203 (0, 0)) from blk_newN (by simp))
  have HBW := Lib.hid (HBM.out.alloc (by have := HB7.out.size; simp at this ⊢ <;> omega) (.cells #[.slice none 0 0, .slice none 0 0, .map (some w1.heap.size)] 203 (0, 0)))
  have k0 : ((w1.alloc (.map #[] 0)).alloc (.cells #[.slice none 0 0, .slice none 0 0, .map (some w1.heap.size)] 203 (0, 0))).cell? ⟨w1.heap.size + 1, 0, none⟩ = some (.slice none 0 0) := by rw [cell_of_row _ _ _ _ _ _ HW.out]; rfl
  have k1 : ((w1.alloc (.map #[] 0)).alloc (.cells #[.slice none 0 0, .slice none 0 0, .map (some w1.heap.size)] 203 (0, 0))).cell? ⟨w1.heap.size + 1, 1, none⟩ = some (.slice none 0 0) := by rw [cell_of_row _ _ _ _ _ _ HW.out]; rfl
  go_wp2_with fail
  clear k0 k1
  go_loop [17] (fun i => i = .int .i64 0) (fun _ => 0)
  case atStart => rfl
  case round =>
    subst hrel
    go_wp2_with fail
    go_ret
    exact ⟨_, _, rfl, HW.out, HBW.out⟩
set_option maxRecDepth 100000 in
theorem does3 (p : Nat) (w : World) : Calls Try.prog 142 #[.pointer (some ⟨p, 0, none⟩), .int .i64 3] w fun e w' => e = .returned (.func (.func 173) #[.pointer (some ⟨p, 0, none⟩)] #[]) ∧ w = w' := by
  go_enter Try.func142, Try.ntmps142
  go_wp2_with fail
  go_ret
  exact ⟨rfl, rfl⟩
set_option maxRecDepth 100000 in
set_option maxHeartbeats 1000000 in
theorem addedge0 (p : Nat) (m : Value) (w : World) (h : w.heap[p]? = some (.cells #[.slice none 0 0, .slice none 0 0, m] 203 (0, 0))) :
    Calls Try.prog 173 #[.pointer (some ⟨p, 0, none⟩), .agg #[.int .i64 3, .string ⟨#[120]⟩, .string ⟨#[97]⟩, .string ⟨#[98]⟩, .string ⟨#[]⟩, .int .i64 0, .int .i64 0, .string ⟨#[]⟩]] w fun e w' => e = .returned (.int .i64 9) ∧ Below w.heap.size w w' := by
  have HP := Lib.hid h
  clear h
  have HB1 := Lib.hid (Below.refl w.heap.size w)
  go_enter Try.func173, Try.ntmps173
  have HF2 := Lib.hid (blk_alloc HP.out (.cells #[.int .i64 3, .string ⟨#[120]⟩, .string ⟨#[97]⟩, .string ⟨#[98]⟩, .string ⟨#[]⟩, .int .i64 0, .int .i64 0, .string ⟨#[]⟩] 85 (0, 0)))
  have HF3 := Lib.hid (blk_new w (.cells #[.int .i64 3, .string ⟨#[120]⟩, .string ⟨#[97]⟩, .string ⟨#[98]⟩, .string ⟨#[]⟩, .int .i64 0, .int .i64 0, .string ⟨#[]⟩] 85 (0, 0)))
  have HB4 := Lib.hid (HB1.out.alloc HB1.out.size (.cells #[.int .i64 3, .string ⟨#[120]⟩, .string ⟨#[97]⟩, .string ⟨#[98]⟩, .string ⟨#[]⟩, .int .i64 0, .int .i64 0, .string ⟨#[]⟩] 85 (0, 0)))
  clear HB1
  have hc5 : (w.alloc (.cells #[.int .i64 3, .string ⟨#[120]⟩, .string ⟨#[97]⟩, .string ⟨#[98]⟩, .string ⟨#[]⟩, .int .i64 0, .int .i64 0, .string ⟨#[]⟩] 85 (0, 0))).cell? ⟨p, 0, none⟩ = some (.slice none 0 0) := by rw [cell_of_row _ _ _ _ _ _ HF2.out]; rfl
  have hc6 : w.cell? ⟨p, 0, none⟩ = some (.slice none 0 0) := by rw [cell_of_row _ _ _ _ _ _ HP.out]; rfl
  have hc7 : (w.alloc (.cells #[.int .i64 3, .string ⟨#[120]⟩, .string ⟨#[97]⟩, .string ⟨#[98]⟩, .string ⟨#[]⟩, .int .i64 0, .int .i64 0, .string ⟨#[]⟩] 85 (0, 0))).cell? ⟨p, 1, none⟩ = some (.slice none 0 0) := by rw [cell_of_row _ _ _ _ _ _ HF2.out]; rfl
  have hc8 : w.cell? ⟨p, 1, none⟩ = some (.slice none 0 0) := by rw [cell_of_row _ _ _ _ _ _ HP.out]; rfl
  have hl9 : p < w.heap.size := lt_of_block HP.out
  have hl10 : ¬ p = w.heap.size := by omega
  have hc11 : (w.alloc (.cells #[.int .i64 3, .string ⟨#[120]⟩, .string ⟨#[97]⟩, .string ⟨#[98]⟩, .string ⟨#[]⟩, .int .i64 0, .int .i64 0, .string ⟨#[]⟩] 85 (0, 0))).cell? ⟨w.heap.size, 1, none⟩ = some (.string ⟨#[120]⟩) := by rw [cell_of_row _ _ _ _ _ _ HF3.out]; rfl
  go_wp2_with fail
  have hr12 := fun d os => cell_regrown hc5 d os
  have hr13 := fun d os => cell_regrown hc6 d os
  have hr14 := fun d os => cell_regrown hc7 d os
  have hr15 := fun d os => cell_regrown hc8 d os
  have hr16 := fun d os => cell_regrown hc11 d os
  refine wp_region_quiet_below (by kernel_rfl) (by kernel_rfl) ?_
  repeat (any_goals (first | go_big_quiet_step ((go_at_call 207; with_reducible exact Calls.regrown_of (of_same (efind0 _ _)))) | quiet_step ((go_at_call 207; with_reducible exact Calls.regrown_of (of_same (efind0 _ _))))))
  refine wpQuiet_nil ?_
  intro w1 hw1
  have hb1 := below_anyY hw1
  clear hw1 hr12 hr13 hr14 hr15 hr16
  clear hc5 hc6 hc7 hc8 hl9 hl10 hc11
  have HF17 := Lib.hid (blk_below HF2.out hb1)
  have HF18 := Lib.hid (blk_below HF3.out hb1)
  have HB19 := Lib.hid (HB4.out.trans (hb1.mono HB4.out.size))
  clear hb1 HB4 HF2 HP HF3
  have hc20 : w1.cell? ⟨p, 0, none⟩ = some (.slice none 0 0) := by rw [cell_of_row _ _ _ _ _ _ HF17.out]; rfl
  have hc21 : w1.cell? ⟨p, 1, none⟩ = some (.slice none 0 0) := by rw [cell_of_row _ _ _ _ _ _ HF17.out]; rfl
  have hc22 : w1.cell? ⟨w.heap.size, 2, none⟩ = some (.string ⟨#[97]⟩) := by rw [cell_of_row _ _ _ _ _ _ HF18.out]; rfl
  go_wp2_with fail
  have hr23 := fun d os => cell_regrown hc20 d os
  have hr24 := fun d os => cell_regrown hc21 d os
  have hr25 := fun d os => cell_regrown hc22 d os
  refine wp_region_quiet_below (by kernel_rfl) (by kernel_rfl) ?_
  repeat (any_goals (first | go_big_quiet_step ((go_at_call 204; with_reducible exact Calls.regrown_of (of_same (nfind0 _ _)))) | quiet_step ((go_at_call 204; with_reducible exact Calls.regrown_of (of_same (nfind0 _ _))))))
  refine wpQuiet_nil ?_
  intro w2 hw2
  have hb2 := below_anyY hw2
  clear hw2 hr23 hr24 hr25
  clear hc20 hc21 hc22
  have HF26 := Lib.hid (blk_below HF17.out hb2)
  have HF27 := Lib.hid (blk_below HF18.out hb2)
  have HB28 := Lib.hid (HB19.out.trans (hb2.mono HB19.out.size))
  clear hb2 HB19 HF17 HF18
  have hc29 : w2.cell? ⟨p, 0, none⟩ = some (.slice none 0 0) := by rw [cell_of_row _ _ _ _ _ _ HF26.out]; rfl
  have hc30 : w2.cell? ⟨p, 1, none⟩ = some (.slice none 0 0) := by rw [cell_of_row _ _ _ _ _ _ HF26.out]; rfl
  have hc31 : w2.cell? ⟨w.heap.size, 3, none⟩ = some (.string ⟨#[98]⟩) := by rw [cell_of_row _ _ _ _ _ _ HF27.out]; rfl
  go_wp2_with fail
  have hr32 := fun d os => cell_regrown hc29 d os
  have hr33 := fun d os => cell_regrown hc30 d os
  have hr34 := fun d os => cell_regrown hc31 d os
  refine wp_region_quiet_below (by kernel_rfl) (by kernel_rfl) ?_
  repeat (any_goals (first | go_big_quiet_step ((go_at_call 204; with_reducible exact Calls.regrown_of (of_same (nfind0 _ _)))) | quiet_step ((go_at_call 204; with_reducible exact Calls.regrown_of (of_same (nfind0 _ _))))))
  refine wpQuiet_nil ?_
  intro w3 hw3
  have hb3 := below_anyY hw3
  clear hw3 hr32 hr33 hr34
  clear hc29 hc30 hc31
  have HF35 := Lib.hid (blk_below HF26.out hb3)
  have HF36 := Lib.hid (blk_below HF27.out hb3)
  have HB37 := Lib.hid (HB28.out.trans (hb3.mono HB28.out.size))
  clear hb3 HB28 HF26 HF27
  go_wp2_with fail
  go_ret
  exact ⟨rfl, HB37.out⟩
theorem right_e0 : rightE (rightB 3 ⟨#[120]⟩ ⟨#[97]⟩ ⟨#[98]⟩ ⟨#[]⟩ 0 0 ⟨#[]⟩) = 0 := by decide
theorem gright_e0 (w : World) : Calls Try.prog 48 #[.agg #[.int .i64 3, .string ⟨#[120]⟩, .string ⟨#[97]⟩, .string ⟨#[98]⟩, .string ⟨#[]⟩, .int .i64 0, .int .i64 0, .string ⟨#[]⟩]] w fun e w' => e = .returned (.int .i64 0) ∧ Below w.heap.size w w' := by
  have q := gright_3 ⟨#[120]⟩ ⟨#[97]⟩ ⟨#[98]⟩ ⟨#[]⟩ 0 0 ⟨#[]⟩ w (by decide) (by decide) (by decide) (by decide)
  rw [right_e0] at q
  exact q
set_option maxRecDepth 100000 in
set_option maxHeartbeats 2000000 in
theorem apply0 (b : Nat) (w : World) (T : TypeId) (fr : Nat × Nat) (h : w.heap[b]? = some (.cells #[.int .i64 3, .string ⟨#[120]⟩, .string ⟨#[97]⟩, .string ⟨#[98]⟩, .string ⟨#[]⟩, .int .i64 0, .int .i64 0, .string ⟨#[]⟩] T fr)) :
    Calls Try.prog 91 #[.agg #[.slice none 0 0, .slice none 0 0], .slice (some ⟨b, 0, none⟩) 1 1] w fun e w' => e = .returned (.tuple #[.agg #[.slice none 0 0, .slice none 0 0], .int .i64 0, .int .i64 9]) ∧ Below w.heap.size w w' := by
  have HO := Lib.hid h
  clear h
  have HB1 := Lib.hid (Below.refl w.heap.size w)
  go_enter Try.func91, Try.ntmps91
  have HF2 := Lib.hid (blk_new w (.cells #[.slice none 0 0, .slice none 0 0] 39 (0, 0)))
  have HB3 := Lib.hid (HB1.out.alloc HB1.out.size (.cells #[.slice none 0 0, .slice none 0 0] 39 (0, 0)))
  clear HB1
  have HF4 := Lib.hid (blk_alloc HF2.out (.cells #[.slice none 0 0, .slice none 0 0] 39 (0, 0)))
  clear HF2
  have HF5 : Hid (((w.alloc (.cells #[.slice none 0 0, .slice none 0 0] 39 (0, 0))).alloc (.cells #[.slice none 0 0, .slice none 0 0] 39 (0, 0))).heap[w.heap.size + 1]? = some (.cells #[.slice none 0 0, .slice none 0 0] 39 (0, 0))) := Lib.hid (blk_newN (W := (w.alloc (.cells #[.slice none 0 0, .slice none 0 0] 39 (0, 0)))) (o := (.cells #[.slice none 0 0, .slice none 0 0] 39 (0, 0))) (by simp))
  have HB6 := Lib.hid (HB3.out.alloc (by have := HB3.out.size; simp at this ⊢ <;> omega) (.cells #[.slice none 0 0, .slice none 0 0] 39 (0, 0)))
  clear HB3
  have HOA := Lib.hid (blk_alloc (blk_alloc HO.out (.cells #[.slice none 0 0, .slice none 0 0] 39 (0, 0))) (.cells #[.slice none 0 0, .slice none 0 0] 39 (0, 0)))
  have hc7 : ((w.alloc (.cells #[.slice none 0 0, .slice none 0 0] 39 (0, 0))).alloc (.cells #[.slice none 0 0, .slice none 0 0] 39 (0, 0))).cell? ⟨w.heap.size, 0, none⟩ = some (.slice none 0 0) := by rw [cell_of_row _ _ _ _ _ _ HF4.out]; rfl
  have hc8 : ((w.alloc (.cells #[.slice none 0 0, .slice none 0 0] 39 (0, 0))).alloc (.cells #[.slice none 0 0, .slice none 0 0] 39 (0, 0))).cell? ⟨w.heap.size, 1, none⟩ = some (.slice none 0 0) := by rw [cell_of_row _ _ _ _ _ _ HF4.out]; rfl
  go_wp2_with fail
  clear hc7 hc8
  refine (gcheck0 ((w.alloc (.cells #[.slice none 0 0, .slice none 0 0] 39 (0, 0))).alloc (.cells #[.slice none 0 0, .slice none 0 0] 39 (0, 0)))).mono ?_
  rintro e w1 ⟨rfl, hb1⟩
  have HF9 := Lib.hid (blk_below HF4.out hb1)
  have HF10 := Lib.hid (blk_below HF5.out hb1)
  have HB11 := Lib.hid (HB6.out.trans (hb1.mono HB6.out.size))
  have HO1 := Lib.hid (blk_below HOA.out hb1)
  clear hb1 HB6 HF4 HF5
  have hc12 : w1.cell? ⟨w.heap.size, 0, none⟩ = some (.slice none 0 0) := by rw [cell_of_row _ _ _ _ _ _ HF9.out]; rfl
  have hc13 : w1.cell? ⟨w.heap.size, 1, none⟩ = some (.slice none 0 0) := by rw [cell_of_row _ _ _ _ _ _ HF9.out]; rfl
  go_wp2_with fail
  clear hc12 hc13
  refine (begin0 w1).mono ?_
  rintro e w2 ⟨p, m, rfl, hk, hb2⟩
  have HF14 := Lib.hid (blk_below HF9.out hb2)
  have HF15 := Lib.hid (blk_below HF10.out hb2)
  have HB16 := Lib.hid (HB11.out.trans (hb2.mono (by have := HB11.out.size; simp at this ⊢ <;> omega)))
  have HO2 := Lib.hid (blk_below HO1.out hb2)
  clear hb2 HB11 HF9 HF10
  have HP2 := Lib.hid hk
  clear hk
  go_wp2_with fail
  go_loop [22] (fun i => i = .int .i64 0) (fun _ => 0)
  case atStart => rfl
  case round =>
    subst hrel
    have o0 : w2.cell? ⟨b, 0, none⟩ = some (.int .i64 3) := by rw [cell_of_row _ _ _ _ _ _ HO2.out]; rfl
    have o1 : w2.cell? ⟨b, 1, none⟩ = some (.string ⟨#[120]⟩) := by rw [cell_of_row _ _ _ _ _ _ HO2.out]; rfl
    have o2 : w2.cell? ⟨b, 2, none⟩ = some (.string ⟨#[97]⟩) := by rw [cell_of_row _ _ _ _ _ _ HO2.out]; rfl
    have o3 : w2.cell? ⟨b, 3, none⟩ = some (.string ⟨#[98]⟩) := by rw [cell_of_row _ _ _ _ _ _ HO2.out]; rfl
    have o4 : w2.cell? ⟨b, 4, none⟩ = some (.string ⟨#[]⟩) := by rw [cell_of_row _ _ _ _ _ _ HO2.out]; rfl
    have o5 : w2.cell? ⟨b, 5, none⟩ = some (.int .i64 0) := by rw [cell_of_row _ _ _ _ _ _ HO2.out]; rfl
    have o6 : w2.cell? ⟨b, 6, none⟩ = some (.int .i64 0) := by rw [cell_of_row _ _ _ _ _ _ HO2.out]; rfl
    have o7 : w2.cell? ⟨b, 7, none⟩ = some (.string ⟨#[]⟩) := by rw [cell_of_row _ _ _ _ _ _ HO2.out]; rfl
    have HP3 := Lib.hid (blk_alloc HP2.out (.cells #[.int .i64 3, .string ⟨#[120]⟩, .string ⟨#[97]⟩, .string ⟨#[98]⟩, .string ⟨#[]⟩, .int .i64 0, .int .i64 0, .string ⟨#[]⟩] 85 (0, 0)))
    have HF17 := Lib.hid (blk_alloc HF14.out (.cells #[.int .i64 3, .string ⟨#[120]⟩, .string ⟨#[97]⟩, .string ⟨#[98]⟩, .string ⟨#[]⟩, .int .i64 0, .int .i64 0, .string ⟨#[]⟩] 85 (0, 0)))
    have HF18 := Lib.hid (blk_alloc HF15.out (.cells #[.int .i64 3, .string ⟨#[120]⟩, .string ⟨#[97]⟩, .string ⟨#[98]⟩, .string ⟨#[]⟩, .int .i64 0, .int .i64 0, .string ⟨#[]⟩] 85 (0, 0)))
    have HF19 := Lib.hid (blk_new w2 (.cells #[.int .i64 3, .string ⟨#[120]⟩, .string ⟨#[97]⟩, .string ⟨#[98]⟩, .string ⟨#[]⟩, .int .i64 0, .int .i64 0, .string ⟨#[]⟩] 85 (0, 0)))
    have HB20 := Lib.hid (HB16.out.alloc HB16.out.size (.cells #[.int .i64 3, .string ⟨#[120]⟩, .string ⟨#[97]⟩, .string ⟨#[98]⟩, .string ⟨#[]⟩, .int .i64 0, .int .i64 0, .string ⟨#[]⟩] 85 (0, 0)))
    clear HB16
    have hc21 : (w2.alloc (.cells #[.int .i64 3, .string ⟨#[120]⟩, .string ⟨#[97]⟩, .string ⟨#[98]⟩, .string ⟨#[]⟩, .int .i64 0, .int .i64 0, .string ⟨#[]⟩] 85 (0, 0))).cell? ⟨w2.heap.size, 0, none⟩ = some (.int .i64 3) := by rw [cell_of_row _ _ _ _ _ _ HF19.out]; rfl
    have hc22 : (w2.alloc (.cells #[.int .i64 3, .string ⟨#[120]⟩, .string ⟨#[97]⟩, .string ⟨#[98]⟩, .string ⟨#[]⟩, .int .i64 0, .int .i64 0, .string ⟨#[]⟩] 85 (0, 0))).cell? ⟨w2.heap.size, 1, none⟩ = some (.string ⟨#[120]⟩) := by rw [cell_of_row _ _ _ _ _ _ HF19.out]; rfl
    have hc23 : (w2.alloc (.cells #[.int .i64 3, .string ⟨#[120]⟩, .string ⟨#[97]⟩, .string ⟨#[98]⟩, .string ⟨#[]⟩, .int .i64 0, .int .i64 0, .string ⟨#[]⟩] 85 (0, 0))).cell? ⟨w2.heap.size, 2, none⟩ = some (.string ⟨#[97]⟩) := by rw [cell_of_row _ _ _ _ _ _ HF19.out]; rfl
    have hc24 : (w2.alloc (.cells #[.int .i64 3, .string ⟨#[120]⟩, .string ⟨#[97]⟩, .string ⟨#[98]⟩, .string ⟨#[]⟩, .int .i64 0, .int .i64 0, .string ⟨#[]⟩] 85 (0, 0))).cell? ⟨w2.heap.size, 3, none⟩ = some (.string ⟨#[98]⟩) := by rw [cell_of_row _ _ _ _ _ _ HF19.out]; rfl
    have hc25 : (w2.alloc (.cells #[.int .i64 3, .string ⟨#[120]⟩, .string ⟨#[97]⟩, .string ⟨#[98]⟩, .string ⟨#[]⟩, .int .i64 0, .int .i64 0, .string ⟨#[]⟩] 85 (0, 0))).cell? ⟨w2.heap.size, 4, none⟩ = some (.string ⟨#[]⟩) := by rw [cell_of_row _ _ _ _ _ _ HF19.out]; rfl
    have hc26 : (w2.alloc (.cells #[.int .i64 3, .string ⟨#[120]⟩, .string ⟨#[97]⟩, .string ⟨#[98]⟩, .string ⟨#[]⟩, .int .i64 0, .int .i64 0, .string ⟨#[]⟩] 85 (0, 0))).cell? ⟨w2.heap.size, 5, none⟩ = some (.int .i64 0) := by rw [cell_of_row _ _ _ _ _ _ HF19.out]; rfl
    have hc27 : (w2.alloc (.cells #[.int .i64 3, .string ⟨#[120]⟩, .string ⟨#[97]⟩, .string ⟨#[98]⟩, .string ⟨#[]⟩, .int .i64 0, .int .i64 0, .string ⟨#[]⟩] 85 (0, 0))).cell? ⟨w2.heap.size, 6, none⟩ = some (.int .i64 0) := by rw [cell_of_row _ _ _ _ _ _ HF19.out]; rfl
    have hc28 : (w2.alloc (.cells #[.int .i64 3, .string ⟨#[120]⟩, .string ⟨#[97]⟩, .string ⟨#[98]⟩, .string ⟨#[]⟩, .int .i64 0, .int .i64 0, .string ⟨#[]⟩] 85 (0, 0))).cell? ⟨w2.heap.size, 7, none⟩ = some (.string ⟨#[]⟩) := by rw [cell_of_row _ _ _ _ _ _ HF19.out]; rfl
    go_wp2_with fail
    clear hc21 hc22 hc23 hc24 hc25 hc26 hc27 hc28
    clear o0 o1 o2 o3 o4 o5 o6 o7
    refine (gright_e0 (w2.alloc (.cells #[.int .i64 3, .string ⟨#[120]⟩, .string ⟨#[97]⟩, .string ⟨#[98]⟩, .string ⟨#[]⟩, .int .i64 0, .int .i64 0, .string ⟨#[]⟩] 85 (0, 0)))).mono ?_
    rintro e w3 ⟨rfl, hb3⟩
    have HF29 := Lib.hid (blk_below HF17.out hb3)
    have HF30 := Lib.hid (blk_below HF18.out hb3)
    have HF31 := Lib.hid (blk_below HF19.out hb3)
    have HB32 := Lib.hid (HB20.out.trans (hb3.mono HB20.out.size))
    have HP4 := Lib.hid (blk_below HP3.out hb3)
    clear hb3 HB20 HF17 HF14 HF18 HF15 HF19
    have hc33 : w3.cell? ⟨w2.heap.size, 0, none⟩ = some (.int .i64 3) := by rw [cell_of_row _ _ _ _ _ _ HF31.out]; rfl
    have hc34 : w3.cell? ⟨w2.heap.size, 1, none⟩ = some (.string ⟨#[120]⟩) := by rw [cell_of_row _ _ _ _ _ _ HF31.out]; rfl
    have hc35 : w3.cell? ⟨w2.heap.size, 2, none⟩ = some (.string ⟨#[97]⟩) := by rw [cell_of_row _ _ _ _ _ _ HF31.out]; rfl
    have hc36 : w3.cell? ⟨w2.heap.size, 3, none⟩ = some (.string ⟨#[98]⟩) := by rw [cell_of_row _ _ _ _ _ _ HF31.out]; rfl
    have hc37 : w3.cell? ⟨w2.heap.size, 4, none⟩ = some (.string ⟨#[]⟩) := by rw [cell_of_row _ _ _ _ _ _ HF31.out]; rfl
    have hc38 : w3.cell? ⟨w2.heap.size, 5, none⟩ = some (.int .i64 0) := by rw [cell_of_row _ _ _ _ _ _ HF31.out]; rfl
    have hc39 : w3.cell? ⟨w2.heap.size, 6, none⟩ = some (.int .i64 0) := by rw [cell_of_row _ _ _ _ _ _ HF31.out]; rfl
    have hc40 : w3.cell? ⟨w2.heap.size, 7, none⟩ = some (.string ⟨#[]⟩) := by rw [cell_of_row _ _ _ _ _ _ HF31.out]; rfl
    go_wp2_with fail
    have hr41 := fun d os => cell_regrown hc33 d os
    have hr42 := fun d os => cell_regrown hc34 d os
    have hr43 := fun d os => cell_regrown hc35 d os
    have hr44 := fun d os => cell_regrown hc36 d os
    have hr45 := fun d os => cell_regrown hc37 d os
    have hr46 := fun d os => cell_regrown hc38 d os
    have hr47 := fun d os => cell_regrown hc39 d os
    have hr48 := fun d os => cell_regrown hc40 d os
    refine wp_region_quiet_below (by kernel_rfl) (by kernel_rfl) ?_
    repeat (any_goals (first | go_big_quiet_step ((first | (go_at_call 142; with_reducible exact Calls.regrown_of (of_same (does3 _ _))) | (go_at_call 173; with_reducible exact Calls.regrown_of (addedge0 p m _ (blk_below HP4.out (below_regrown _ _ _)))))) | quiet_step ((first | (go_at_call 142; with_reducible exact Calls.regrown_of (of_same (does3 _ _))) | (go_at_call 173; with_reducible exact Calls.regrown_of (addedge0 p m _ (blk_below HP4.out (below_regrown _ _ _))))))))
    refine wpQuiet_nil ?_
    intro w4 hw4
    have hb4 := below_anyY hw4
    clear hw4 hr41 hr42 hr43 hr44 hr45 hr46 hr47 hr48
    clear hc33 hc34 hc35 hc36 hc37 hc38 hc39 hc40
    have HF49 := Lib.hid (blk_below HF29.out hb4)
    have HF50 := Lib.hid (blk_below HF30.out hb4)
    have HF51 := Lib.hid (blk_below HF31.out hb4)
    have HB52 := Lib.hid (HB32.out.trans (hb4.mono HB32.out.size))
    clear hb4 HB32 HF29 HF30 HF31
    have hc53 : w4.cell? ⟨w.heap.size + 1, 0, none⟩ = some (.slice none 0 0) := by rw [cell_of_row _ _ _ _ _ _ HF50.out]; rfl
    have hc54 : w4.cell? ⟨w.heap.size + 1, 1, none⟩ = some (.slice none 0 0) := by rw [cell_of_row _ _ _ _ _ _ HF50.out]; rfl
    have hz55 : w4.frozen? ⟨w.heap.size + 1, 0, none⟩ = false := frozen_of_row _ _ _ _ _ HF50.out
    have hz56 : w4.frozen? ⟨w.heap.size + 1, 1, none⟩ = false := frozen_of_row _ _ _ _ _ HF50.out
    go_wp2_with fail
    refine bodyPost_ret (v := .tuple #[.agg #[.slice none 0 0, .slice none 0 0], .int .i64 0, .int .i64 9]) (by simp [results, Try.results91, go_sem, *]) rfl ?_
    exact ⟨rfl, (HB52.out.setCell (p := ⟨w.heap.size + 1, 0, none⟩) (by simp) _).setCell (p := ⟨w.heap.size + 1, 1, none⟩) (by simp) _⟩
set_option maxRecDepth 100000 in
set_option maxHeartbeats 1000000 in
theorem awake26 (w : World) : Calls Try.prog 46 #[] w fun e w' => e = .returned (.bool true) ∧ Below w.heap.size w w' := by
  have HB1 := Lib.hid (Below.refl w.heap.size w)
  go_enter Try.func46, Try.ntmps46
  have HF2 := Lib.hid (blk_new w (.cells #[.int .i64 3, .string ⟨#[120]⟩, .string ⟨#[97]⟩, .string ⟨#[98]⟩, .string ⟨#[]⟩, .int .i64 0, .int .i64 0, .string ⟨#[]⟩] 85 (0, 0)))
  have HB3 := Lib.hid (HB1.out.alloc HB1.out.size (.cells #[.int .i64 3, .string ⟨#[120]⟩, .string ⟨#[97]⟩, .string ⟨#[98]⟩, .string ⟨#[]⟩, .int .i64 0, .int .i64 0, .string ⟨#[]⟩] 85 (0, 0)))
  clear HB1
  go_wp2_with fail
  refine (apply0 _ (w.alloc (.cells #[.int .i64 3, .string ⟨#[120]⟩, .string ⟨#[97]⟩, .string ⟨#[98]⟩, .string ⟨#[]⟩, .int .i64 0, .int .i64 0, .string ⟨#[]⟩] 85 (0, 0))) _ _ HF2.out).mono ?_
  rintro e w1 ⟨rfl, hb1⟩
  have HF4 := Lib.hid (blk_below HF2.out hb1)
  have HB5 := Lib.hid (HB3.out.trans (hb1.mono HB3.out.size))
  clear hb1 HB3 HF2
  have HF6 := Lib.hid (blk_alloc HF4.out (.cells #[.slice none 0 0, .slice none 0 0] 39 (0, 0)))
  have HF7 := Lib.hid (blk_new w1 (.cells #[.slice none 0 0, .slice none 0 0] 39 (0, 0)))
  have HB8 := Lib.hid (HB5.out.alloc HB5.out.size (.cells #[.slice none 0 0, .slice none 0 0] 39 (0, 0)))
  clear HB5
  go_wp2_with fail
  go_ret
  exact ⟨rfl, HB8.out⟩
end Go.Proofs.Ytjnichiblljmjaa
