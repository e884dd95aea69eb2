/- Several texts of one family, merged for a claim. Conditions as in its parts. -/
import Derived.Test.YtiflieaemgamkaaDoorG1
import Derived.Test.YtiflieaemgamkaaDoorG3
import Derived.Test.YtiflieaemgamkaaDoorG2
namespace Go.Proofs.YtiflieaemgamkaaDoor
open Go.RowKit Vi Hm

/-- a text's name -/
def nmS (t : ByteArray) : ByteArray := ⟨(Hm.sum t.data.toList).toArray⟩
theorem sum_lenS (l : List UInt8) : (Hm.sum l).length = 32 := by
  unfold Hm.sum
  refine bytesOf_len _ ?_
  have : ∀ (q : Nat) (h : List Nat) (b : List UInt8), h.length = 8 → (blocks q h b).length = 8 := by
    intro q
    induction q with
    | zero => intro h b hl; exact hl
    | succ q ih => intro h b hl; exact ih _ _ (by unfold mix; rw [List.length_zipWith, hl]; rfl)
  exact this _ _ _ rfl
theorem nm_size (t : ByteArray) : (nmS t).size = 32 := by
  show (Hm.sum t.data.toList).toArray.size = 32
  rw [List.size_toArray, sum_lenS]
theorem nm_le (t : ByteArray) : (nmS t).size ≤ maxLen := by rw [nm_size]; decide
theorem cat_oneS (s : ByteArray) : catS [s] = s.data.toList := by simp [catS]
/-- the sum of one text, laid in a row of its own -/
theorem sum1_any (s : ByteArray) (W : World) (M : Nat) (hT : HTab W) (hS : StrS W (some ⟨M, 0, none⟩) 1 [s]) (hn : s.size ≤ 100000000) :
    Calls Tryd.prog 17 #[.slice (some ⟨M, 0, none⟩) 1 1] W fun e w' => e = .returned (.string (nmS s)) ∧ Below W.heap.size W w' := by
  have h := sumP_any (some ⟨M, 0, none⟩) 1 1 [s] W hT hS (by rw [cat_oneS]; simp; omega) (by omega)
  rw [cat_oneS] at h
  exact h
/-- the shelf is there, its blocks lie from n on, what lay below n of w0 lies as it lay -/
structure SW (n : Nat) (w0 : World) (D : Nat) (L : List Ob) (c0 c1 : ByteArray) (k : Nat) (w : World) : Prop where
  sk : SK D L c0 c1 k w
  far : ∀ b, InS D w b → n ≤ b
  bel : Below n w0 w
  sz : n ≤ w.heap.size
section
variable {n : Nat} {w0 : World} {D : Nat} {L L' : List Ob} {c0 c1 c0' c1' : ByteArray} {k k' : Nat} {w w' : World}
theorem SW.ks (h : SW n w0 D L c0 c1 k w) (q : Ks D w w') (h' : SK D L' c0' c1' k' w') : SW n w0 D L' c0' c1' k' w' :=
  ⟨h', fun b z => by
    rcases Nat.lt_or_ge b w.heap.size with hb | hb
    · exact h.far b (q.ind b hb z)
    · exact Nat.le_trans h.sz hb, ⟨q.os.trans h.bel.os, q.tape.trans h.bel.tape, q.output.trans h.bel.output, Nat.le_trans h.bel.size q.size, fun b hb => (q.block b (Nat.lt_of_lt_of_le hb h.sz) (fun z => by have := h.far b z; omega)).trans (h.bel.block b hb)⟩, Nat.le_trans h.sz q.size⟩
theorem SW.below (h : SW n w0 D L c0 c1 k w) (hb : Below w.heap.size w w') : SW n w0 D L c0 c1 k w' := h.ks (Ks.of_below hb h.sk.lt) (h.sk.kept hb)
theorem MapI.le {B : Nat} {f : ByteArray → Option Int} (h : MapI w B k f) (hk : k ≤ k') : MapI w B k' f := by
  obtain ⟨m, E, h1, h2, h3⟩ := h
  exact ⟨m, E, h1, Nat.le_trans h2 hk, h3⟩
theorem SK.le (h : SK D L c0 c1 k w) (hk : k ≤ k') : SK D L c0 c1 k' w := by
  obtain ⟨oa, on, oc, B, h1, h2, h3⟩ := h
  exact ⟨oa, on, oc, B, h1, h2, h3.le hk⟩
theorem SW.le (h : SW n w0 D L c0 c1 k w) (hk : k ≤ k') : SW n w0 D L c0 c1 k' w := ⟨h.sk.le hk, h.far, h.bel, h.sz⟩
end
theorem NewS.sw {w0 w w' : World} {e : Ending} (hb : Below w0.heap.size w0 w) (h : NewS w e w') : ∃ D, e = .returned (.pointer (some ⟨D, 0, none⟩)) ∧ SW w0.heap.size w0 D [] ⟨#[]⟩ ⟨#[]⟩ 0 w' := by
  obtain ⟨D, h1, h2, h3, h4⟩ := h
  exact ⟨D, h1, h2, fun b q => Nat.le_trans hb.size (h3 b q), hb.trans (h4.mono hb.size), Nat.le_trans hb.size h4.size⟩
/-- what Put answers, and what there is then -/
def putE (L : List Ob) (t : ByteArray) : Int := if t.size = 0 then 2 else if 65536 < t.size then 5 else match getO L (nmS t) with
  | none => 0
  | some u => if u = t then 0 else 15
def putN (L : List Ob) (t : ByteArray) : ByteArray := if putE L t = 0 then nmS t else ⟨#[]⟩
def putL (L : List Ob) (t : ByteArray) : List Ob := if putE L t = 0 ∧ getO L (nmS t) = none then L ++ [(nmS t, t)] else L
def putA (L : List Ob) (c0 c1 t : ByteArray) : ByteArray := if putE L t = 15 then mtA c0 c1 ((getO L (nmS t)).getD ⟨#[]⟩) else c0
def putB (L : List Ob) (c0 c1 t : ByteArray) : ByteArray := if putE L t = 15 then mtB c0 c1 t else c1
theorem put_none {L : List Ob} {t : ByteArray} (h0 : t.size ≠ 0) (h1 : ¬ 65536 < t.size) (hg : getO L (nmS t) = none) (c0 c1 : ByteArray) : putE L t = 0 ∧ putN L t = nmS t ∧ putL L t = L ++ [(nmS t, t)] ∧ putA L c0 c1 t = c0 ∧ putB L c0 c1 t = c1 := by
  have e : putE L t = 0 := by unfold putE; rw [if_neg h0, if_neg h1, hg]
  refine ⟨e, ?_, ?_, ?_, ?_⟩
  · unfold putN; rw [if_pos e]
  · unfold putL; rw [if_pos ⟨e, hg⟩]
  · unfold putA; rw [e, if_neg (by decide)]
  · unfold putB; rw [e, if_neg (by decide)]
theorem put_same {L : List Ob} {t : ByteArray} (h0 : t.size ≠ 0) (h1 : ¬ 65536 < t.size) (hg : getO L (nmS t) = some t) (c0 c1 : ByteArray) : putE L t = 0 ∧ putN L t = nmS t ∧ putL L t = L ∧ putA L c0 c1 t = c0 ∧ putB L c0 c1 t = c1 := by
  have e : putE L t = 0 := by unfold putE; rw [if_neg h0, if_neg h1, hg]; simp
  refine ⟨e, ?_, ?_, ?_, ?_⟩
  · unfold putN; rw [if_pos e]
  · unfold putL; rw [if_neg (by rw [hg]; simp)]
  · unfold putA; rw [e, if_neg (by decide)]
  · unfold putB; rw [e, if_neg (by decide)]
theorem put_clash {L : List Ob} {t u : ByteArray} (h0 : t.size ≠ 0) (h1 : ¬ 65536 < t.size) (hg : getO L (nmS t) = some u) (hu : u ≠ t) (c0 c1 : ByteArray) : putE L t = 15 ∧ putN L t = ⟨#[]⟩ ∧ putL L t = L ∧ putA L c0 c1 t = mtA c0 c1 u ∧ putB L c0 c1 t = mtB c0 c1 t := by
  have e : putE L t = 15 := by unfold putE; rw [if_neg h0, if_neg h1, hg]; simp [hu]
  refine ⟨e, ?_, ?_, ?_, ?_⟩
  · unfold putN; rw [e, if_neg (by decide)]
  · unfold putL; rw [if_neg (by rw [hg]; simp)]
  · unfold putA; rw [if_pos e, hg]; rfl
  · unfold putB; rw [if_pos e]
theorem put_bad {L : List Ob} {t : ByteArray} {x : Int} (h : t.size = 0 ∧ x = 2 ∨ t.size ≠ 0 ∧ 65536 < t.size ∧ x = 5) (c0 c1 : ByteArray) : putE L t = x ∧ putN L t = ⟨#[]⟩ ∧ putL L t = L ∧ putA L c0 c1 t = c0 ∧ putB L c0 c1 t = c1 := by
  have e : putE L t = x := by
    unfold putE
    rcases h with ⟨h, rfl⟩ | ⟨h, h', rfl⟩
    · rw [if_pos h]
    · rw [if_neg h, if_pos h']
  have hx : x = 2 ∨ x = 5 := by rcases h with ⟨_, rfl⟩ | ⟨_, _, rfl⟩ <;> simp
  refine ⟨e, ?_, ?_, ?_, ?_⟩
  · unfold putN; rw [e, if_neg (by rcases hx with rfl | rfl <;> decide)]
  · unfold putL; rw [e, if_neg (by rcases hx with rfl | rfl <;> simp)]
  · unfold putA; rw [e, if_neg (by rcases hx with rfl | rfl <;> decide)]
  · unfold putB; rw [e, if_neg (by rcases hx with rfl | rfl <;> decide)]
def RetPut (n : Nat) (w0 : World) (D : Nat) (L : List Ob) (c0 c1 : ByteArray) (k : Nat) (t : ByteArray) (w : World) (e : Ending) (w' : World) : Prop :=
  e = .returned (.tuple #[.string (putN L t), .int .i64 (putE L t)]) ∧ SW n w0 D (putL L t) (putA L c0 c1 t) (putB L c0 c1 t) (k + 1) w' ∧ Ks D w w'
theorem toListEq {a b : ByteArray} (h : a.toList = b.toList) : a = b := by
  rw [Lib.toList_data, Lib.toList_data] at h
  exact ByteArray.ext (Array.ext' h)
set_option maxRecDepth 100000 in
set_option maxHeartbeats 2000000 in
theorem sputT_any (n : Nat) (w0 : World) (D : Nat) (L : List Ob) (c0 c1 : ByteArray) (k : Nat) (t : ByteArray) (w : World) (h : SW n w0 D L c0 c1 k w) (hT : HTab w0) (hn : w0.heap.size ≤ n) (hk : k < 1000000) (hl : L.length < 1000000) :
    Calls Tryd.prog 8 #[.pointer (some ⟨D, 0, none⟩), .string t] w (RetPut n w0 D L c0 c1 k t w) := by
  have HS := Lib.hid h
  have HM := Lib.hid (show Calls Tryd.prog 15 #[.pointer (some ⟨D, 0, none⟩)] w fun e w' => e = .returned (.bool true) ∧ w = w' from by
    obtain ⟨oa, on, oc, B, h1, h2, h3⟩ := h.sk
    exact smade_any D oa on oc (some B) c0 c1 w h1)
  have HT := Lib.hid (hT.later (h.bel.mono hn))
  clear h hT hn
  by_cases h0 : t.size = 0
  · have HP := Lib.hid (put_bad (L := L) (x := 2) (.inl ⟨h0, rfl⟩) c0 c1)
    obtain rfl : t = ⟨#[]⟩ := ByteArray.ext (Array.eq_empty_of_size_eq_zero h0)
    clear h0
    go_enter Tryd.func8, Tryd.ntmps8
    go_wp2_with fail
    refine HM.out.mono ?_
    rintro e w' ⟨rfl, rfl⟩
    go_wp2_with fail
    go_ret2
    obtain ⟨p1, p2, p3, p4, p5⟩ := HP.out
    refine ⟨by simp only [p1, p2]; rfl, ?_⟩
    rw [p3, p4, p5]
    exact ⟨HS.out.le (by omega), Ks.refl _ _⟩
  have he : (t.toList == []) = false := by
    rw [Lib.toList_data]
    cases q : t.data.toList with
    | nil => exact absurd (by show t.data.size = 0; rw [← Array.length_toList, q]; rfl) h0
    | cons _ _ => rfl
  have he2 : t.toList.isEmpty = false := by
    rw [Lib.toList_data]
    cases q : t.data.toList with
    | nil => exact absurd (by show t.data.size = 0; rw [← Array.length_toList, q]; rfl) h0
    | cons _ _ => rfl
  by_cases h1 : 65536 < t.size
  · have HP := Lib.hid (put_bad (L := L) (x := 5) (.inr ⟨h0, h1, rfl⟩) c0 c1)
    have d1 : decide ((65536 : Int) < (t.size : Int)) = true := decide_eq_true (by omega)
    have d2 : decide (65536 < t.size) = true := decide_eq_true h1
    clear h0 h1
    go_enter Tryd.func8, Tryd.ntmps8
    go_wp2_with fail
    refine HM.out.mono ?_
    rintro e w' ⟨rfl, rfl⟩
    go_wp2_with fail
    go_ret2
    obtain ⟨p1, p2, p3, p4, p5⟩ := HP.out
    refine ⟨by simp only [p1, p2]; rfl, ?_⟩
    rw [p3, p4, p5]
    exact ⟨HS.out.le (by omega), Ks.refl _ _⟩
  have d1 : decide ((65536 : Int) < (t.size : Int)) = false := decide_eq_false (by omega)
  have d2 : decide (65536 < t.size) = false := decide_eq_false h1
  have HZ := Lib.hid (show t.size ≤ 100000000 by omega)
  have HKL := Lib.hid (And.intro hk hl)
  obtain ⟨v, hv⟩ : ∃ v, v = w.alloc (.cells #[.string t] 9) := ⟨_, rfl⟩
  have HV := Lib.hid hv
  have HB0 := Lib.hid (show Below w.heap.size w v by rw [hv]; exact (Below.refl _ w).alloc (Nat.le_refl _) _)
  have HS0 := Lib.hid (show StrS v (some ⟨w.heap.size, 0, none⟩) 1 [t] by rw [hv]; exact str_one w _)
  have HU := Lib.hid (sum1_any t v w.heap.size (HT.out.later HB0.out) HS0.out HZ.out)
  have HC : Hid (∀ W : World, SW n w0 D L c0 c1 k W → Calls Tryd.prog 16 #[.pointer (some ⟨D, 0, none⟩), .agg #[.string (nmS t), .string t]] W (RetPut n w0 D L c0 c1 k t W)) := by
    refine Lib.hid fun W hW => ?_
    obtain ⟨hk, hl⟩ := HKL.out
    cases hg : getO L (nmS t) with
    | none =>
      obtain ⟨p1, p2, p3, p4, p5⟩ := put_none h0 h1 hg c0 c1
      refine (sput_new D L c0 c1 k (nmS t) t W hW.sk (nm_le t) hg hk hl).mono ?_
      rintro e w' ⟨rfl, q1, q2⟩
      refine ⟨by rw [p1, p2], ?_⟩
      rw [p3, p4, p5]
      exact ⟨hW.ks q2 q1, q2⟩
    | some u =>
      by_cases hu : u = t
      · subst hu
        obtain ⟨p1, p2, p3, p4, p5⟩ := put_same h0 h1 hg c0 c1
        refine (sput_same D L c0 c1 k (nmS u) u W hW.sk (nm_le u) hg).mono ?_
        rintro e w' ⟨rfl, q1, q2⟩
        refine ⟨by rw [p1, p2], ?_⟩
        rw [p3, p4, p5]
        exact ⟨(hW.ks q2 q1).le (by omega), q2⟩
      · obtain ⟨p1, p2, p3, p4, p5⟩ := put_clash h0 h1 hg hu c0 c1
        refine (sput_clash D L c0 c1 k (nmS t) t W hW.sk (nm_le t) u hg (by
          cases q : (u.toList == t.toList) with
          | false => rfl
          | true => exact absurd (toListEq (by simpa using q)) hu)).mono ?_
        rintro e w' ⟨rfl, q1, q2⟩
        refine ⟨by rw [p1, p2], ?_⟩
        rw [p3, p4, p5]
        exact ⟨(hW.ks q2 q1).le (by omega), q2⟩
  clear hv h0 h1 hk hl
  go_enter Tryd.func8, Tryd.ntmps8
  go_wp2_with fail
  refine HM.out.mono ?_
  rintro e w' ⟨rfl, rfl⟩
  go_wp2_with fail
  rw [← HV.out]
  refine HU.out.mono ?_
  rintro e w2 ⟨rfl, hb2⟩
  have HS2 := Lib.hid ((HS.out.below HB0.out).below hb2)
  have HK2 := Lib.hid (Ks.of_below (HB0.out.trans (hb2.mono HB0.out.size)) HS.out.sk.lt)
  clear hb2 HU
  go_wp2_with fail
  refine (HC.out w2 HS2.out).mono ?_
  rintro e w3 hr
  have HR := Lib.hid hr.2
  obtain ⟨rfl, -⟩ := hr
  go_wp2_with fail
  go_ret2
  exact ⟨rfl, HR.out.1, HK2.out.trans HR.out.2⟩
end Go.Proofs.YtiflieaemgamkaaDoor

namespace Go.Proofs.YtiflieaemgamkaaDoor
open Go.RowKit Vi

theorem cmT_size {k : Int} {P : List ByteArray} {g t : ByteArray} (h : cmok k P g t = true) : (cmT k P g t).size ≤ 200 ∧ (cmT k P g t).size ≠ 0 := by
  have K := cmok_of h
  have z0 := pnC_size k
  have z1 := pnC_size (P.length : Int)
  have z2 := ptC_size t
  have z3 := catB_size K.p
  have z4 := K.g
  have z5 := K.t
  have z6 := K.n
  unfold cmT hdC
  simp only [ByteArray.size_append]
  have e : (⟨#[67]⟩ : ByteArray).size = 1 := rfl
  omega
theorem cm_inj {k k' : Int} {P P' : List ByteArray} {g g' t t' : ByteArray} (h : cmok k P g t = true) (h' : cmok k' P' g' t' = true) (e : cmT k P g t = cmT k' P' g' t') : k = k' ∧ P = P' ∧ g = g' ∧ t = t' := by
  have x := (gs_is h).2
  rw [e] at x
  obtain ⟨a, b, c, d, _⟩ := gs_fun x (gs_is h').2
  exact ⟨a, b, c, d⟩
theorem get_oneC (t : ByteArray) : getO [(nmS t, t)] (nmS t) = some t := by unfold getO; simp [List.find?]
section
variable {k : Int} {A : Option Addr} {n c : Nat} {P : List ByteArray} {g t : ByteArray} {w w0 : World} {m D : Nat}
set_option linter.unusedSimpArgs false in
set_option maxRecDepth 100000 in
set_option maxHeartbeats 4000000 in
theorem cload_any {L : List Ob} {c0 c1 : ByteArray} {z : Nat} (s T : ByteArray) (h : SK D L c0 c1 z w) (hs : s.size ≤ maxLen) (hT : (getO L s).getD ⟨#[]⟩ = T) (hz : T.size ≤ 1000000) :
    Calls Tryd.prog 13 #[.pointer (some ⟨D, 0, none⟩), .string s] w (TkP (.int .i64 0) (.int .i64 13) T w) := by
  have HF := Lib.hid (blk_new w (.cells #[.int .i64 0, .slice none 0 0, .string ⟨#[]⟩, .string ⟨#[]⟩] 41 (0, 0)))
  have hb0 : Below w.heap.size w (w.alloc (.cells #[.int .i64 0, .slice none 0 0, .string ⟨#[]⟩, .string ⟨#[]⟩] 41 (0, 0))) := (Below.refl w.heap.size w).alloc (Nat.le_refl _) (.cells #[.int .i64 0, .slice none 0 0, .string ⟨#[]⟩, .string ⟨#[]⟩] 41 (0, 0))
  have HB := Lib.hid hb0
  have HG := Lib.hid (sget_any D L c0 c1 z s _ (h.kept hb0) hs)
  rw [hT] at HG
  generalize (getO L s).isSome = ii at HG
  have HTK := Lib.hid (fun W : World => ctake_any T W hz)
  obtain ⟨v, hv⟩ : ∃ v, v = w.alloc (.cells #[.int .i64 0, .slice none 0 0, .string ⟨#[]⟩, .string ⟨#[]⟩] 41 (0, 0)) := ⟨_, rfl⟩
  have HV := Lib.hid hv
  rw [← hv] at HF HB HG
  clear h hv hs hT hz hb0
  go_enter Tryd.func13, Tryd.ntmps13
  go_upto_region 1 with (fail)
  rw [← HV.out]
  clear HV
  go_wp2_with fail
  refine HG.out.mono ?_
  rintro e w1 ⟨rfl, hb⟩
  have HF := Lib.hid (blk_below HF.out hb)
  have HB := Lib.hid (HB.out.trans (hb.mono HB.out.size))
  clear hb HG
  go_wp2_with fail
  refine (HTK.out w1).mono ?_
  rintro e w2 (⟨k, P, g, t, A, n, c, hok, hTT, rfl, hrd, hnc, hAr, hb⟩ | ⟨hno, rfl, hb⟩)
  · have hAw : ∀ b o, A = some ⟨b, o, none⟩ → w.heap.size < b := fun b o e => by have h1 := hAr b o e; have h2 := HB.out.size; omega
    have hnr : ∀ b o, A = some ⟨b, o, none⟩ → b ≠ w.heap.size := fun b o e => by have h1 := hAw b o e; omega
    clear hAr
    have HF := Lib.hid (blk_alloc (blk_below HF.out hb) (.cells #[.int .i64 k, .slice A n c, .string g, .string t] 41 (0, 0)))
    have HB := Lib.hid ((HB.out.trans (hb.mono HB.out.size)).alloc (HB.out.trans (hb.mono HB.out.size)).size (.cells #[.int .i64 k, .slice A n c, .string g, .string t] 41 (0, 0)))
    have H4 := Lib.hid (blk_new w2 (.cells #[.int .i64 k, .slice A n c, .string g, .string t] 41 (0, 0)))
    have HRD := Lib.hid (hrd.below ((Below.refl _ _).alloc (Nat.le_refl _) (.cells #[.int .i64 k, .slice A n c, .string g, .string t] 41 (0, 0))))
    have HTT := Lib.hid hTT
    clear hb hrd hTT
    go_upto_region 3 with (fail)
    generalize w2.alloc (.cells #[.int .i64 k, .slice A n c, .string g, .string t] 41 (0, 0)) = w3 at *
    generalize w2.heap.size = b8 at *
    have y0 : w3.cell? ⟨b8, 0, none⟩ = some (.int .i64 k) := (cell_of_row _ _ 0 _ _ _ H4.out).trans rfl
    have y1 : w3.cell? ⟨b8, 1, none⟩ = some (.slice A n c) := (cell_of_row _ _ 1 _ _ _ H4.out).trans rfl
    have y2 : w3.cell? ⟨b8, 2, none⟩ = some (.string g) := (cell_of_row _ _ 2 _ _ _ H4.out).trans rfl
    have y3 : w3.cell? ⟨b8, 3, none⟩ = some (.string t) := (cell_of_row _ _ 3 _ _ _ H4.out).trans rfl
    go_wp2_with (first
      | refine wpList_store_rowY rfl 41 (.tmp 4) (.tmp 24) rfl w.heap.size #[.int .i64 k, .slice A n c, .string g, .string t] rfl rfl 41 _ HF.out (info_cmC _ _ _ _) rfl (one_cmC _ _ _ _ _ _) w.heap.size w HB.out (Nat.le_refl _) ?_)
    intro W8 hbk hoth hbel hsz8
    have HRD := Lib.hid (show RdX stC 1 W8 A n P from HRD.out.othR hoth.out hsz8.out hnr)
    go_wp2_with fail
    refine bodyPost_ret (results_ctY rfl _ _ w.heap.size _ rfl (run_loadVar_row _ w.heap.size 41 41 _ (0, 0) _ hbk.out Tryd.underlying41 rfl (info_cmC _ _ _ _))) rfl ?_
    exact .inl ⟨k, P, g, t, A, n, c, hok, HTT.out, rfl, HRD.out, hnc, hAw, hbel.out⟩
  · have HF := Lib.hid (blk_alloc (blk_below HF.out hb) (.cells #[.int .i64 0, .slice none 0 0, .string ⟨#[]⟩, .string ⟨#[]⟩] 41 (0, 0)))
    have HB := Lib.hid ((HB.out.trans (hb.mono HB.out.size)).alloc (HB.out.trans (hb.mono HB.out.size)).size (.cells #[.int .i64 0, .slice none 0 0, .string ⟨#[]⟩, .string ⟨#[]⟩] 41 (0, 0)))
    have HN := Lib.hid hno
    clear hb hno
    go_upto_region 3 with (fail)
    generalize w2.alloc (.cells #[.int .i64 0, .slice none 0 0, .string ⟨#[]⟩, .string ⟨#[]⟩] 41 (0, 0)) = w3 at *
    go_wp2_with (first
      | refine wpList_store_rowY rfl 41 (.tmp 4) (.tmp 23) rfl w.heap.size #[.int .i64 0, .slice none 0 0, .string ⟨#[]⟩, .string ⟨#[]⟩] rfl rfl 41 _ HF.out (info_cmC _ _ _ _) rfl (one_cmC _ _ _ _ _ _) w.heap.size w HB.out (Nat.le_refl _) ?_)
    intro W8 hbk hoth hbel hsz8
    go_wp2_with fail
    refine bodyPost_ret (results_ctY rfl _ _ w.heap.size _ rfl (run_loadVar_row _ w.heap.size 41 41 _ (0, 0) _ hbk.out Tryd.underlying41 rfl (info_cmC _ _ _ _))) rfl ?_
    exact .inr ⟨HN.out, rfl, hbel.out⟩
end
theorem no_L0 : ∀ (k : Int) (P : List ByteArray) (g t : ByteArray), cmok k P g t = true → (⟨#[76, 0]⟩ : ByteArray) ≠ cmT k P g t := by
  intro k P g t h e
  obtain ⟨m, rfl⟩ := Int.eq_ofNat_of_zero_le (show 0 ≤ k by have := (cmok_of h).k1; omega)
  have y := cmT_list m P g t
  rw [← e] at y
  have z : (76 : UInt8) = 67 := by have q := congrArg List.head? y; simp at q
  exact absurd z (by decide)
set_option maxRecDepth 100000 in
set_option maxHeartbeats 4000000 in
theorem awake35_any (w : World) (hT : HTab w) : Calls Tryd.prog 5 #[] w fun e w' => e = .returned (.bool true) ∧ Below w.heap.size w w' := by
  have HT := Lib.hid hT
  clear hT
  obtain ⟨T, hT⟩ : ∃ T : ByteArray, T = ⟨#[76, 0]⟩ := ⟨_, rfl⟩
  have hz : T.size = 2 := by rw [hT]; rfl
  have P1 := Lib.hid (put_none (L := []) (t := T) (by omega) (by omega) rfl ⟨#[]⟩ ⟨#[]⟩)
  have HNO := Lib.hid no_L0
  rw [← hT] at HNO
  have HTT := Lib.hid hT.symm
  have hne : nmS T ≠ ⟨#[]⟩ := fun e => by have y := nm_size T; rw [e] at y; cases y
  have HGO := Lib.hid (get_oneC T)
  have HNS := Lib.hid (nm_le T)
  go_enter Tryd.func5, Tryd.ntmps5
  go_wp2_with fail
  refine (snew_any w).mono ?_
  rintro e w1 hr
  obtain ⟨D, rfl, h1⟩ := NewS.sw (Below.refl _ w) hr
  have H1 := Lib.hid h1
  clear h1 hr hT
  go_wp2_with fail
  rw [HTT.out]
  refine (sputT_any _ _ D _ _ _ 0 _ w1 H1.out HT.out (Nat.le_refl _) (by decide) (by decide)).mono ?_
  rintro e w2 ⟨rfl, h2, -⟩
  rw [P1.out.1, P1.out.2.1]
  rw [P1.out.2.2.1, P1.out.2.2.2.1, P1.out.2.2.2.2] at h2
  have H2 := Lib.hid (show SW _ _ D [(nmS T, T)] _ _ _ w2 from h2)
  clear h2 H1 P1
  generalize nmS T = N at *
  have s1 : (N == (⟨#[]⟩ : ByteArray)) = false := ba_neC hne
  have s2 : (N.toList == []) = false := by have y := ba_neLC hne; simpa using y
  have s3 : N.toList.isEmpty = false := by cases q : N.toList with
    | nil => rw [q] at s2; cases s2
    | cons _ _ => rfl
  clear hne
  go_wp2_with fail
  refine (cload_any N T H2.out.sk HNS.out (by rw [HGO.out]; rfl) (by omega)).mono ?_
  rintro e w3 (⟨k, P, g, t, A, n, c, hok, hTT, rfl, hrd, hnc, hAr, hb⟩ | ⟨hno, rfl, hb⟩)
  · exact absurd hTT (HNO.out k P g t hok)
  · have HB := Lib.hid (H2.out.bel.trans (hb.mono H2.out.sz))
    have HB2 := Lib.hid (HB.out.alloc HB.out.size (.cells #[.int .i64 0, .slice none 0 0, .string ⟨#[]⟩, .string ⟨#[]⟩] 41 (0, 0)))
    clear hb
    go_wp2_with fail
    go_ret
    exact ⟨rfl, HB2.out⟩
end Go.Proofs.YtiflieaemgamkaaDoor

namespace Go.Proofs.YtiflieaemgamkaaDoor
open Go.RowKit Vi

theorem but_ofRow {n g : Nat} {w W W' : World} (hb : Below n w W) (hb' : Below n w W') (hz : W'.heap.size = W.heap.size) (ho : ∀ k, k ≠ g → W'.heap[k]? = W.heap[k]?) : But g W W' :=
  ⟨hb'.os.trans hb.os.symm, hb'.tape.trans hb.tape.symm, hb'.output.trans hb.output.symm, Nat.le_of_eq hz.symm, fun k _ hne => ho k (fun e => hne (by rw [e]))⟩
theorem info_scC (S : ByteArray) (q er : Int) : (Tryd.prog.info? 102).map (·.size) = some (#[.string S, .int .i64 q, .int .i64 er] : Array Value).size := by kernel_rfl
theorem one_scC (S : ByteArray) (q er : Int) : (#[.string S, .int .i64 q, .int .i64 er] : Array Value).all (·.oneCell') = true := by simp [Value.oneCell']
theorem byte_fixC (S : ByteArray) : ∃ c0 : Int, ∃ x0 q0 e0, Rd.byte S 0 0 = (c0, q0, e0) ∧ Rd.fix S 0 0 1 = (x0, q0, e0) ∧ (c0 = 67 → S.size ≠ 0) := by
  unfold Rd.byte Rd.fix
  rw [if_neg (by simp), if_neg (by simp)]
  by_cases h : 0 < S.size
  · rw [dif_pos h, if_neg (by omega)]
    exact ⟨_, _, _, _, rfl, rfl, fun _ => by omega⟩
  · rw [dif_neg h, if_pos (by omega)]
    exact ⟨_, _, _, _, rfl, rfl, fun e => by cases e⟩
theorem byte_67 {k : Int} {P : List ByteArray} {g t : ByteArray} (h : cmok k P g t = true) : (Rd.byte (cmT k P g t) 0 0).1 = 67 := by
  obtain ⟨m, rfl⟩ := Int.eq_ofNat_of_zero_le (show 0 ≤ k by have := (cmok_of h).k1; omega)
  have y := cmT_list m P g t
  generalize cmT (m : Int) P g t = S at y
  have hz : 0 < S.size := by rw [← ba_lenC, y]; simp
  unfold Rd.byte
  rw [if_neg (by simp), dif_pos hz]
  have q : S.data.toList[0]? = some 67 := by rw [y]; rfl
  have q2 : S[0] = 67 := by
    have z : S.data.toList[0]? = some (S.data[0]'hz) := by simp
    rw [q] at z
    exact (Option.some.inj z).symm
  show ((S[0].toNat : Nat) : Int) = 67
  rw [q2]
  rfl
set_option linter.unusedSimpArgs false in
set_option maxRecDepth 100000 in
set_option maxHeartbeats 16000000 in
theorem crtake_any (S : ByteArray) (w : World) (hS : S.size ≤ 1000000) : Calls Tryd.prog 34 #[.string S] w (TkP (.bool true) (.bool false) S w) := by
  obtain ⟨c0, x0, q0, e0, hb0, h0, hc0⟩ := byte_fixC S
  obtain ⟨a, ps, g, t, er, hG⟩ := gs_ex S q0 e0
  have HNO := Lib.hid (tk_no h0 hG)
  have HYES := Lib.hid (show cmok a ps g t = true → S = cmT a ps g t → er = 0 ∧ c0 = 67 from fun h1 h2 => by
    obtain ⟨f0, f1⟩ := gs_is h1
    have y := byte_67 h1
    rw [← h2] at f0 f1 y
    have x := h0.symm.trans f0
    simp only [Prod.mk.injEq] at x
    obtain ⟨_, rfl, rfl⟩ := x
    rw [hb0] at y
    exact ⟨(gs_fun hG f1).2.2.2.2, y⟩)
  have hlen := gs_len hG
  have HC0 := Lib.hid hc0
  obtain ⟨q1, e1, M, q2, e2, q3, e3, q4, e4, q5, h1, h2, hM, h3, h4, h5⟩ := hG
  have l0 : q0 ≤ S.size := by have y := Rd.fix_le S 0 0 1 (Nat.zero_le _); rw [h0] at y; exact y
  have l1 : q1 ≤ S.size := by have y := Rd.num_le S q0 e0 4294967295 l0; rw [h1] at y; exact y
  have l2 : q2 ≤ S.size := by have y := Rd.num_le S q1 e1 2 l1; rw [h2] at y; exact y
  have l3 : q3 ≤ S.size := by have y := fxs_le (e := e2) l2 M; rw [h3] at y; exact y
  have l4 : q4 ≤ S.size := by have y := Rd.fix_le S q3 e3 32 l3; rw [h4] at y; exact y
  have HX0 := Lib.hid (fun (W : World) => rByte_any S 0 0 W hS (Nat.zero_le _))
  rw [hb0] at HX0
  have HN1 := Lib.hid (fun (W : World) => rNum_any S q0 e0 4294967295 W hS l0 (by decide) (by decide))
  rw [h1] at HN1
  have HN2 := Lib.hid (fun (W : World) => rNum_any S q1 e1 2 W hS l1 (by decide) (by decide))
  rw [h2] at HN2
  have HX4 := Lib.hid (fun (W : World) => rFix_any S q3 e3 32 W hS l3 (by decide) (by decide))
  rw [h4] at HX4
  have HT5 := Lib.hid (fun (W : World) => rText_any S q4 e4 40 W hS l4 (by decide) (by decide))
  rw [h5] at HT5
  unfold sv at HX0 HN1 HN2 HX4 HT5
  dsimp only at HX0 HN1 HN2 HX4 HT5
  have H3 := Lib.hid h3
  have HL2 := Lib.hid l2
  have HSS := Lib.hid hS
  clear h0 hb0 hc0 h1 h2 h3 h4 h5 l0 l1 l2 l3 l4 hS
  have HF := Lib.hid (blk_alloc (blk_new w (.cells #[.int .i64 0, .slice none 0 0, .string ⟨#[]⟩, .string ⟨#[]⟩] 41 (0, 0))) (.cells #[.int .i64 0, .slice none 0 0, .string ⟨#[]⟩, .string ⟨#[]⟩] 41 (0, 0)))
  have HB := Lib.hid (((Below.refl w.heap.size w).alloc (Nat.le_refl _) (.cells #[.int .i64 0, .slice none 0 0, .string ⟨#[]⟩, .string ⟨#[]⟩] 41 (0, 0))).alloc (by simp) (.cells #[.int .i64 0, .slice none 0 0, .string ⟨#[]⟩, .string ⟨#[]⟩] 41 (0, 0)))
  have H4 : Hid (((w.alloc (.cells #[.int .i64 0, .slice none 0 0, .string ⟨#[]⟩, .string ⟨#[]⟩] 41 (0, 0))).alloc (.cells #[.int .i64 0, .slice none 0 0, .string ⟨#[]⟩, .string ⟨#[]⟩] 41 (0, 0))).heap[w.heap.size + 1]? = some (.cells #[.int .i64 0, .slice none 0 0, .string ⟨#[]⟩, .string ⟨#[]⟩] 41 (0, 0))) := Lib.hid (two_blk _ _ _)
  go_enter Tryd.func34, Tryd.ntmps34
  go_upto_region 2 with (fail)
  generalize (w.alloc (.cells #[.int .i64 0, .slice none 0 0, .string ⟨#[]⟩, .string ⟨#[]⟩] 41 (0, 0))).alloc (.cells #[.int .i64 0, .slice none 0 0, .string ⟨#[]⟩, .string ⟨#[]⟩] 41 (0, 0)) = v at *
  have hwb : w.heap.size < w.heap.size + 1 := Nat.lt_succ_self _
  generalize w.heap.size + 1 = b4 at *
  go_wp2_with fail
  refine (HX0.out v).mono ?_
  rintro e w1 ⟨rfl, hb⟩
  have hlt4 : b4 < w1.heap.size := lt_of_block (blk_below H4.out hb)
  have HF := Lib.hid (blk_alloc (blk_below HF.out hb) (.cells #[.string S, .int .i64 (q0 : Int), .int .i64 e0] 102 (0, 0)))
  have H4 := Lib.hid (blk_alloc (blk_below H4.out hb) (.cells #[.string S, .int .i64 (q0 : Int), .int .i64 e0] 102 (0, 0)))
  have HB := Lib.hid ((HB.out.trans (hb.mono HB.out.size)).alloc (HB.out.trans (hb.mono HB.out.size)).size (.cells #[.string S, .int .i64 (q0 : Int), .int .i64 e0] 102 (0, 0)))
  have H5 := Lib.hid (blk_new w1 (.cells #[.string S, .int .i64 (q0 : Int), .int .i64 e0] 102 (0, 0)))
  clear hb HX0
  go_upto_region 3 with (fail)
  generalize w1.alloc (.cells #[.string S, .int .i64 (q0 : Int), .int .i64 e0] 102 (0, 0)) = w2 at *
  generalize w1.heap.size = b5 at *
  have s0 : w2.cell? ⟨b5, 0, none⟩ = some (.string S) := (cell_of_row _ _ 0 _ _ _ H5.out).trans rfl
  have s1 : w2.cell? ⟨b5, 1, none⟩ = some (.int .i64 (q0 : Int)) := (cell_of_row _ _ 1 _ _ _ H5.out).trans rfl
  have s2 : w2.cell? ⟨b5, 2, none⟩ = some (.int .i64 e0) := (cell_of_row _ _ 2 _ _ _ H5.out).trans rfl
  go_wp2_with fail
  clear s0 s1 s2
  refine (HN1.out w2).mono ?_
  rintro e w3 ⟨rfl, hb⟩
  have HF := Lib.hid (blk_below HF.out hb)
  have H4 := Lib.hid (blk_below H4.out hb)
  have H5 := Lib.hid (blk_below H5.out hb)
  have HB := Lib.hid (HB.out.trans (hb.mono HB.out.size))
  clear hb
  go_wp2_with (first
    | refine wpList_store_rowY rfl 102 (.tmp 5) (.tmp 20) rfl b5 #[.string S, .int .i64 (q1 : Int), .int .i64 e1] rfl rfl 102 _ H5.out (info_scC _ _ _) rfl (one_scC _ _ _) w.heap.size w HB.out (by omega) ?_)
  intro w4 hbk hoth hbel hsz
  have HK := Lib.hid (but_ofRow HB.out hbel.out hsz.out hoth.out)
  have HF := Lib.hid (blk_but HF.out HK.out (by omega))
  have H4 := Lib.hid (blk_but H4.out HK.out (by omega))
  have H5 := Lib.hid hbk.out
  have HB := Lib.hid hbel.out
  clear hbk hoth hbel hsz HK
  have y0 : w4.cell? ⟨b4, 0, none⟩ = some (.int .i64 0) := (cell_of_row _ _ 0 _ _ _ H4.out).trans rfl
  have z0 : w4.frozen? ⟨b4, 0, none⟩ = false := frozen_of_row _ _ _ _ _ H4.out
  go_upto_region 4 with (fail)
  clear y0 z0
  have HK := Lib.hid ((But.refl b4 w4).set 0 (.int .i64 a))
  have H4 : Hid ((w4.setCell ⟨b4, 0, none⟩ (.int .i64 a)).heap[b4]? = some (.cells #[.int .i64 a, .slice none 0 0, .string ⟨#[]⟩, .string ⟨#[]⟩] 41 (0, 0))) := Lib.hid (by have y := heap_setCell_at (i := 0) (u := .int .i64 a) H4.out; exact y)
  have HF := Lib.hid (blk_but HF.out HK.out (by omega))
  have H5 := Lib.hid (blk_but H5.out HK.out (by omega))
  have HB := Lib.hid (But.below HB.out HK.out (by omega) HB.out.size)
  clear HK
  generalize w4.setCell ⟨b4, 0, none⟩ (.int .i64 a) = w5 at *
  have s0 : w5.cell? ⟨b5, 0, none⟩ = some (.string S) := (cell_of_row _ _ 0 _ _ _ H5.out).trans rfl
  have s1 : w5.cell? ⟨b5, 1, none⟩ = some (.int .i64 (q1 : Int)) := (cell_of_row _ _ 1 _ _ _ H5.out).trans rfl
  have s2 : w5.cell? ⟨b5, 2, none⟩ = some (.int .i64 e1) := (cell_of_row _ _ 2 _ _ _ H5.out).trans rfl
  go_wp2_with fail
  clear s0 s1 s2
  refine (HN2.out w5).mono ?_
  rintro e w6 ⟨rfl, hb⟩
  have HF := Lib.hid (blk_below HF.out hb)
  have H4 := Lib.hid (blk_below H4.out hb)
  have H5 := Lib.hid (blk_below H5.out hb)
  have HB := Lib.hid (HB.out.trans (hb.mono HB.out.size))
  clear hb
  go_wp2_with (first
    | refine wpList_store_rowY rfl 102 (.tmp 5) (.tmp 26) rfl b5 #[.string S, .int .i64 (q2 : Int), .int .i64 e2] rfl rfl 102 _ H5.out (info_scC _ _ _) rfl (one_scC _ _ _) w.heap.size w HB.out (by omega) ?_)
  intro w7 hbk hoth hbel hsz
  have HK := Lib.hid (but_ofRow HB.out hbel.out hsz.out hoth.out)
  have HF := Lib.hid (blk_but HF.out HK.out (by omega))
  have H4 := Lib.hid (blk_but H4.out HK.out (by omega))
  have H5 := Lib.hid hbk.out
  have HB := Lib.hid hbel.out
  clear hbk hoth hbel hsz HK
  have hszb : b5 + 1 ≤ w7.heap.size := lt_of_block H5.out
  clear HN1 HN2
  go_wp2_with fail
  go_loopw [8] (fun i wr => ∃ (j : Nat) (v : Value) (acc : List ByteArray) (q : Nat) (e : Int), i = .int .i64 (j : Int) ∧ j ≤ M ∧ fxs S q2 e2 j = (acc, q, e) ∧ wr.heap[b4]? = some (.cells #[.int .i64 a, v, .string ⟨#[]⟩, .string ⟨#[]⟩] 41 (0, 0)) ∧ OwX stC 1 9 wr (b5 + 1) v acc ∧ wr.heap[b5]? = some (.cells #[.string S, .int .i64 (q : Int), .int .i64 e] 102 (0, 0)) ∧ wr.heap[w.heap.size]? = some (.cells #[.int .i64 0, .slice none 0 0, .string ⟨#[]⟩, .string ⟨#[]⟩] 41 (0, 0)) ∧ Below w.heap.size w wr) (fun i _ => M - (intOf i).toNat)
  case atStart => exact ⟨0, _, [], q2, e2, rfl, Nat.zero_le _, rfl, H4.out, OwX.nil _, H5.out, HF.out, HB.out⟩
  case round =>
    obtain ⟨j, v, acc, q, e, rfl, hj, hfx, h4, ho, h5, hf, hb⟩ := hrel
    clear HF HB H4 H5 hszb
    have HF := Lib.hid hf
    have HB := Lib.hid hb
    have H4 := Lib.hid h4
    have H5 := Lib.hid h5
    have HO := Lib.hid ho
    have HFX := Lib.hid hfx
    clear hf hb h4 h5 ho hfx
    by_cases hlt : j < M
    · have hd1 : decide ((j : Int) < (M : Int)) = true := decide_eq_true (by omega)
      have hd2 : decide (j < M) = true := decide_eq_true hlt
      have hw1 : IntKind.i64.wrap ((j : Int) + 1) = (j : Int) + 1 := IntWalk.i64_in _ (by omega)
      obtain ⟨x, q', e', hx⟩ : ∃ x q' e', Rd.fix S q e 32 = (x, q', e') := ⟨_, _, _, rfl⟩
      have hql : q ≤ S.size := by have y := fxs_le (e := e2) HL2.out j; rw [HFX.out] at y; exact y
      have HXL := Lib.hid (fun (W : World) => rFix_any S q e 32 W HSS.out hql (by decide) (by decide))
      rw [hx] at HXL
      unfold sv at HXL
      dsimp only at HXL
      have HFX2 := Lib.hid (fxs_succ HFX.out hx)
      have hal : acc.length + 1 ≤ 1000000 := by have y := fxs_len (S := S) (q := q2) (e := e2) j; rw [HFX.out] at y; have z : acc.length = j := y; omega
      clear hx hql
      have s0 : wr.cell? ⟨b5, 0, none⟩ = some (.string S) := (cell_of_row _ _ 0 _ _ _ H5.out).trans rfl
      have s1 : wr.cell? ⟨b5, 1, none⟩ = some (.int .i64 (q : Int)) := (cell_of_row _ _ 1 _ _ _ H5.out).trans rfl
      have s2 : wr.cell? ⟨b5, 2, none⟩ = some (.int .i64 e) := (cell_of_row _ _ 2 _ _ _ H5.out).trans rfl
      go_wp2_with fail
      clear s0 s1 s2
      refine (HXL.out wr).mono ?_
      rintro e u1 ⟨rfl, hb⟩
      have HF := Lib.hid (blk_below HF.out hb)
      have H4 := Lib.hid (blk_below H4.out hb)
      have H5 := Lib.hid (blk_below H5.out hb)
      have HB := Lib.hid (HB.out.trans (hb.mono HB.out.size))
      have HO := Lib.hid (HO.out.kept hb)
      clear hb
      have hlt5 : b5 < u1.heap.size := lt_of_block H5.out
      have HF := Lib.hid (blk_alloc HF.out (.cells #[.string S, .int .i64 (q' : Int), .int .i64 e'] 102 (0, 0)))
      have H4 := Lib.hid (blk_alloc H4.out (.cells #[.string S, .int .i64 (q' : Int), .int .i64 e'] 102 (0, 0)))
      have H5 := Lib.hid (blk_alloc H5.out (.cells #[.string S, .int .i64 (q' : Int), .int .i64 e'] 102 (0, 0)))
      have H9 := Lib.hid (blk_new u1 (.cells #[.string S, .int .i64 (q' : Int), .int .i64 e'] 102 (0, 0)))
      have HB := Lib.hid (HB.out.alloc HB.out.size (.cells #[.string S, .int .i64 (q' : Int), .int .i64 e'] 102 (0, 0)))
      have HO := Lib.hid (HO.out.alloc (.cells #[.string S, .int .i64 (q' : Int), .int .i64 e'] 102 (0, 0)))
      go_upto_region 9 with (fail)
      generalize u1.alloc (.cells #[.string S, .int .i64 (q' : Int), .int .i64 e'] 102 (0, 0)) = u2 at *
      generalize u1.heap.size = b9 at *
      have s0 : u2.cell? ⟨b9, 0, none⟩ = some (.string S) := (cell_of_row _ _ 0 _ _ _ H9.out).trans rfl
      have s1 : u2.cell? ⟨b9, 1, none⟩ = some (.int .i64 (q' : Int)) := (cell_of_row _ _ 1 _ _ _ H9.out).trans rfl
      have s2 : u2.cell? ⟨b9, 2, none⟩ = some (.int .i64 e') := (cell_of_row _ _ 2 _ _ _ H9.out).trans rfl
      go_wp2_with (first
        | refine wpList_store_rowY rfl 102 (.tmp 5) (.tmp 38) rfl b5 #[.string S, .int .i64 (q' : Int), .int .i64 e'] rfl rfl 102 _ H5.out (info_scC _ _ _) rfl (one_scC _ _ _) w.heap.size w HB.out (by omega) ?_)
      intro u3 hbk hoth hbel hsz
      clear s0 s1 s2
      have HK := Lib.hid (but_ofRow HB.out hbel.out hsz.out hoth.out)
      have HF := Lib.hid (blk_but HF.out HK.out (by omega))
      have H4 := Lib.hid (blk_but H4.out HK.out (by omega))
      have H5 := Lib.hid hbk.out
      have HB := Lib.hid hbel.out
      have HO := Lib.hid (HO.out.butC HK.out (by omega))
      clear hbk hoth hbel hsz HK H9
      have y1 : u3.cell? ⟨b4, 1, none⟩ = some v := (cell_of_row _ _ 1 _ _ _ H4.out).trans rfl
      have hs3 : b5 + 1 ≤ u3.heap.size := lt_of_block H5.out
      have hbd : Below u3.heap.size u3 (u3.alloc (.cells #[.string x] 9 (0, 0))) := (Below.refl _ _).alloc (Nat.le_refl _) _
      have HF := Lib.hid (blk_below HF.out hbd)
      have H4 := Lib.hid (blk_below H4.out hbd)
      have H5 := Lib.hid (blk_below H5.out hbd)
      have HB := Lib.hid (HB.out.alloc HB.out.size (.cells #[.string x] 9 (0, 0)))
      have hsz5 : b5 + 1 ≤ (u3.alloc (.cells #[.string x] 9 (0, 0))).heap.size := lt_of_block H5.out
      go_wp2_with (at_builtin; refine wpList_appX rfl (.tmp 40) (.tmp 42) 22 9 _ 16 rfl Tryd.underlying22 info_stA rfl (by omega) (by omega) stC_len stC_one (b5 + 1) (u3.alloc (.cells #[.string x] 9 (0, 0))) (Below.refl _ _) hsz5 v acc rfl (HO.out.alloc (.cells #[.string x] 9 (0, 0))) u3.heap.size 1 x #[.string x] 9 (0, 0) rfl (heap_alloc_new u3 _) rfl hal ?_)
      intro v5 w5 ho5 hb5 _ _
      clear y1 hbd
      have HF := Lib.hid ((hb5.out.block w.heap.size (by omega)).trans HF.out)
      have H4 := Lib.hid ((hb5.out.block b4 (by omega)).trans H4.out)
      have H5 := Lib.hid ((hb5.out.block b5 (by omega)).trans H5.out)
      have HB := Lib.hid (HB.out.trans (hb5.out.mono (by omega)))
      obtain ⟨A5, c5, hv5, _, _, _⟩ := ho5.out.rd stC_len
      rw [List.length_append, List.length_singleton] at hv5
      subst hv5
      clear HO hb5 hsz5 hs3
      have y0 : w5.cell? ⟨b4, 1, none⟩ = some v := (cell_of_row _ _ 1 _ _ _ H4.out).trans rfl
      have z0 : w5.frozen? ⟨b4, 1, none⟩ = false := frozen_of_row _ _ _ _ _ H4.out
      have HK := Lib.hid ((But.refl b4 w5).set 1 (.slice A5 (acc.length + 1) c5))
      have H6 : Hid ((w5.setCell ⟨b4, 1, none⟩ (.slice A5 (acc.length + 1) c5)).heap[b4]? = some (.cells #[.int .i64 a, .slice A5 (acc.length + 1) c5, .string ⟨#[]⟩, .string ⟨#[]⟩] 41 (0, 0))) := Lib.hid (by have y := heap_setCell_at (i := 1) (u := .slice A5 (acc.length + 1) c5) H4.out; exact y)
      have HF6 := Lib.hid (blk_but HF.out HK.out (by omega))
      have H56 := Lib.hid (blk_but H5.out HK.out (by omega))
      have HB6 := Lib.hid (But.below HB.out HK.out (by omega) HB.out.size)
      have HO6 := Lib.hid (ho5.out.butC HK.out (by omega))
      clear HF HB H4 H5 HK ho5
      go_wp2_with fail
      go_roundw
      case rel => exact ⟨j + 1, _, acc ++ [x], q', e', by go_num, by omega, HFX2.out, H6.out, HO6.out, H56.out, HF6.out, HB6.out⟩
      case measure => simp [intOf] <;> omega
    · have hd1 : decide ((j : Int) < (M : Int)) = false := decide_eq_false (by omega)
      have hd2 : decide (j < M) = false := decide_eq_false hlt
      obtain rfl : j = M := by omega
      have hq := HFX.out.symm.trans H3.out
      simp only [Prod.mk.injEq] at hq
      obtain ⟨rfl, rfl, rfl⟩ := hq
      clear HFX
      go_upto_region 11 with (fail)
      have s0 : wr.cell? ⟨b5, 0, none⟩ = some (.string S) := (cell_of_row _ _ 0 _ _ _ H5.out).trans rfl
      have s1 : wr.cell? ⟨b5, 1, none⟩ = some (.int .i64 (q : Int)) := (cell_of_row _ _ 1 _ _ _ H5.out).trans rfl
      have s2 : wr.cell? ⟨b5, 2, none⟩ = some (.int .i64 e) := (cell_of_row _ _ 2 _ _ _ H5.out).trans rfl
      go_wp2_with fail
      clear s0 s1 s2
      refine (HX4.out wr).mono ?_
      rintro e u1 ⟨rfl, hb⟩
      have HF := Lib.hid (blk_below HF.out hb)
      have H4 := Lib.hid (blk_below H4.out hb)
      have H5 := Lib.hid (blk_below H5.out hb)
      have HB := Lib.hid (HB.out.trans (hb.mono HB.out.size))
      have HO := Lib.hid (HO.out.kept hb)
      clear hb
      go_wp2_with (first
        | refine wpList_store_rowY rfl 102 (.tmp 5) (.tmp 48) rfl b5 #[.string S, .int .i64 (q4 : Int), .int .i64 e4] rfl rfl 102 _ H5.out (info_scC _ _ _) rfl (one_scC _ _ _) w.heap.size w HB.out (by omega) ?_)
      intro u2 hbk hoth hbel hsz
      have HK := Lib.hid (but_ofRow HB.out hbel.out hsz.out hoth.out)
      have HF := Lib.hid (blk_but HF.out HK.out (by omega))
      have H4 := Lib.hid (blk_but H4.out HK.out (by omega))
      have H5 := Lib.hid hbk.out
      have HB := Lib.hid hbel.out
      have HO := Lib.hid (HO.out.butC HK.out (by omega))
      clear hbk hoth hbel hsz HK
      have y0 : u2.cell? ⟨b4, 2, none⟩ = some (.string ⟨#[]⟩) := (cell_of_row _ _ 2 _ _ _ H4.out).trans rfl
      have z0 : u2.frozen? ⟨b4, 2, none⟩ = false := frozen_of_row _ _ _ _ _ H4.out
      go_upto_region 12 with (fail)
      clear y0 z0
      have HK := Lib.hid ((But.refl b4 u2).set 2 (.string g))
      have H4 : Hid ((u2.setCell ⟨b4, 2, none⟩ (.string g)).heap[b4]? = some (.cells #[.int .i64 a, v, .string g, .string ⟨#[]⟩] 41 (0, 0))) := Lib.hid (by have y := heap_setCell_at (i := 2) (u := .string g) H4.out; exact y)
      have HF := Lib.hid (blk_but HF.out HK.out (by omega))
      have H5 := Lib.hid (blk_but H5.out HK.out (by omega))
      have HB := Lib.hid (But.below HB.out HK.out (by omega) HB.out.size)
      have HO := Lib.hid (HO.out.butC HK.out (by omega))
      clear HK
      generalize u2.setCell ⟨b4, 2, none⟩ (.string g) = u3 at *
      have s0 : u3.cell? ⟨b5, 0, none⟩ = some (.string S) := (cell_of_row _ _ 0 _ _ _ H5.out).trans rfl
      have s1 : u3.cell? ⟨b5, 1, none⟩ = some (.int .i64 (q4 : Int)) := (cell_of_row _ _ 1 _ _ _ H5.out).trans rfl
      have s2 : u3.cell? ⟨b5, 2, none⟩ = some (.int .i64 e4) := (cell_of_row _ _ 2 _ _ _ H5.out).trans rfl
      go_wp2_with fail
      clear s0 s1 s2
      refine (HT5.out u3).mono ?_
      rintro e u4 ⟨rfl, hb⟩
      have HF := Lib.hid (blk_below HF.out hb)
      have H4 := Lib.hid (blk_below H4.out hb)
      have H5 := Lib.hid (blk_below H5.out hb)
      have HB := Lib.hid (HB.out.trans (hb.mono HB.out.size))
      have HO := Lib.hid (HO.out.kept hb)
      clear hb
      go_wp2_with (first
        | refine wpList_store_rowY rfl 102 (.tmp 5) (.tmp 54) rfl b5 #[.string S, .int .i64 (q5 : Int), .int .i64 er] rfl rfl 102 _ H5.out (info_scC _ _ _) rfl (one_scC _ _ _) w.heap.size w HB.out (by omega) ?_)
      intro u5 hbk hoth hbel hsz
      have HK := Lib.hid (but_ofRow HB.out hbel.out hsz.out hoth.out)
      have HF := Lib.hid (blk_but HF.out HK.out (by omega))
      have H4 := Lib.hid (blk_but H4.out HK.out (by omega))
      have H5 := Lib.hid hbk.out
      have HB := Lib.hid hbel.out
      have HO := Lib.hid (HO.out.butC HK.out (by omega))
      clear hbk hoth hbel hsz HK
      have y0 : u5.cell? ⟨b4, 3, none⟩ = some (.string ⟨#[]⟩) := (cell_of_row _ _ 3 _ _ _ H4.out).trans rfl
      have z0 : u5.frozen? ⟨b4, 3, none⟩ = false := frozen_of_row _ _ _ _ _ H4.out
      go_upto_region 13 with (fail)
      clear y0 z0
      have HK := Lib.hid ((But.refl b4 u5).set 3 (.string t))
      have H4 : Hid ((u5.setCell ⟨b4, 3, none⟩ (.string t)).heap[b4]? = some (.cells #[.int .i64 a, v, .string g, .string t] 41 (0, 0))) := Lib.hid (by have y := heap_setCell_at (i := 3) (u := .string t) H4.out; exact y)
      have HF := Lib.hid (blk_but HF.out HK.out (by omega))
      have H5 := Lib.hid (blk_but H5.out HK.out (by omega))
      have HB := Lib.hid (But.below HB.out HK.out (by omega) HB.out.size)
      have HO := Lib.hid (HO.out.butC HK.out (by omega))
      clear HK
      generalize u5.setCell ⟨b4, 3, none⟩ (.string t) = u6 at *
      obtain ⟨A, c, hvv, hrd, hnc, _⟩ := HO.out.rd stC_len
      have hAo : ∀ b, v.ownBlock = some b → b5 < b := fun b hb => (World.ownsRow.lt HO.out b hb).1
      subst hvv
      have hA5 : ∀ b o, A = some ⟨b, o, none⟩ → b5 < b := fun b o e => hAo b (by subst e; rfl)
      have hAw : ∀ b o, A = some ⟨b, o, none⟩ → w.heap.size < b := fun b o e => by have h1 := hA5 b o e; omega
      have hnr : ∀ b o, A = some ⟨b, o, none⟩ → b ≠ w.heap.size := fun b o e => by have h1 := hA5 b o e; omega
      have HRD := Lib.hid hrd
      have hn2 : acc.length ≤ 100000 := by omega
      have HRP := Lib.hid (fun W (r : RdX stC 1 W A acc.length acc) => crput_any (k := a) (g := g) (t := t) (c := c) r hn2)
      clear hAo hA5 HO hrd
      have s2 : u6.cell? ⟨b5, 2, none⟩ = some (.int .i64 er) := (cell_of_row _ _ 2 _ _ _ H5.out).trans rfl
      have y0 : u6.cell? ⟨b4, 0, none⟩ = some (.int .i64 a) := (cell_of_row _ _ 0 _ _ _ H4.out).trans rfl
      have y1 : u6.cell? ⟨b4, 1, none⟩ = some (.slice A acc.length c) := (cell_of_row _ _ 1 _ _ _ H4.out).trans rfl
      have y2 : u6.cell? ⟨b4, 2, none⟩ = some (.string g) := (cell_of_row _ _ 2 _ _ _ H4.out).trans rfl
      have y3 : u6.cell? ⟨b4, 3, none⟩ = some (.string t) := (cell_of_row _ _ 3 _ _ _ H4.out).trans rfl
      by_cases her : er = 0
      rotate_left
      · have d1 : (er != 0) = true := by simpa using her
        have HN := Lib.hid (HNO.out (fun h => her (HYES.out h.1 h.2).1))
        go_wp2_with (first
          | refine wpList_store_rowY rfl 41 (.tmp 2) (.tmp 74) rfl w.heap.size #[.int .i64 0, .slice none 0 0, .string ⟨#[]⟩, .string ⟨#[]⟩] rfl rfl 41 _ HF.out (info_cmC _ _ _ _) rfl (one_cmC _ _ _ _ _ _) w.heap.size w HB.out (Nat.le_refl _) ?_)
        intro W8 hbk hoth hbel hsz8
        go_wp2_with fail
        refine bodyPost_ret (results_ctY rfl _ _ w.heap.size _ rfl (run_loadVar_row _ w.heap.size 41 41 _ (0, 0) _ hbk.out Tryd.underlying41 rfl (info_cmC _ _ _ _))) rfl ?_
        exact .inr ⟨HN.out, rfl, hbel.out⟩
      subst her
      by_cases hc : c0 = 67
      rotate_left
      · have d1 : (c0 != 67) = true := by simpa using hc
        have HN := Lib.hid (HNO.out (fun h => hc (HYES.out h.1 h.2).2))
        go_wp2_with (first
          | refine wpList_store_rowY rfl 41 (.tmp 2) (.tmp 74) rfl w.heap.size #[.int .i64 0, .slice none 0 0, .string ⟨#[]⟩, .string ⟨#[]⟩] rfl rfl 41 _ HF.out (info_cmC _ _ _ _) rfl (one_cmC _ _ _ _ _ _) w.heap.size w HB.out (Nat.le_refl _) ?_)
        intro W8 hbk hoth hbel hsz8
        go_wp2_with fail
        refine bodyPost_ret (results_ctY rfl _ _ w.heap.size _ rfl (run_loadVar_row _ w.heap.size 41 41 _ (0, 0) _ hbk.out Tryd.underlying41 rfl (info_cmC _ _ _ _))) rfl ?_
        exact .inr ⟨HN.out, rfl, hbel.out⟩
      subst hc
      have hS0 : S.size ≠ 0 := HC0.out rfl
      have hSn : S ≠ ⟨#[]⟩ := fun e => hS0 (by rw [e]; rfl)
      obtain ⟨U, hU⟩ : ∃ U, U = (if cmok a acc g t = true then cmT a acc g t else ⟨#[]⟩) := ⟨_, rfl⟩
      rw [← hU] at HRP
      have HU := Lib.hid hU
      clear hU
      go_wp2_with fail
      refine (HRP.out _ HRD.out).mono ?_
      rintro e u7 ⟨rfl, hb⟩
      have HF := Lib.hid (blk_below HF.out hb)
      have H4 := Lib.hid (blk_below H4.out hb)
      have HB := Lib.hid (HB.out.trans (hb.mono HB.out.size))
      have HRD := Lib.hid (HRD.out.below hb)
      clear hb HRP y0 y1 y2 y3 s2
      by_cases hSU : S = U
      · have hok : cmok a acc g t = true := by
          cases h : cmok a acc g t with
          | true => rfl
          | false => exact absurd (hSU.trans (by rw [HU.out, h, if_neg (by simp)])) hSn
        have HE := Lib.hid (show S = cmT a acc g t by rw [hSU, HU.out, if_pos hok])
        subst hSU
        have s1 : (S == S) = true := by show (S.data == S.data) = true; simp
        have s2 : (S.toList == S.toList) = true := by simp
        have s3 : (S == (⟨#[]⟩ : ByteArray)) = false := ba_neC hSn
        have s4 : (S.toList == []) = false := by have y := ba_neLC hSn; simpa using y
        have s5 : S.toList.isEmpty = false := by cases q : S.toList with
          | nil => rw [q] at s4; cases s4
          | cons _ _ => rfl
        have y0 : u7.cell? ⟨b4, 0, none⟩ = some (.int .i64 a) := (cell_of_row _ _ 0 _ _ _ H4.out).trans rfl
        have y1 : u7.cell? ⟨b4, 1, none⟩ = some (.slice A acc.length c) := (cell_of_row _ _ 1 _ _ _ H4.out).trans rfl
        have y2 : u7.cell? ⟨b4, 2, none⟩ = some (.string g) := (cell_of_row _ _ 2 _ _ _ H4.out).trans rfl
        have y3 : u7.cell? ⟨b4, 3, none⟩ = some (.string t) := (cell_of_row _ _ 3 _ _ _ H4.out).trans rfl
        go_wp2_with (first
          | refine wpList_store_rowY rfl 41 (.tmp 2) (.tmp 75) rfl w.heap.size #[.int .i64 a, .slice A acc.length c, .string g, .string t] rfl rfl 41 _ HF.out (info_cmC _ _ _ _) rfl (one_cmC _ _ _ _ _ _) w.heap.size w HB.out (Nat.le_refl _) ?_)
        intro W8 hbk hoth hbel hsz8
        have HRD := Lib.hid (show RdX stC 1 W8 A acc.length acc from HRD.out.othR hoth.out hsz8.out hnr)
        go_wp2_with fail
        refine bodyPost_ret (results_ctY rfl _ _ w.heap.size _ rfl (run_loadVar_row _ w.heap.size 41 41 _ (0, 0) _ hbk.out Tryd.underlying41 rfl (info_cmC _ _ _ _))) rfl ?_
        exact .inl ⟨a, acc, g, t, A, acc.length, c, hok, HE.out, rfl, HRD.out, hnc, hAw, hbel.out⟩
      · have s1 : (U == S) = false := ba_neC (fun e => hSU e.symm)
        have s2 : (U.toList == S.toList) = false := ba_neLC (fun e => hSU e.symm)
        have s3 : (U.toList == S.data.toList) = false := ba_neLD (fun e => hSU e.symm)
        have HN := Lib.hid (HNO.out (fun h => hSU (by rw [HU.out, if_pos h.1]; exact h.2)))
        go_wp2_with (first
          | refine wpList_store_rowY rfl 41 (.tmp 2) (.tmp 74) rfl w.heap.size #[.int .i64 0, .slice none 0 0, .string ⟨#[]⟩, .string ⟨#[]⟩] rfl rfl 41 _ HF.out (info_cmC _ _ _ _) rfl (one_cmC _ _ _ _ _ _) w.heap.size w HB.out (Nat.le_refl _) ?_)
        intro W8 hbk hoth hbel hsz8
        go_wp2_with fail
        refine bodyPost_ret (results_ctY rfl _ _ w.heap.size _ rfl (run_loadVar_row _ w.heap.size 41 41 _ (0, 0) _ hbk.out Tryd.underlying41 rfl (info_cmC _ _ _ _))) rfl ?_
        exact .inr ⟨HN.out, rfl, hbel.out⟩
end Go.Proofs.YtiflieaemgamkaaDoor
