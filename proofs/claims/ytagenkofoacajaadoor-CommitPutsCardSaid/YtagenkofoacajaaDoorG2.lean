/- Several texts of one family, merged for a claim. Conditions as in its parts. -/
import Derived.Test.YtagenkofoacajaaDoorG0
import Derived.Test.YtagenkofoacajaaDoorHd
import Derived.Test.YtagenkofoacajaaDoorG1
namespace Go.Proofs.YtagenkofoacajaaDoor
open Go.RowKit Vi Hm

/-- a text's name -/
def nmS (t : ByteArray) : ByteArray := ⟨(Hm.sum t.data.toList).toArray⟩
theorem sum_lenS (l : List UInt8) : (Hm.sum l).length = 32 := by
  unfold Hm.sum
  refine bytesOf_len _ ?_
  have : ∀ (q : Nat) (h : List Nat) (b : List UInt8), h.length = 8 → (blocks q h b).length = 8 := by
    intro q
    induction q with
    | zero => intro h b hl; exact hl
    | succ q ih => intro h b hl; exact ih _ _ (by unfold mix; rw [List.length_zipWith, hl]; rfl)
  exact this _ _ _ rfl
theorem nm_size (t : ByteArray) : (nmS t).size = 32 := by
  show (Hm.sum t.data.toList).toArray.size = 32
  rw [List.size_toArray, sum_lenS]
theorem nm_le (t : ByteArray) : (nmS t).size ≤ maxLen := by rw [nm_size]; decide
theorem cat_oneS (s : ByteArray) : catS [s] = s.data.toList := by simp [catS]
/-- the sum of one text, laid in a row of its own -/
theorem sum1_any (s : ByteArray) (W : World) (M : Nat) (hT : HTab W) (hS : StrS W (some ⟨M, 0, none⟩) 1 [s]) (hn : s.size ≤ 100000000) :
    Calls Tryd.prog 80 #[.slice (some ⟨M, 0, none⟩) 1 1] W fun e w' => e = .returned (.string (nmS s)) ∧ Below W.heap.size W w' := by
  have h := sumP_any (some ⟨M, 0, none⟩) 1 1 [s] W hT hS (by rw [cat_oneS]; simp; omega) (by omega)
  rw [cat_oneS] at h
  exact h
/-- the shelf is there, its blocks lie from n on, what lay below n of w0 lies as it lay -/
structure SW (n : Nat) (w0 : World) (D : Nat) (L : List Ob) (c0 c1 : ByteArray) (k : Nat) (w : World) : Prop where
  sk : SK D L c0 c1 k w
  far : ∀ b, InS D w b → n ≤ b
  bel : Below n w0 w
  sz : n ≤ w.heap.size
section
variable {n : Nat} {w0 : World} {D : Nat} {L L' : List Ob} {c0 c1 c0' c1' : ByteArray} {k k' : Nat} {w w' : World}
theorem SW.ks (h : SW n w0 D L c0 c1 k w) (q : Ks D w w') (h' : SK D L' c0' c1' k' w') : SW n w0 D L' c0' c1' k' w' :=
  ⟨h', fun b z => by
    rcases Nat.lt_or_ge b w.heap.size with hb | hb
    · exact h.far b (q.ind b hb z)
    · exact Nat.le_trans h.sz hb, ⟨q.os.trans h.bel.os, q.tape.trans h.bel.tape, q.output.trans h.bel.output, Nat.le_trans h.bel.size q.size, fun b hb => (q.block b (Nat.lt_of_lt_of_le hb h.sz) (fun z => by have := h.far b z; omega)).trans (h.bel.block b hb)⟩, Nat.le_trans h.sz q.size⟩
theorem SW.below (h : SW n w0 D L c0 c1 k w) (hb : Below w.heap.size w w') : SW n w0 D L c0 c1 k w' := h.ks (Ks.of_below hb h.sk.lt) (h.sk.kept hb)
theorem MapI.le {B : Nat} {f : ByteArray → Option Int} (h : MapI w B k f) (hk : k ≤ k') : MapI w B k' f := by
  obtain ⟨m, E, h1, h2, h3⟩ := h
  exact ⟨m, E, h1, Nat.le_trans h2 hk, h3⟩
theorem SK.le (h : SK D L c0 c1 k w) (hk : k ≤ k') : SK D L c0 c1 k' w := by
  obtain ⟨oa, on, oc, B, h1, h2, h3⟩ := h
  exact ⟨oa, on, oc, B, h1, h2, h3.le hk⟩
theorem SW.le (h : SW n w0 D L c0 c1 k w) (hk : k ≤ k') : SW n w0 D L c0 c1 k' w := ⟨h.sk.le hk, h.far, h.bel, h.sz⟩
end
theorem NewS.sw {w0 w w' : World} {e : Ending} (hb : Below w0.heap.size w0 w) (h : NewS w e w') : ∃ D, e = .returned (.pointer (some ⟨D, 0, none⟩)) ∧ SW w0.heap.size w0 D [] ⟨#[]⟩ ⟨#[]⟩ 0 w' := by
  obtain ⟨D, h1, h2, h3, h4⟩ := h
  exact ⟨D, h1, h2, fun b q => Nat.le_trans hb.size (h3 b q), hb.trans (h4.mono hb.size), Nat.le_trans hb.size h4.size⟩
/-- what Put answers, and what there is then -/
def putE (L : List Ob) (t : ByteArray) : Int := if t.size = 0 then 2 else if 65536 < t.size then 5 else match getO L (nmS t) with
  | none => 0
  | some u => if u = t then 0 else 15
def putN (L : List Ob) (t : ByteArray) : ByteArray := if putE L t = 0 then nmS t else ⟨#[]⟩
def putL (L : List Ob) (t : ByteArray) : List Ob := if putE L t = 0 ∧ getO L (nmS t) = none then L ++ [(nmS t, t)] else L
def putA (L : List Ob) (c0 c1 t : ByteArray) : ByteArray := if putE L t = 15 then mtA c0 c1 ((getO L (nmS t)).getD ⟨#[]⟩) else c0
def putB (L : List Ob) (c0 c1 t : ByteArray) : ByteArray := if putE L t = 15 then mtB c0 c1 t else c1
theorem put_none {L : List Ob} {t : ByteArray} (h0 : t.size ≠ 0) (h1 : ¬ 65536 < t.size) (hg : getO L (nmS t) = none) (c0 c1 : ByteArray) : putE L t = 0 ∧ putN L t = nmS t ∧ putL L t = L ++ [(nmS t, t)] ∧ putA L c0 c1 t = c0 ∧ putB L c0 c1 t = c1 := by
  have e : putE L t = 0 := by unfold putE; rw [if_neg h0, if_neg h1, hg]
  refine ⟨e, ?_, ?_, ?_, ?_⟩
  · unfold putN; rw [if_pos e]
  · unfold putL; rw [if_pos ⟨e, hg⟩]
  · unfold putA; rw [e, if_neg (by decide)]
  · unfold putB; rw [e, if_neg (by decide)]
theorem put_same {L : List Ob} {t : ByteArray} (h0 : t.size ≠ 0) (h1 : ¬ 65536 < t.size) (hg : getO L (nmS t) = some t) (c0 c1 : ByteArray) : putE L t = 0 ∧ putN L t = nmS t ∧ putL L t = L ∧ putA L c0 c1 t = c0 ∧ putB L c0 c1 t = c1 := by
  have e : putE L t = 0 := by unfold putE; rw [if_neg h0, if_neg h1, hg]; simp
  refine ⟨e, ?_, ?_, ?_, ?_⟩
  · unfold putN; rw [if_pos e]
  · unfold putL; rw [if_neg (by rw [hg]; simp)]
  · unfold putA; rw [e, if_neg (by decide)]
  · unfold putB; rw [e, if_neg (by decide)]
theorem put_clash {L : List Ob} {t u : ByteArray} (h0 : t.size ≠ 0) (h1 : ¬ 65536 < t.size) (hg : getO L (nmS t) = some u) (hu : u ≠ t) (c0 c1 : ByteArray) : putE L t = 15 ∧ putN L t = ⟨#[]⟩ ∧ putL L t = L ∧ putA L c0 c1 t = mtA c0 c1 u ∧ putB L c0 c1 t = mtB c0 c1 t := by
  have e : putE L t = 15 := by unfold putE; rw [if_neg h0, if_neg h1, hg]; simp [hu]
  refine ⟨e, ?_, ?_, ?_, ?_⟩
  · unfold putN; rw [e, if_neg (by decide)]
  · unfold putL; rw [if_neg (by rw [hg]; simp)]
  · unfold putA; rw [if_pos e, hg]; rfl
  · unfold putB; rw [if_pos e]
theorem put_bad {L : List Ob} {t : ByteArray} {x : Int} (h : t.size = 0 ∧ x = 2 ∨ t.size ≠ 0 ∧ 65536 < t.size ∧ x = 5) (c0 c1 : ByteArray) : putE L t = x ∧ putN L t = ⟨#[]⟩ ∧ putL L t = L ∧ putA L c0 c1 t = c0 ∧ putB L c0 c1 t = c1 := by
  have e : putE L t = x := by
    unfold putE
    rcases h with ⟨h, rfl⟩ | ⟨h, h', rfl⟩
    · rw [if_pos h]
    · rw [if_neg h, if_pos h']
  have hx : x = 2 ∨ x = 5 := by rcases h with ⟨_, rfl⟩ | ⟨_, _, rfl⟩ <;> simp
  refine ⟨e, ?_, ?_, ?_, ?_⟩
  · unfold putN; rw [e, if_neg (by rcases hx with rfl | rfl <;> decide)]
  · unfold putL; rw [e, if_neg (by rcases hx with rfl | rfl <;> simp)]
  · unfold putA; rw [e, if_neg (by rcases hx with rfl | rfl <;> decide)]
  · unfold putB; rw [e, if_neg (by rcases hx with rfl | rfl <;> decide)]
def RetPut (n : Nat) (w0 : World) (D : Nat) (L : List Ob) (c0 c1 : ByteArray) (k : Nat) (t : ByteArray) (w : World) (e : Ending) (w' : World) : Prop :=
  e = .returned (.tuple #[.string (putN L t), .int .i64 (putE L t)]) ∧ SW n w0 D (putL L t) (putA L c0 c1 t) (putB L c0 c1 t) (k + 1) w' ∧ Ks D w w'
theorem toListEq {a b : ByteArray} (h : a.toList = b.toList) : a = b := by
  rw [Lib.toList_data, Lib.toList_data] at h
  exact ByteArray.ext (Array.ext' h)
set_option maxRecDepth 100000 in
set_option maxHeartbeats 2000000 in
theorem sputT_any (n : Nat) (w0 : World) (D : Nat) (L : List Ob) (c0 c1 : ByteArray) (k : Nat) (t : ByteArray) (w : World) (h : SW n w0 D L c0 c1 k w) (hT : HTab w0) (hn : w0.heap.size ≤ n) (hk : k < 1000000) (hl : L.length < 1000000) :
    Calls Tryd.prog 46 #[.pointer (some ⟨D, 0, none⟩), .string t] w (RetPut n w0 D L c0 c1 k t w) := by
  have HS := Lib.hid h
  have HM := Lib.hid (show Calls Tryd.prog 54 #[.pointer (some ⟨D, 0, none⟩)] w fun e w' => e = .returned (.bool true) ∧ w = w' from by
    obtain ⟨oa, on, oc, B, h1, h2, h3⟩ := h.sk
    exact smade_any D oa on oc (some B) c0 c1 w h1)
  have HT := Lib.hid (hT.later (h.bel.mono hn))
  clear h hT hn
  by_cases h0 : t.size = 0
  · have HP := Lib.hid (put_bad (L := L) (x := 2) (.inl ⟨h0, rfl⟩) c0 c1)
    obtain rfl : t = ⟨#[]⟩ := ByteArray.ext (Array.eq_empty_of_size_eq_zero h0)
    clear h0
    go_enter Tryd.func46, Tryd.ntmps46
    go_wp2_with fail
    refine HM.out.mono ?_
    rintro e w' ⟨rfl, rfl⟩
    go_wp2_with fail
    go_ret2
    obtain ⟨p1, p2, p3, p4, p5⟩ := HP.out
    refine ⟨by simp only [p1, p2]; rfl, ?_⟩
    rw [p3, p4, p5]
    exact ⟨HS.out.le (by omega), Ks.refl _ _⟩
  have he : (t.toList == []) = false := by
    rw [Lib.toList_data]
    cases q : t.data.toList with
    | nil => exact absurd (by show t.data.size = 0; rw [← Array.length_toList, q]; rfl) h0
    | cons _ _ => rfl
  have he2 : t.toList.isEmpty = false := by
    rw [Lib.toList_data]
    cases q : t.data.toList with
    | nil => exact absurd (by show t.data.size = 0; rw [← Array.length_toList, q]; rfl) h0
    | cons _ _ => rfl
  by_cases h1 : 65536 < t.size
  · have HP := Lib.hid (put_bad (L := L) (x := 5) (.inr ⟨h0, h1, rfl⟩) c0 c1)
    have d1 : decide ((65536 : Int) < (t.size : Int)) = true := decide_eq_true (by omega)
    have d2 : decide (65536 < t.size) = true := decide_eq_true h1
    clear h0 h1
    go_enter Tryd.func46, Tryd.ntmps46
    go_wp2_with fail
    refine HM.out.mono ?_
    rintro e w' ⟨rfl, rfl⟩
    go_wp2_with fail
    go_ret2
    obtain ⟨p1, p2, p3, p4, p5⟩ := HP.out
    refine ⟨by simp only [p1, p2]; rfl, ?_⟩
    rw [p3, p4, p5]
    exact ⟨HS.out.le (by omega), Ks.refl _ _⟩
  have d1 : decide ((65536 : Int) < (t.size : Int)) = false := decide_eq_false (by omega)
  have d2 : decide (65536 < t.size) = false := decide_eq_false h1
  have HZ := Lib.hid (show t.size ≤ 100000000 by omega)
  have HKL := Lib.hid (And.intro hk hl)
  obtain ⟨v, hv⟩ : ∃ v, v = w.alloc (.cells #[.string t] 9) := ⟨_, rfl⟩
  have HV := Lib.hid hv
  have HB0 := Lib.hid (show Below w.heap.size w v by rw [hv]; exact (Below.refl _ w).alloc (Nat.le_refl _) _)
  have HS0 := Lib.hid (show StrS v (some ⟨w.heap.size, 0, none⟩) 1 [t] by rw [hv]; exact str_one w _)
  have HU := Lib.hid (sum1_any t v w.heap.size (HT.out.later HB0.out) HS0.out HZ.out)
  have HC : Hid (∀ W : World, SW n w0 D L c0 c1 k W → Calls Tryd.prog 79 #[.pointer (some ⟨D, 0, none⟩), .agg #[.string (nmS t), .string t]] W (RetPut n w0 D L c0 c1 k t W)) := by
    refine Lib.hid fun W hW => ?_
    obtain ⟨hk, hl⟩ := HKL.out
    cases hg : getO L (nmS t) with
    | none =>
      obtain ⟨p1, p2, p3, p4, p5⟩ := put_none h0 h1 hg c0 c1
      refine (sput_new D L c0 c1 k (nmS t) t W hW.sk (nm_le t) hg hk hl).mono ?_
      rintro e w' ⟨rfl, q1, q2⟩
      refine ⟨by rw [p1, p2], ?_⟩
      rw [p3, p4, p5]
      exact ⟨hW.ks q2 q1, q2⟩
    | some u =>
      by_cases hu : u = t
      · subst hu
        obtain ⟨p1, p2, p3, p4, p5⟩ := put_same h0 h1 hg c0 c1
        refine (sput_same D L c0 c1 k (nmS u) u W hW.sk (nm_le u) hg).mono ?_
        rintro e w' ⟨rfl, q1, q2⟩
        refine ⟨by rw [p1, p2], ?_⟩
        rw [p3, p4, p5]
        exact ⟨(hW.ks q2 q1).le (by omega), q2⟩
      · obtain ⟨p1, p2, p3, p4, p5⟩ := put_clash h0 h1 hg hu c0 c1
        refine (sput_clash D L c0 c1 k (nmS t) t W hW.sk (nm_le t) u hg (by
          cases q : (u.toList == t.toList) with
          | false => rfl
          | true => exact absurd (toListEq (by simpa using q)) hu)).mono ?_
        rintro e w' ⟨rfl, q1, q2⟩
        refine ⟨by rw [p1, p2], ?_⟩
        rw [p3, p4, p5]
        exact ⟨(hW.ks q2 q1).le (by omega), q2⟩
  clear hv h0 h1 hk hl
  go_enter Tryd.func46, Tryd.ntmps46
  go_wp2_with fail
  refine HM.out.mono ?_
  rintro e w' ⟨rfl, rfl⟩
  go_wp2_with fail
  rw [← HV.out]
  refine HU.out.mono ?_
  rintro e w2 ⟨rfl, hb2⟩
  have HS2 := Lib.hid ((HS.out.below HB0.out).below hb2)
  have HK2 := Lib.hid (Ks.of_below (HB0.out.trans (hb2.mono HB0.out.size)) HS.out.sk.lt)
  clear hb2 HU
  go_wp2_with fail
  refine (HC.out w2 HS2.out).mono ?_
  rintro e w3 hr
  have HR := Lib.hid hr.2
  obtain ⟨rfl, -⟩ := hr
  go_wp2_with fail
  go_ret2
  exact ⟨rfl, HR.out.1, HK2.out.trans HR.out.2⟩
end Go.Proofs.YtagenkofoacajaaDoor

namespace Go.Proofs.YtagenkofoacajaaDoor
open Go.RowKit Vi

theorem cmT_size {k : Int} {P : List ByteArray} {g t : ByteArray} (h : cmok k P g t = true) : (cmT k P g t).size ≤ 200 ∧ (cmT k P g t).size ≠ 0 := by
  have K := cmok_of h
  have z0 := pnC_size k
  have z1 := pnC_size (P.length : Int)
  have z2 := ptC_size t
  have z3 := catB_size K.p
  have z4 := K.g
  have z5 := K.t
  have z6 := K.n
  unfold cmT hdC
  simp only [ByteArray.size_append]
  have e : (⟨#[67]⟩ : ByteArray).size = 1 := rfl
  omega
theorem cm_inj {k k' : Int} {P P' : List ByteArray} {g g' t t' : ByteArray} (h : cmok k P g t = true) (h' : cmok k' P' g' t' = true) (e : cmT k P g t = cmT k' P' g' t') : k = k' ∧ P = P' ∧ g = g' ∧ t = t' := by
  have x := (gs_is h).2
  rw [e] at x
  obtain ⟨a, b, c, d, _⟩ := gs_fun x (gs_is h').2
  exact ⟨a, b, c, d⟩
theorem get_oneC (t : ByteArray) : getO [(nmS t, t)] (nmS t) = some t := by unfold getO; simp [List.find?]
section
variable {k : Int} {A : Option Addr} {n c : Nat} {P : List ByteArray} {g t : ByteArray} {w w0 : World} {m D : Nat}
set_option maxRecDepth 100000 in
set_option maxHeartbeats 4000000 in
theorem cstore_no (h : RdX stC 1 w A n P) (hn : n ≤ 100000) (hc : n ≤ c) (hok : cmok k P g t = false) :
    Calls Tryd.prog 21 #[.pointer (some ⟨D, 0, none⟩), .agg #[.int .i64 k, .slice A n c, .string g, .string t]] w fun e w' => e = .returned (.tuple #[.string ⟨#[]⟩, .int .i64 2]) ∧ Below w.heap.size w w' := by
  have HF := Lib.hid (blk_new w (.cells #[.int .i64 k, .slice A n c, .string g, .string t] 41 (0, 0)))
  have HB := Lib.hid ((Below.refl w.heap.size w).alloc (Nat.le_refl _) (.cells #[.int .i64 k, .slice A n c, .string g, .string t] 41 (0, 0)))
  have H := Lib.hid (h.below HB.out)
  obtain ⟨v, hv⟩ : ∃ v, v = w.alloc (.cells #[.int .i64 k, .slice A n c, .string g, .string t] 41 (0, 0)) := ⟨_, rfl⟩
  have HV := Lib.hid hv
  rw [← hv] at HF HB H
  have HP := cput_any (k := k) (g := g) (t := t) H.out hn hc
  unfold cmV at HP
  rw [hok, if_neg (by simp)] at HP
  clear h hv hok
  go_enter Tryd.func21, Tryd.ntmps21
  go_upto_region 1 with (fail)
  rw [← HV.out]
  clear HV
  have y0 : v.cell? ⟨w.heap.size, 0, none⟩ = some (.int .i64 k) := (cell_of_row _ _ 0 _ _ _ HF.out).trans rfl
  have y1 : v.cell? ⟨w.heap.size, 1, none⟩ = some (.slice A n c) := (cell_of_row _ _ 1 _ _ _ HF.out).trans rfl
  have y2 : v.cell? ⟨w.heap.size, 2, none⟩ = some (.string g) := (cell_of_row _ _ 2 _ _ _ HF.out).trans rfl
  have y3 : v.cell? ⟨w.heap.size, 3, none⟩ = some (.string t) := (cell_of_row _ _ 3 _ _ _ HF.out).trans rfl
  go_wp2_with fail
  clear y0 y1 y2 y3
  refine HP.mono ?_
  rintro e w1 ⟨rfl, hb⟩
  have HB := Lib.hid (HB.out.trans (hb.mono HB.out.size))
  clear hb
  go_wp2_with fail
  go_ret2
  exact ⟨rfl, HB.out⟩
set_option maxRecDepth 100000 in
set_option maxHeartbeats 4000000 in
theorem cstore_yes (hs : SW m w0 D [] ⟨#[]⟩ ⟨#[]⟩ 0 w) (hT : HTab w0) (hm : w0.heap.size ≤ m) (h : RdX stC 1 w A n P) (hn : n ≤ 100000) (hc : n ≤ c) (hok : cmok k P g t = true) :
    Calls Tryd.prog 21 #[.pointer (some ⟨D, 0, none⟩), .agg #[.int .i64 k, .slice A n c, .string g, .string t]] w fun e w' => e = .returned (.tuple #[.string (nmS (cmT k P g t)), .int .i64 0]) ∧ SW m w0 D [(nmS (cmT k P g t), cmT k P g t)] ⟨#[]⟩ ⟨#[]⟩ 1 w' := by
  have HF := Lib.hid (blk_new w (.cells #[.int .i64 k, .slice A n c, .string g, .string t] 41 (0, 0)))
  have hb0 : Below w.heap.size w (w.alloc (.cells #[.int .i64 k, .slice A n c, .string g, .string t] 41 (0, 0))) := (Below.refl w.heap.size w).alloc (Nat.le_refl _) (.cells #[.int .i64 k, .slice A n c, .string g, .string t] 41 (0, 0))
  have H := Lib.hid (h.below hb0)
  have HS := Lib.hid (hs.below hb0)
  obtain ⟨v, hv⟩ : ∃ v, v = w.alloc (.cells #[.int .i64 k, .slice A n c, .string g, .string t] 41 (0, 0)) := ⟨_, rfl⟩
  have HV := Lib.hid hv
  rw [← hv] at HF H HS
  have HP := cput_any (k := k) (g := g) (t := t) H.out hn hc
  unfold cmV at HP
  rw [if_pos hok] at HP
  have hz := cmT_size hok
  have P1 := Lib.hid (put_none (L := []) (t := cmT k P g t) hz.2 (by omega) rfl ⟨#[]⟩ ⟨#[]⟩)
  generalize cmT k P g t = T at HP P1 hz ⊢
  have HT := Lib.hid hT
  clear h hv hok hb0 hs hT hz
  go_enter Tryd.func21, Tryd.ntmps21
  go_upto_region 1 with (fail)
  rw [← HV.out]
  clear HV
  have y0 : v.cell? ⟨w.heap.size, 0, none⟩ = some (.int .i64 k) := (cell_of_row _ _ 0 _ _ _ HF.out).trans rfl
  have y1 : v.cell? ⟨w.heap.size, 1, none⟩ = some (.slice A n c) := (cell_of_row _ _ 1 _ _ _ HF.out).trans rfl
  have y2 : v.cell? ⟨w.heap.size, 2, none⟩ = some (.string g) := (cell_of_row _ _ 2 _ _ _ HF.out).trans rfl
  have y3 : v.cell? ⟨w.heap.size, 3, none⟩ = some (.string t) := (cell_of_row _ _ 3 _ _ _ HF.out).trans rfl
  go_wp2_with fail
  clear y0 y1 y2 y3
  refine HP.mono ?_
  rintro e w1 ⟨rfl, hb⟩
  have HS := Lib.hid (HS.out.below hb)
  clear hb
  go_wp2_with fail
  refine (sputT_any _ _ D _ _ _ 0 _ w1 HS.out HT.out hm (by decide) (by decide)).mono ?_
  rintro e w2 ⟨rfl, h2, -⟩
  rw [P1.out.1, P1.out.2.1]
  rw [P1.out.2.2.1, P1.out.2.2.2.1, P1.out.2.2.2.2] at h2
  have H2 := Lib.hid h2
  clear h2 P1
  go_wp2_with fail
  go_ret2
  exact ⟨rfl, H2.out⟩
set_option linter.unusedSimpArgs false in
set_option maxRecDepth 100000 in
set_option maxHeartbeats 4000000 in
theorem cload_any {L : List Ob} {c0 c1 : ByteArray} {z : Nat} (s T : ByteArray) (h : SK D L c0 c1 z w) (hs : s.size ≤ maxLen) (hT : (getO L s).getD ⟨#[]⟩ = T) (hz : T.size ≤ 1000000) :
    Calls Tryd.prog 25 #[.pointer (some ⟨D, 0, none⟩), .string s] w (TkP (.int .i64 0) (.int .i64 13) T w) := by
  have HF := Lib.hid (blk_new w (.cells #[.int .i64 0, .slice none 0 0, .string ⟨#[]⟩, .string ⟨#[]⟩] 41 (0, 0)))
  have hb0 : Below w.heap.size w (w.alloc (.cells #[.int .i64 0, .slice none 0 0, .string ⟨#[]⟩, .string ⟨#[]⟩] 41 (0, 0))) := (Below.refl w.heap.size w).alloc (Nat.le_refl _) (.cells #[.int .i64 0, .slice none 0 0, .string ⟨#[]⟩, .string ⟨#[]⟩] 41 (0, 0))
  have HB := Lib.hid hb0
  have HG := Lib.hid (sget_any D L c0 c1 z s _ (h.kept hb0) hs)
  rw [hT] at HG
  generalize (getO L s).isSome = ii at HG
  have HTK := Lib.hid (fun W : World => ctake_any T W hz)
  obtain ⟨v, hv⟩ : ∃ v, v = w.alloc (.cells #[.int .i64 0, .slice none 0 0, .string ⟨#[]⟩, .string ⟨#[]⟩] 41 (0, 0)) := ⟨_, rfl⟩
  have HV := Lib.hid hv
  rw [← hv] at HF HB HG
  clear h hv hs hT hz hb0
  go_enter Tryd.func25, Tryd.ntmps25
  go_upto_region 1 with (fail)
  rw [← HV.out]
  clear HV
  go_wp2_with fail
  refine HG.out.mono ?_
  rintro e w1 ⟨rfl, hb⟩
  have HF := Lib.hid (blk_below HF.out hb)
  have HB := Lib.hid (HB.out.trans (hb.mono HB.out.size))
  clear hb HG
  go_wp2_with fail
  refine (HTK.out w1).mono ?_
  rintro e w2 (⟨k, P, g, t, A, n, c, hok, hTT, rfl, hrd, hnc, hAr, hb⟩ | ⟨hno, rfl, hb⟩)
  · have hAw : ∀ b o, A = some ⟨b, o, none⟩ → w.heap.size < b := fun b o e => by have h1 := hAr b o e; have h2 := HB.out.size; omega
    have hnr : ∀ b o, A = some ⟨b, o, none⟩ → b ≠ w.heap.size := fun b o e => by have h1 := hAw b o e; omega
    clear hAr
    have HF := Lib.hid (blk_alloc (blk_below HF.out hb) (.cells #[.int .i64 k, .slice A n c, .string g, .string t] 41 (0, 0)))
    have HB := Lib.hid ((HB.out.trans (hb.mono HB.out.size)).alloc (HB.out.trans (hb.mono HB.out.size)).size (.cells #[.int .i64 k, .slice A n c, .string g, .string t] 41 (0, 0)))
    have H4 := Lib.hid (blk_new w2 (.cells #[.int .i64 k, .slice A n c, .string g, .string t] 41 (0, 0)))
    have HRD := Lib.hid (hrd.below ((Below.refl _ _).alloc (Nat.le_refl _) (.cells #[.int .i64 k, .slice A n c, .string g, .string t] 41 (0, 0))))
    have HTT := Lib.hid hTT
    clear hb hrd hTT
    go_upto_region 3 with (fail)
    generalize w2.alloc (.cells #[.int .i64 k, .slice A n c, .string g, .string t] 41 (0, 0)) = w3 at *
    generalize w2.heap.size = b8 at *
    have y0 : w3.cell? ⟨b8, 0, none⟩ = some (.int .i64 k) := (cell_of_row _ _ 0 _ _ _ H4.out).trans rfl
    have y1 : w3.cell? ⟨b8, 1, none⟩ = some (.slice A n c) := (cell_of_row _ _ 1 _ _ _ H4.out).trans rfl
    have y2 : w3.cell? ⟨b8, 2, none⟩ = some (.string g) := (cell_of_row _ _ 2 _ _ _ H4.out).trans rfl
    have y3 : w3.cell? ⟨b8, 3, none⟩ = some (.string t) := (cell_of_row _ _ 3 _ _ _ H4.out).trans rfl
    go_wp2_with (first
      | refine wpList_store_rowY rfl 41 (.tmp 4) (.tmp 24) rfl w.heap.size #[.int .i64 k, .slice A n c, .string g, .string t] rfl rfl 41 _ HF.out (info_cmC _ _ _ _) rfl (one_cmC _ _ _ _ _ _) w.heap.size w HB.out (Nat.le_refl _) ?_)
    intro W8 hbk hoth hbel hsz8
    have HRD := Lib.hid (show RdX stC 1 W8 A n P from HRD.out.othR hoth.out hsz8.out hnr)
    go_wp2_with fail
    refine bodyPost_ret (results_ctY rfl _ _ w.heap.size _ rfl (run_loadVar_row _ w.heap.size 41 41 _ (0, 0) _ hbk.out Tryd.underlying41 rfl (info_cmC _ _ _ _))) rfl ?_
    exact .inl ⟨k, P, g, t, A, n, c, hok, HTT.out, rfl, HRD.out, hnc, hAw, hbel.out⟩
  · have HF := Lib.hid (blk_alloc (blk_below HF.out hb) (.cells #[.int .i64 0, .slice none 0 0, .string ⟨#[]⟩, .string ⟨#[]⟩] 41 (0, 0)))
    have HB := Lib.hid ((HB.out.trans (hb.mono HB.out.size)).alloc (HB.out.trans (hb.mono HB.out.size)).size (.cells #[.int .i64 0, .slice none 0 0, .string ⟨#[]⟩, .string ⟨#[]⟩] 41 (0, 0)))
    have HN := Lib.hid hno
    clear hb hno
    go_upto_region 3 with (fail)
    generalize w2.alloc (.cells #[.int .i64 0, .slice none 0 0, .string ⟨#[]⟩, .string ⟨#[]⟩] 41 (0, 0)) = w3 at *
    go_wp2_with (first
      | refine wpList_store_rowY rfl 41 (.tmp 4) (.tmp 23) rfl w.heap.size #[.int .i64 0, .slice none 0 0, .string ⟨#[]⟩, .string ⟨#[]⟩] rfl rfl 41 _ HF.out (info_cmC _ _ _ _) rfl (one_cmC _ _ _ _ _ _) w.heap.size w HB.out (Nat.le_refl _) ?_)
    intro W8 hbk hoth hbel hsz8
    go_wp2_with fail
    refine bodyPost_ret (results_ctY rfl _ _ w.heap.size _ rfl (run_loadVar_row _ w.heap.size 41 41 _ (0, 0) _ hbk.out Tryd.underlying41 rfl (info_cmC _ _ _ _))) rfl ?_
    exact .inr ⟨HN.out, rfl, hbel.out⟩
end
theorem no_L0 : ∀ (k : Int) (P : List ByteArray) (g t : ByteArray), cmok k P g t = true → (⟨#[76, 0]⟩ : ByteArray) ≠ cmT k P g t := by
  intro k P g t h e
  obtain ⟨m, rfl⟩ := Int.eq_ofNat_of_zero_le (show 0 ≤ k by have := (cmok_of h).k1; omega)
  have y := cmT_list m P g t
  rw [← e] at y
  have z : (76 : UInt8) = 67 := by have q := congrArg List.head? y; simp at q
  exact absurd z (by decide)
set_option maxRecDepth 100000 in
set_option maxHeartbeats 4000000 in
theorem awake35_any (w : World) (hT : HTab w) : Calls Tryd.prog 17 #[] w fun e w' => e = .returned (.bool true) ∧ Below w.heap.size w w' := by
  have HT := Lib.hid hT
  clear hT
  obtain ⟨T, hT⟩ : ∃ T : ByteArray, T = ⟨#[76, 0]⟩ := ⟨_, rfl⟩
  have hz : T.size = 2 := by rw [hT]; rfl
  have P1 := Lib.hid (put_none (L := []) (t := T) (by omega) (by omega) rfl ⟨#[]⟩ ⟨#[]⟩)
  have HNO := Lib.hid no_L0
  rw [← hT] at HNO
  have HTT := Lib.hid hT.symm
  have hne : nmS T ≠ ⟨#[]⟩ := fun e => by have y := nm_size T; rw [e] at y; cases y
  have HGO := Lib.hid (get_oneC T)
  have HNS := Lib.hid (nm_le T)
  go_enter Tryd.func17, Tryd.ntmps17
  go_wp2_with fail
  refine (snew_any w).mono ?_
  rintro e w1 hr
  obtain ⟨D, rfl, h1⟩ := NewS.sw (Below.refl _ w) hr
  have H1 := Lib.hid h1
  clear h1 hr hT
  go_wp2_with fail
  rw [HTT.out]
  refine (sputT_any _ _ D _ _ _ 0 _ w1 H1.out HT.out (Nat.le_refl _) (by decide) (by decide)).mono ?_
  rintro e w2 ⟨rfl, h2, -⟩
  rw [P1.out.1, P1.out.2.1]
  rw [P1.out.2.2.1, P1.out.2.2.2.1, P1.out.2.2.2.2] at h2
  have H2 := Lib.hid (show SW _ _ D [(nmS T, T)] _ _ _ w2 from h2)
  clear h2 H1 P1
  generalize nmS T = N at *
  have s1 : (N == (⟨#[]⟩ : ByteArray)) = false := ba_neC hne
  have s2 : (N.toList == []) = false := by have y := ba_neLC hne; simpa using y
  have s3 : N.toList.isEmpty = false := by cases q : N.toList with
    | nil => rw [q] at s2; cases s2
    | cons _ _ => rfl
  clear hne
  go_wp2_with fail
  refine (cload_any N T H2.out.sk HNS.out (by rw [HGO.out]; rfl) (by omega)).mono ?_
  rintro e w3 (⟨k, P, g, t, A, n, c, hok, hTT, rfl, hrd, hnc, hAr, hb⟩ | ⟨hno, rfl, hb⟩)
  · exact absurd hTT (HNO.out k P g t hok)
  · have HB := Lib.hid (H2.out.bel.trans (hb.mono H2.out.sz))
    have HB2 := Lib.hid (HB.out.alloc HB.out.size (.cells #[.int .i64 0, .slice none 0 0, .string ⟨#[]⟩, .string ⟨#[]⟩] 41 (0, 0)))
    clear hb
    go_wp2_with fail
    go_ret
    exact ⟨rfl, HB2.out⟩
end Go.Proofs.YtagenkofoacajaaDoor

namespace Go.Proofs.YtagenkofoacajaaDoor
open Go.RowKit Vi

set_option linter.unusedSimpArgs false in
set_option maxRecDepth 100000 in
set_option maxHeartbeats 8000000 in
theorem commitputs_any (k : Int) (A : Option Addr) (n c : Nat) (P : List ByteArray) (g t : ByteArray) (w : World) (h : RdX stC 1 w A n P) (hc : n ≤ c) (hz : ∀ s ∈ P, s.size ≤ maxLen) (hT : HTab w) :
    Calls Tryd.prog 4 #[.agg #[.int .i64 k, .slice A n c, .string g, .string t]] w fun e w' => e = .returned (.bool true) ∧ Below w.heap.size w w' := by
  have HF := Lib.hid (blk_new w (.cells #[.int .i64 k, .slice A n c, .string g, .string t] 41 (0, 0)))
  have HB0 := Lib.hid ((Below.refl w.heap.size w).alloc (Nat.le_refl _) (.cells #[.int .i64 k, .slice A n c, .string g, .string t] 41 (0, 0)))
  have H := Lib.hid (h.below HB0.out)
  have HZ := Lib.hid hz
  have HT := Lib.hid (hT.later HB0.out)
  have LL := Lib.hid h.1
  obtain ⟨v, hv⟩ : ∃ v, v = w.alloc (.cells #[.int .i64 k, .slice A n c, .string g, .string t] 41 (0, 0)) := ⟨_, rfl⟩
  have HVV := Lib.hid hv
  rw [← hv] at HF HB0 H HT
  have HV := Lib.hid (Below.refl v.heap.size v)
  clear h hv hz hT
  go_enter Tryd.func4, Tryd.ntmps4
  go_upto_region 1 with (fail)
  rw [← HVV.out]
  clear HVV
  have y0 : v.cell? ⟨w.heap.size, 0, none⟩ = some (.int .i64 k) := (cell_of_row _ _ 0 _ _ _ (blk_below HF.out HV.out)).trans rfl
  have y1 : v.cell? ⟨w.heap.size, 1, none⟩ = some (.slice A n c) := (cell_of_row _ _ 1 _ _ _ (blk_below HF.out HV.out)).trans rfl
  have y2 : v.cell? ⟨w.heap.size, 2, none⟩ = some (.string g) := (cell_of_row _ _ 2 _ _ _ (blk_below HF.out HV.out)).trans rfl
  have y3 : v.cell? ⟨w.heap.size, 3, none⟩ = some (.string t) := (cell_of_row _ _ 3 _ _ _ (blk_below HF.out HV.out)).trans rfl
  go_wp2_with fail
  clear y0 y1 y2 y3
  refine (few35_any k A n c P g t v H.out HZ.out).mono ?_
  rintro e w1 ⟨b, rfl, hfew, hb⟩
  have HV := Lib.hid (HV.out.trans (hb.mono HV.out.size))
  clear hb
  cases b with
  | false =>
    go_wp2_with fail
    refine (awake35_any _ (HT.out.later HV.out)).mono ?_
    rintro e wz ⟨rfl, hb⟩
    have HV := Lib.hid (HV.out.trans (hb.mono HV.out.size))
    have HB := Lib.hid (HB0.out.trans (HV.out.mono HB0.out.size))
    clear hb
    go_wp2_with fail
    go_ret
    exact ⟨rfl, HB.out⟩
  | true =>
    have hn5 : n ≤ 5 := (hfew rfl).1
    clear hfew
    have hn : n ≤ 100000 := by omega
    have HP := Lib.hid (fun (W : World) (q : RdX stC 1 W A n P) => cput_any (k := k) (g := g) (t := t) q hn hc)
    have HIS := Lib.hid (fun (W : World) (q : RdX stC 1 W A n P) => ris_any k A n c P g t W q hn)
    have HCK := Lib.hid (fun (W : World) (q : RdX stC 1 W A n P) => ccheck_any k A n c P g t W q hn)
    have HRP := Lib.hid (fun (W : World) (q : RdX stC 1 W A n P) => crput_any (k := k) (g := g) (t := t) (c := c) q hn)
    unfold cmV at HP
    unfold chkC at HCK
    cases hok : cmok k P g t with
    | false =>
      rw [hok, if_neg (by simp)] at HP HRP HCK
      rw [hok] at HIS
      have HST := Lib.hid (fun (W : World) (D : Nat) (r : RdX stC 1 W A n P) => cstore_no (k := k) (g := g) (t := t) (D := D) r hn hc hok)
      have y0 : w1.cell? ⟨w.heap.size, 0, none⟩ = some (.int .i64 k) := (cell_of_row _ _ 0 _ _ _ (blk_below HF.out HV.out)).trans rfl
      have y1 : w1.cell? ⟨w.heap.size, 1, none⟩ = some (.slice A n c) := (cell_of_row _ _ 1 _ _ _ (blk_below HF.out HV.out)).trans rfl
      have y2 : w1.cell? ⟨w.heap.size, 2, none⟩ = some (.string g) := (cell_of_row _ _ 2 _ _ _ (blk_below HF.out HV.out)).trans rfl
      have y3 : w1.cell? ⟨w.heap.size, 3, none⟩ = some (.string t) := (cell_of_row _ _ 3 _ _ _ (blk_below HF.out HV.out)).trans rfl
      go_wp2_with fail
      clear y0 y1 y2 y3
      refine (HP.out _ (H.out.below HV.out)).mono ?_
      rintro e w2 ⟨rfl, hb⟩
      have HV := Lib.hid (HV.out.trans (hb.mono HV.out.size))
      clear hb
      have y0 : w2.cell? ⟨w.heap.size, 0, none⟩ = some (.int .i64 k) := (cell_of_row _ _ 0 _ _ _ (blk_below HF.out HV.out)).trans rfl
      have y1 : w2.cell? ⟨w.heap.size, 1, none⟩ = some (.slice A n c) := (cell_of_row _ _ 1 _ _ _ (blk_below HF.out HV.out)).trans rfl
      have y2 : w2.cell? ⟨w.heap.size, 2, none⟩ = some (.string g) := (cell_of_row _ _ 2 _ _ _ (blk_below HF.out HV.out)).trans rfl
      have y3 : w2.cell? ⟨w.heap.size, 3, none⟩ = some (.string t) := (cell_of_row _ _ 3 _ _ _ (blk_below HF.out HV.out)).trans rfl
      go_wp2_with fail
      clear y0 y1 y2 y3
      refine (HIS.out _ (H.out.below HV.out)).mono ?_
      rintro e w3 ⟨rfl, hb⟩
      have HV := Lib.hid (HV.out.trans (hb.mono HV.out.size))
      clear hb
      go_wp2_with fail
      refine (snew_any _).mono ?_
      rintro e w4 hr
      obtain ⟨D, rfl, h1⟩ := NewS.sw HV.out hr
      have HS := Lib.hid h1
      have HV := Lib.hid h1.bel
      clear h1 hr
      have y0 : w4.cell? ⟨w.heap.size, 0, none⟩ = some (.int .i64 k) := (cell_of_row _ _ 0 _ _ _ (blk_below HF.out HV.out)).trans rfl
      have y1 : w4.cell? ⟨w.heap.size, 1, none⟩ = some (.slice A n c) := (cell_of_row _ _ 1 _ _ _ (blk_below HF.out HV.out)).trans rfl
      have y2 : w4.cell? ⟨w.heap.size, 2, none⟩ = some (.string g) := (cell_of_row _ _ 2 _ _ _ (blk_below HF.out HV.out)).trans rfl
      have y3 : w4.cell? ⟨w.heap.size, 3, none⟩ = some (.string t) := (cell_of_row _ _ 3 _ _ _ (blk_below HF.out HV.out)).trans rfl
      go_wp2_with fail
      clear y0 y1 y2 y3
      refine (HST.out w4 D (H.out.below HV.out)).mono ?_
      rintro e w5 ⟨rfl, hb⟩
      have HS5 := Lib.hid (HS.out.below hb)
      clear HS HST
      have HV := Lib.hid (HV.out.trans (hb.mono HV.out.size))
      clear hb
      have y0 : w5.cell? ⟨w.heap.size, 0, none⟩ = some (.int .i64 k) := (cell_of_row _ _ 0 _ _ _ (blk_below HF.out HV.out)).trans rfl
      have y1 : w5.cell? ⟨w.heap.size, 1, none⟩ = some (.slice A n c) := (cell_of_row _ _ 1 _ _ _ (blk_below HF.out HV.out)).trans rfl
      have y2 : w5.cell? ⟨w.heap.size, 2, none⟩ = some (.string g) := (cell_of_row _ _ 2 _ _ _ (blk_below HF.out HV.out)).trans rfl
      have y3 : w5.cell? ⟨w.heap.size, 3, none⟩ = some (.string t) := (cell_of_row _ _ 3 _ _ _ (blk_below HF.out HV.out)).trans rfl
      go_wp2_with fail
      clear y0 y1 y2 y3
      refine (HRP.out _ (H.out.below HV.out)).mono ?_
      rintro e w6 ⟨rfl, hb⟩
      have HS6 := Lib.hid (HS5.out.below hb)
      clear HS5
      have HV := Lib.hid (HV.out.trans (hb.mono HV.out.size))
      clear hb
      have y0 : w6.cell? ⟨w.heap.size, 0, none⟩ = some (.int .i64 k) := (cell_of_row _ _ 0 _ _ _ (blk_below HF.out HV.out)).trans rfl
      have y1 : w6.cell? ⟨w.heap.size, 1, none⟩ = some (.slice A n c) := (cell_of_row _ _ 1 _ _ _ (blk_below HF.out HV.out)).trans rfl
      have y2 : w6.cell? ⟨w.heap.size, 2, none⟩ = some (.string g) := (cell_of_row _ _ 2 _ _ _ (blk_below HF.out HV.out)).trans rfl
      have y3 : w6.cell? ⟨w.heap.size, 3, none⟩ = some (.string t) := (cell_of_row _ _ 3 _ _ _ (blk_below HF.out HV.out)).trans rfl
      go_wp2_with fail
      clear y0 y1 y2 y3
      refine (HCK.out _ (H.out.below HV.out)).mono ?_
      rintro e w7 ⟨rfl, hb⟩
      have HS7 := Lib.hid (HS6.out.below hb)
      clear HS6
      have HV := Lib.hid (HV.out.trans (hb.mono HV.out.size))
      clear hb
      go_wp2_with fail
      refine (slen_any D _ _ _ _ w7 HS7.out.sk).mono ?_
      rintro e w' ⟨rfl, rfl⟩
      go_wp2_with fail
      refine (awake35_any _ (HT.out.later HV.out)).mono ?_
      rintro e wz ⟨rfl, hb⟩
      have HV := Lib.hid (HV.out.trans (hb.mono HV.out.size))
      have HB := Lib.hid (HB0.out.trans (HV.out.mono HB0.out.size))
      clear hb
      go_wp2_with fail
      go_ret
      exact ⟨rfl, HB.out⟩
    | true =>
      rw [if_pos hok] at HP HRP HCK
      rw [hok] at HIS
      have hz := cmT_size hok
      have HST := Lib.hid (fun (W : World) (D : Nat) (q : SW v.heap.size v D [] ⟨#[]⟩ ⟨#[]⟩ 0 W) (r : RdX stC 1 W A n P) => cstore_yes (k := k) (g := g) (t := t) q HT.out (Nat.le_refl _) r hn hc hok)
      obtain ⟨T, hTT⟩ : ∃ T, T = cmT k P g t := ⟨_, rfl⟩
      rw [← hTT] at HP HRP HST hz
      have HTT := Lib.hid hTT
      clear hTT
      have s1 : (T == T) = true := by show (T.data == T.data) = true; simp
      have s2 : (T.toList == T.toList) = true := by simp
      have y0 : w1.cell? ⟨w.heap.size, 0, none⟩ = some (.int .i64 k) := (cell_of_row _ _ 0 _ _ _ (blk_below HF.out HV.out)).trans rfl
      have y1 : w1.cell? ⟨w.heap.size, 1, none⟩ = some (.slice A n c) := (cell_of_row _ _ 1 _ _ _ (blk_below HF.out HV.out)).trans rfl
      have y2 : w1.cell? ⟨w.heap.size, 2, none⟩ = some (.string g) := (cell_of_row _ _ 2 _ _ _ (blk_below HF.out HV.out)).trans rfl
      have y3 : w1.cell? ⟨w.heap.size, 3, none⟩ = some (.string t) := (cell_of_row _ _ 3 _ _ _ (blk_below HF.out HV.out)).trans rfl
      go_wp2_with fail
      clear y0 y1 y2 y3
      refine (HP.out _ (H.out.below HV.out)).mono ?_
      rintro e w2 ⟨rfl, hb⟩
      have HV := Lib.hid (HV.out.trans (hb.mono HV.out.size))
      clear hb
      have y0 : w2.cell? ⟨w.heap.size, 0, none⟩ = some (.int .i64 k) := (cell_of_row _ _ 0 _ _ _ (blk_below HF.out HV.out)).trans rfl
      have y1 : w2.cell? ⟨w.heap.size, 1, none⟩ = some (.slice A n c) := (cell_of_row _ _ 1 _ _ _ (blk_below HF.out HV.out)).trans rfl
      have y2 : w2.cell? ⟨w.heap.size, 2, none⟩ = some (.string g) := (cell_of_row _ _ 2 _ _ _ (blk_below HF.out HV.out)).trans rfl
      have y3 : w2.cell? ⟨w.heap.size, 3, none⟩ = some (.string t) := (cell_of_row _ _ 3 _ _ _ (blk_below HF.out HV.out)).trans rfl
      go_wp2_with fail
      clear y0 y1 y2 y3
      refine (HIS.out _ (H.out.below HV.out)).mono ?_
      rintro e w3 ⟨rfl, hb⟩
      have HV := Lib.hid (HV.out.trans (hb.mono HV.out.size))
      clear hb
      go_wp2_with fail
      refine (snew_any _).mono ?_
      rintro e w4 hr
      obtain ⟨D, rfl, h1⟩ := NewS.sw HV.out hr
      have HS := Lib.hid h1
      have HV := Lib.hid h1.bel
      clear h1 hr
      have y0 : w4.cell? ⟨w.heap.size, 0, none⟩ = some (.int .i64 k) := (cell_of_row _ _ 0 _ _ _ (blk_below HF.out HV.out)).trans rfl
      have y1 : w4.cell? ⟨w.heap.size, 1, none⟩ = some (.slice A n c) := (cell_of_row _ _ 1 _ _ _ (blk_below HF.out HV.out)).trans rfl
      have y2 : w4.cell? ⟨w.heap.size, 2, none⟩ = some (.string g) := (cell_of_row _ _ 2 _ _ _ (blk_below HF.out HV.out)).trans rfl
      have y3 : w4.cell? ⟨w.heap.size, 3, none⟩ = some (.string t) := (cell_of_row _ _ 3 _ _ _ (blk_below HF.out HV.out)).trans rfl
      go_wp2_with fail
      clear y0 y1 y2 y3
      refine (HST.out w4 D HS.out (H.out.below HV.out)).mono ?_
      rintro e w5 ⟨rfl, h5⟩
      have HS5 := Lib.hid h5
      have HV := Lib.hid h5.bel
      clear h5 HS HST
      obtain ⟨N, hN⟩ : ∃ N, N = nmS T := ⟨_, rfl⟩
      have HN := Lib.hid hN
      rw [← hN]
      clear hN
      have y0 : w5.cell? ⟨w.heap.size, 0, none⟩ = some (.int .i64 k) := (cell_of_row _ _ 0 _ _ _ (blk_below HF.out HV.out)).trans rfl
      have y1 : w5.cell? ⟨w.heap.size, 1, none⟩ = some (.slice A n c) := (cell_of_row _ _ 1 _ _ _ (blk_below HF.out HV.out)).trans rfl
      have y2 : w5.cell? ⟨w.heap.size, 2, none⟩ = some (.string g) := (cell_of_row _ _ 2 _ _ _ (blk_below HF.out HV.out)).trans rfl
      have y3 : w5.cell? ⟨w.heap.size, 3, none⟩ = some (.string t) := (cell_of_row _ _ 3 _ _ _ (blk_below HF.out HV.out)).trans rfl
      go_wp2_with fail
      clear y0 y1 y2 y3
      refine (HRP.out _ (H.out.below HV.out)).mono ?_
      rintro e w6 ⟨rfl, hb⟩
      have HS6 := Lib.hid (HS5.out.below hb)
      clear HS5
      have HV := Lib.hid (HV.out.trans (hb.mono HV.out.size))
      clear hb
      have y0 : w6.cell? ⟨w.heap.size, 0, none⟩ = some (.int .i64 k) := (cell_of_row _ _ 0 _ _ _ (blk_below HF.out HV.out)).trans rfl
      have y1 : w6.cell? ⟨w.heap.size, 1, none⟩ = some (.slice A n c) := (cell_of_row _ _ 1 _ _ _ (blk_below HF.out HV.out)).trans rfl
      have y2 : w6.cell? ⟨w.heap.size, 2, none⟩ = some (.string g) := (cell_of_row _ _ 2 _ _ _ (blk_below HF.out HV.out)).trans rfl
      have y3 : w6.cell? ⟨w.heap.size, 3, none⟩ = some (.string t) := (cell_of_row _ _ 3 _ _ _ (blk_below HF.out HV.out)).trans rfl
      go_wp2_with fail
      clear y0 y1 y2 y3
      refine (HCK.out _ (H.out.below HV.out)).mono ?_
      rintro e w7 ⟨rfl, hb⟩
      have HS7 := Lib.hid (HS6.out.below hb)
      clear HS6
      have HV := Lib.hid (HV.out.trans (hb.mono HV.out.size))
      clear hb
      go_wp2_with fail
      refine (cload_any N T HS7.out.sk (by rw [HN.out]; exact nm_le T) (by rw [HN.out, get_oneC]; rfl) (by omega)).mono ?_
      rintro e w8 (⟨k2, P2, g2, t2, A2, n2, c2, hok2, hT2, rfl, hrd, hnc, _, hb⟩ | ⟨hno, rfl, hb⟩)
      rotate_left
      · exact absurd HTT.out (hno k P g t hok)
      obtain ⟨rfl, rfl, rfl, rfl⟩ := cm_inj hok hok2 (HTT.out.symm.trans hT2)
      obtain rfl : n = n2 := by rw [← hrd.1, LL.out]
      clear hT2 hok2
      have hb9 : Below w8.heap.size w8 (w8.alloc (.cells #[.int .i64 k, .slice A2 n c2, .string g, .string t] 41 (0, 0))) := (Below.refl _ _).alloc (Nat.le_refl _) _
      have H9 := Lib.hid (blk_new w8 (.cells #[.int .i64 k, .slice A2 n c2, .string g, .string t] 41 (0, 0)))
      have HRD := Lib.hid (hrd.below hb9)
      have HS9 := Lib.hid ((HS7.out.below hb).below hb9)
      have HV := Lib.hid ((HV.out.trans (hb.mono HV.out.size)).trans (hb9.mono (HV.out.trans (hb.mono HV.out.size)).size))
      clear hb hb9 hrd HS7
      go_upto_region 14 with (fail)
      generalize w8.alloc (.cells #[.int .i64 k, .slice A2 n c2, .string g, .string t] 41 (0, 0)) = w9 at *
      generalize w8.heap.size = b9 at *
      have y0 : w9.cell? ⟨w.heap.size, 0, none⟩ = some (.int .i64 k) := (cell_of_row _ _ 0 _ _ _ (blk_below HF.out HV.out)).trans rfl
      have y1 : w9.cell? ⟨w.heap.size, 1, none⟩ = some (.slice A n c) := (cell_of_row _ _ 1 _ _ _ (blk_below HF.out HV.out)).trans rfl
      have y2 : w9.cell? ⟨w.heap.size, 2, none⟩ = some (.string g) := (cell_of_row _ _ 2 _ _ _ (blk_below HF.out HV.out)).trans rfl
      have y3 : w9.cell? ⟨w.heap.size, 3, none⟩ = some (.string t) := (cell_of_row _ _ 3 _ _ _ (blk_below HF.out HV.out)).trans rfl
      have x0 : w9.cell? ⟨b9, 0, none⟩ = some (.int .i64 k) := (cell_of_row _ _ 0 _ _ _ H9.out).trans rfl
      have x1 : w9.cell? ⟨b9, 1, none⟩ = some (.slice A2 n c2) := (cell_of_row _ _ 1 _ _ _ H9.out).trans rfl
      have x2 : w9.cell? ⟨b9, 2, none⟩ = some (.string g) := (cell_of_row _ _ 2 _ _ _ H9.out).trans rfl
      have x3 : w9.cell? ⟨b9, 3, none⟩ = some (.string t) := (cell_of_row _ _ 3 _ _ _ H9.out).trans rfl
      go_wp2_with fail
      clear y0 y1 y2 y3
      clear x0 x1 x2 x3
      refine (csame_yes k A2 n c2 A c P g t w9 HRD.out (H.out.below HV.out) hn).mono ?_
      rintro e w10 ⟨rfl, hb⟩
      have HS10 := Lib.hid (HS9.out.below hb)
      clear HS9 HRD
      have HV := Lib.hid (HV.out.trans (hb.mono HV.out.size))
      clear hb
      go_wp2_with fail
      refine (slen_any D _ _ _ _ w10 HS10.out.sk).mono ?_
      rintro e w' ⟨rfl, rfl⟩
      go_wp2_with fail
      refine (awake35_any _ (HT.out.later HV.out)).mono ?_
      rintro e wz ⟨rfl, hb⟩
      have HV := Lib.hid (HV.out.trans (hb.mono HV.out.size))
      have HB := Lib.hid (HB0.out.trans (HV.out.mono HB0.out.size))
      clear hb
      go_wp2_with fail
      go_ret
      exact ⟨rfl, HB.out⟩
end Go.Proofs.YtagenkofoacajaaDoor
