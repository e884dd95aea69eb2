/- Several texts of one family, merged for a claim. Conditions as in its parts. -/
import Derived.Test.YtpjpegmjcgkonaaDoorG1
import Derived.Test.YtpjpegmjcgkonaaDoorHd
import Derived.Test.YtpjpegmjcgkonaaDoorG0
import Derived.Test.YtpjpegmjcgkonaaDoorZb
import Derived.Lib.AppendZerosOnto
import Derived.Test.YtpjpegmjcgkonaaDoorHn
import Derived.Test.YtpjpegmjcgkonaaDoorG2
import Derived.Deep.RegionLaw
import Derived.Test.YtpjpegmjcgkonaaDoorSm
import Derived.Sort.KeysCollected
namespace Go.Proofs.YtpjpegmjcgkonaaDoor
open Go.RowKit Vi Hm

/-- a text's name -/
def nmS (t : ByteArray) : ByteArray := ⟨(Hm.sum t.data.toList).toArray⟩
theorem sum_lenS (l : List UInt8) : (Hm.sum l).length = 32 := by
  unfold Hm.sum
  refine bytesOf_len _ ?_
  have : ∀ (q : Nat) (h : List Nat) (b : List UInt8), h.length = 8 → (blocks q h b).length = 8 := by
    intro q
    induction q with
    | zero => intro h b hl; exact hl
    | succ q ih => intro h b hl; exact ih _ _ (by unfold mix; rw [List.length_zipWith, hl]; rfl)
  exact this _ _ _ rfl
theorem nm_size (t : ByteArray) : (nmS t).size = 32 := by
  show (Hm.sum t.data.toList).toArray.size = 32
  rw [List.size_toArray, sum_lenS]
theorem nm_le (t : ByteArray) : (nmS t).size ≤ maxLen := by rw [nm_size]; decide
theorem cat_oneS (s : ByteArray) : catS [s] = s.data.toList := by simp [catS]
/-- the sum of one text, laid in a row of its own -/
theorem sum1_any (s : ByteArray) (W : World) (M : Nat) (hT : HTab W) (hS : StrS W (some ⟨M, 0, none⟩) 1 [s]) (hn : s.size ≤ 100000000) :
    Calls Tryd.prog 22 #[.slice (some ⟨M, 0, none⟩) 1 1] W fun e w' => e = .returned (.string (nmS s)) ∧ Below W.heap.size W w' := by
  have h := sumP_any (some ⟨M, 0, none⟩) 1 1 [s] W hT hS (by rw [cat_oneS]; simp; omega) (by omega)
  rw [cat_oneS] at h
  exact h
/-- the shelf is there, its blocks lie from n on, what lay below n of w0 lies as it lay -/
structure SW (n : Nat) (w0 : World) (D : Nat) (L : List Ob) (c0 c1 : ByteArray) (k : Nat) (w : World) : Prop where
  sk : SK D L c0 c1 k w
  far : ∀ b, InS D w b → n ≤ b
  bel : Below n w0 w
  sz : n ≤ w.heap.size
section
variable {n : Nat} {w0 : World} {D : Nat} {L L' : List Ob} {c0 c1 c0' c1' : ByteArray} {k k' : Nat} {w w' : World}
theorem SW.ks (h : SW n w0 D L c0 c1 k w) (q : Ks D w w') (h' : SK D L' c0' c1' k' w') : SW n w0 D L' c0' c1' k' w' :=
  ⟨h', fun b z => by
    rcases Nat.lt_or_ge b w.heap.size with hb | hb
    · exact h.far b (q.ind b hb z)
    · exact Nat.le_trans h.sz hb, ⟨q.os.trans h.bel.os, q.tape.trans h.bel.tape, q.output.trans h.bel.output, Nat.le_trans h.bel.size q.size, fun b hb => (q.block b (Nat.lt_of_lt_of_le hb h.sz) (fun z => by have := h.far b z; omega)).trans (h.bel.block b hb)⟩, Nat.le_trans h.sz q.size⟩
theorem SW.below (h : SW n w0 D L c0 c1 k w) (hb : Below w.heap.size w w') : SW n w0 D L c0 c1 k w' := h.ks (Ks.of_below hb h.sk.lt) (h.sk.kept hb)
theorem MapI.le {B : Nat} {f : ByteArray → Option Int} (h : MapI w B k f) (hk : k ≤ k') : MapI w B k' f := by
  obtain ⟨m, E, h1, h2, h3⟩ := h
  exact ⟨m, E, h1, Nat.le_trans h2 hk, h3⟩
theorem SK.le (h : SK D L c0 c1 k w) (hk : k ≤ k') : SK D L c0 c1 k' w := by
  obtain ⟨oa, on, oc, B, h1, h2, h3⟩ := h
  exact ⟨oa, on, oc, B, h1, h2, h3.le hk⟩
theorem SW.le (h : SW n w0 D L c0 c1 k w) (hk : k ≤ k') : SW n w0 D L c0 c1 k' w := ⟨h.sk.le hk, h.far, h.bel, h.sz⟩
end
theorem NewS.sw {w0 w w' : World} {e : Ending} (hb : Below w0.heap.size w0 w) (h : NewS w e w') : ∃ D, e = .returned (.pointer (some ⟨D, 0, none⟩)) ∧ SW w0.heap.size w0 D [] ⟨#[]⟩ ⟨#[]⟩ 0 w' := by
  obtain ⟨D, h1, h2, h3, h4⟩ := h
  exact ⟨D, h1, h2, fun b q => Nat.le_trans hb.size (h3 b q), hb.trans (h4.mono hb.size), Nat.le_trans hb.size h4.size⟩
/-- what Put answers, and what there is then -/
def putE (L : List Ob) (t : ByteArray) : Int := if t.size = 0 then 2 else if 65536 < t.size then 5 else match getO L (nmS t) with
  | none => 0
  | some u => if u = t then 0 else 15
def putN (L : List Ob) (t : ByteArray) : ByteArray := if putE L t = 0 then nmS t else ⟨#[]⟩
def putL (L : List Ob) (t : ByteArray) : List Ob := if putE L t = 0 ∧ getO L (nmS t) = none then L ++ [(nmS t, t)] else L
def putA (L : List Ob) (c0 c1 t : ByteArray) : ByteArray := if putE L t = 15 then mtA c0 c1 ((getO L (nmS t)).getD ⟨#[]⟩) else c0
def putB (L : List Ob) (c0 c1 t : ByteArray) : ByteArray := if putE L t = 15 then mtB c0 c1 t else c1
theorem put_none {L : List Ob} {t : ByteArray} (h0 : t.size ≠ 0) (h1 : ¬ 65536 < t.size) (hg : getO L (nmS t) = none) (c0 c1 : ByteArray) : putE L t = 0 ∧ putN L t = nmS t ∧ putL L t = L ++ [(nmS t, t)] ∧ putA L c0 c1 t = c0 ∧ putB L c0 c1 t = c1 := by
  have e : putE L t = 0 := by unfold putE; rw [if_neg h0, if_neg h1, hg]
  refine ⟨e, ?_, ?_, ?_, ?_⟩
  · unfold putN; rw [if_pos e]
  · unfold putL; rw [if_pos ⟨e, hg⟩]
  · unfold putA; rw [e, if_neg (by decide)]
  · unfold putB; rw [e, if_neg (by decide)]
theorem put_same {L : List Ob} {t : ByteArray} (h0 : t.size ≠ 0) (h1 : ¬ 65536 < t.size) (hg : getO L (nmS t) = some t) (c0 c1 : ByteArray) : putE L t = 0 ∧ putN L t = nmS t ∧ putL L t = L ∧ putA L c0 c1 t = c0 ∧ putB L c0 c1 t = c1 := by
  have e : putE L t = 0 := by unfold putE; rw [if_neg h0, if_neg h1, hg]; simp
  refine ⟨e, ?_, ?_, ?_, ?_⟩
  · unfold putN; rw [if_pos e]
  · unfold putL; rw [if_neg (by rw [hg]; simp)]
  · unfold putA; rw [e, if_neg (by decide)]
  · unfold putB; rw [e, if_neg (by decide)]
theorem put_clash {L : List Ob} {t u : ByteArray} (h0 : t.size ≠ 0) (h1 : ¬ 65536 < t.size) (hg : getO L (nmS t) = some u) (hu : u ≠ t) (c0 c1 : ByteArray) : putE L t = 15 ∧ putN L t = ⟨#[]⟩ ∧ putL L t = L ∧ putA L c0 c1 t = mtA c0 c1 u ∧ putB L c0 c1 t = mtB c0 c1 t := by
  have e : putE L t = 15 := by unfold putE; rw [if_neg h0, if_neg h1, hg]; simp [hu]
  refine ⟨e, ?_, ?_, ?_, ?_⟩
  · unfold putN; rw [e, if_neg (by decide)]
  · unfold putL; rw [if_neg (by rw [hg]; simp)]
  · unfold putA; rw [if_pos e, hg]; rfl
  · unfold putB; rw [if_pos e]
theorem put_bad {L : List Ob} {t : ByteArray} {x : Int} (h : t.size = 0 ∧ x = 2 ∨ t.size ≠ 0 ∧ 65536 < t.size ∧ x = 5) (c0 c1 : ByteArray) : putE L t = x ∧ putN L t = ⟨#[]⟩ ∧ putL L t = L ∧ putA L c0 c1 t = c0 ∧ putB L c0 c1 t = c1 := by
  have e : putE L t = x := by
    unfold putE
    rcases h with ⟨h, rfl⟩ | ⟨h, h', rfl⟩
    · rw [if_pos h]
    · rw [if_neg h, if_pos h']
  have hx : x = 2 ∨ x = 5 := by rcases h with ⟨_, rfl⟩ | ⟨_, _, rfl⟩ <;> simp
  refine ⟨e, ?_, ?_, ?_, ?_⟩
  · unfold putN; rw [e, if_neg (by rcases hx with rfl | rfl <;> decide)]
  · unfold putL; rw [e, if_neg (by rcases hx with rfl | rfl <;> simp)]
  · unfold putA; rw [e, if_neg (by rcases hx with rfl | rfl <;> decide)]
  · unfold putB; rw [e, if_neg (by rcases hx with rfl | rfl <;> decide)]
def RetPut (n : Nat) (w0 : World) (D : Nat) (L : List Ob) (c0 c1 : ByteArray) (k : Nat) (t : ByteArray) (w : World) (e : Ending) (w' : World) : Prop :=
  e = .returned (.tuple #[.string (putN L t), .int .i64 (putE L t)]) ∧ SW n w0 D (putL L t) (putA L c0 c1 t) (putB L c0 c1 t) (k + 1) w' ∧ Ks D w w'
theorem toListEq {a b : ByteArray} (h : a.toList = b.toList) : a = b := by
  rw [Lib.toList_data, Lib.toList_data] at h
  exact ByteArray.ext (Array.ext' h)
set_option maxRecDepth 100000 in
set_option maxHeartbeats 2000000 in
theorem sputT_any (n : Nat) (w0 : World) (D : Nat) (L : List Ob) (c0 c1 : ByteArray) (k : Nat) (t : ByteArray) (w : World) (h : SW n w0 D L c0 c1 k w) (hT : HTab w0) (hn : w0.heap.size ≤ n) (hk : k < 1000000) (hl : L.length < 1000000) :
    Calls Tryd.prog 20 #[.pointer (some ⟨D, 0, none⟩), .string t] w (RetPut n w0 D L c0 c1 k t w) := by
  have HS := Lib.hid h
  have HM := Lib.hid (show Calls Tryd.prog 45 #[.pointer (some ⟨D, 0, none⟩)] w fun e w' => e = .returned (.bool true) ∧ w = w' from by
    obtain ⟨oa, on, oc, B, h1, h2, h3⟩ := h.sk
    exact smade_any D oa on oc (some B) c0 c1 w h1)
  have HT := Lib.hid (hT.later (h.bel.mono hn))
  clear h hT hn
  by_cases h0 : t.size = 0
  · have HP := Lib.hid (put_bad (L := L) (x := 2) (.inl ⟨h0, rfl⟩) c0 c1)
    obtain rfl : t = ⟨#[]⟩ := ByteArray.ext (Array.eq_empty_of_size_eq_zero h0)
    clear h0
    go_enter Tryd.func20, Tryd.ntmps20
    go_wp2_with fail
    refine HM.out.mono ?_
    rintro e w' ⟨rfl, rfl⟩
    go_wp2_with fail
    go_ret2
    obtain ⟨p1, p2, p3, p4, p5⟩ := HP.out
    refine ⟨by simp only [p1, p2]; rfl, ?_⟩
    rw [p3, p4, p5]
    exact ⟨HS.out.le (by omega), Ks.refl _ _⟩
  have he : (t.toList == []) = false := by
    rw [Lib.toList_data]
    cases q : t.data.toList with
    | nil => exact absurd (by show t.data.size = 0; rw [← Array.length_toList, q]; rfl) h0
    | cons _ _ => rfl
  have he2 : t.toList.isEmpty = false := by
    rw [Lib.toList_data]
    cases q : t.data.toList with
    | nil => exact absurd (by show t.data.size = 0; rw [← Array.length_toList, q]; rfl) h0
    | cons _ _ => rfl
  by_cases h1 : 65536 < t.size
  · have HP := Lib.hid (put_bad (L := L) (x := 5) (.inr ⟨h0, h1, rfl⟩) c0 c1)
    have d1 : decide ((65536 : Int) < (t.size : Int)) = true := decide_eq_true (by omega)
    have d2 : decide (65536 < t.size) = true := decide_eq_true h1
    clear h0 h1
    go_enter Tryd.func20, Tryd.ntmps20
    go_wp2_with fail
    refine HM.out.mono ?_
    rintro e w' ⟨rfl, rfl⟩
    go_wp2_with fail
    go_ret2
    obtain ⟨p1, p2, p3, p4, p5⟩ := HP.out
    refine ⟨by simp only [p1, p2]; rfl, ?_⟩
    rw [p3, p4, p5]
    exact ⟨HS.out.le (by omega), Ks.refl _ _⟩
  have d1 : decide ((65536 : Int) < (t.size : Int)) = false := decide_eq_false (by omega)
  have d2 : decide (65536 < t.size) = false := decide_eq_false h1
  have HZ := Lib.hid (show t.size ≤ 100000000 by omega)
  have HKL := Lib.hid (And.intro hk hl)
  obtain ⟨v, hv⟩ : ∃ v, v = w.alloc (.cells #[.string t] 9) := ⟨_, rfl⟩
  have HV := Lib.hid hv
  have HB0 := Lib.hid (show Below w.heap.size w v by rw [hv]; exact (Below.refl _ w).alloc (Nat.le_refl _) _)
  have HS0 := Lib.hid (show StrS v (some ⟨w.heap.size, 0, none⟩) 1 [t] by rw [hv]; exact str_one w _)
  have HU := Lib.hid (sum1_any t v w.heap.size (HT.out.later HB0.out) HS0.out HZ.out)
  have HC : Hid (∀ W : World, SW n w0 D L c0 c1 k W → Calls Tryd.prog 46 #[.pointer (some ⟨D, 0, none⟩), .agg #[.string (nmS t), .string t]] W (RetPut n w0 D L c0 c1 k t W)) := by
    refine Lib.hid fun W hW => ?_
    obtain ⟨hk, hl⟩ := HKL.out
    cases hg : getO L (nmS t) with
    | none =>
      obtain ⟨p1, p2, p3, p4, p5⟩ := put_none h0 h1 hg c0 c1
      refine (sput_new D L c0 c1 k (nmS t) t W hW.sk (nm_le t) hg hk hl).mono ?_
      rintro e w' ⟨rfl, q1, q2⟩
      refine ⟨by rw [p1, p2], ?_⟩
      rw [p3, p4, p5]
      exact ⟨hW.ks q2 q1, q2⟩
    | some u =>
      by_cases hu : u = t
      · subst hu
        obtain ⟨p1, p2, p3, p4, p5⟩ := put_same h0 h1 hg c0 c1
        refine (sput_same D L c0 c1 k (nmS u) u W hW.sk (nm_le u) hg).mono ?_
        rintro e w' ⟨rfl, q1, q2⟩
        refine ⟨by rw [p1, p2], ?_⟩
        rw [p3, p4, p5]
        exact ⟨(hW.ks q2 q1).le (by omega), q2⟩
      · obtain ⟨p1, p2, p3, p4, p5⟩ := put_clash h0 h1 hg hu c0 c1
        refine (sput_clash D L c0 c1 k (nmS t) t W hW.sk (nm_le t) u hg (by
          cases q : (u.toList == t.toList) with
          | false => rfl
          | true => exact absurd (toListEq (by simpa using q)) hu)).mono ?_
        rintro e w' ⟨rfl, q1, q2⟩
        refine ⟨by rw [p1, p2], ?_⟩
        rw [p3, p4, p5]
        exact ⟨(hW.ks q2 q1).le (by omega), q2⟩
  clear hv h0 h1 hk hl
  go_enter Tryd.func20, Tryd.ntmps20
  go_wp2_with fail
  refine HM.out.mono ?_
  rintro e w' ⟨rfl, rfl⟩
  go_wp2_with fail
  rw [← HV.out]
  refine HU.out.mono ?_
  rintro e w2 ⟨rfl, hb2⟩
  have HS2 := Lib.hid ((HS.out.below HB0.out).below hb2)
  have HK2 := Lib.hid (Ks.of_below (HB0.out.trans (hb2.mono HB0.out.size)) HS.out.sk.lt)
  clear hb2 HU
  go_wp2_with fail
  refine (HC.out w2 HS2.out).mono ?_
  rintro e w3 hr
  have HR := Lib.hid hr.2
  obtain ⟨rfl, -⟩ := hr
  go_wp2_with fail
  go_ret2
  exact ⟨rfl, HR.out.1, HK2.out.trans HR.out.2⟩
end Go.Proofs.YtpjpegmjcgkonaaDoor

namespace Go.Proofs.YtpjpegmjcgkonaaDoor
open Go.RowKit

theorem flat_inv {α : Type} {f : α → List Value} {s : Nat} (hf : ∀ x, (f x).length = s) (hs0 : 0 < s) (l : List α) (j : Nat) (u : Value) (h : (flat f l)[j]? = some u) : ∃ (k r : Nat) (x : α), j = k * s + r ∧ l[k]? = some x ∧ (f x)[r]? = some u := by
  have hj := (List.getElem?_eq_some_iff.1 h).1
  rw [flat_len hf] at hj
  have hk : j / s < l.length := (Nat.div_lt_iff_lt_mul hs0).2 hj
  have hr : j % s < s := Nat.mod_lt _ hs0
  have hx : l[j / s]? = some l[j / s] := List.getElem?_eq_getElem hk
  have hu : (f l[j / s])[j % s]? = some ((f l[j / s])[j % s]'(by rw [hf]; exact hr)) := List.getElem?_eq_getElem _
  have e : j / s * s + j % s = j := by rw [Nat.mul_comm]; exact Nat.div_add_mod j s
  have hg := flat_get hf l (j / s) (j % s) _ _ hx hu
  rw [e, h] at hg
  exact ⟨j / s, j % s, _, e.symm, hx, by rw [hu]; exact hg.symm⟩
theorem run_appNil {α : Type} {f : α → List Value} {s : Nat} {w : World} {t e : TypeId} {z : Value} {bytes : Nat} (hu : Tryd.prog.underlying t = some (.slice e)) (hinfo : (Tryd.prog.info? e).map (fun i => (i.zero, i.size, i.bytes)) = some (some z, s, bytes))
    (ty : TypeId) (B : Nat) (v : Value) (l : List α) (hown : OwX f s e w B v l) (c : Nat) :
    (Builtin.append_ #[t, t] ty #[v, .slice none 0 c]).run Tryd.prog w = .ok v w := by
  obtain ⟨i0, hi, _, hz1, _⟩ := info_parts hinfo
  have hu' := run_underlying (P := Tryd.prog) hu
  rcases hown.2 with ⟨rfl, h0⟩ | ⟨g, cap, cur, rfl, _, _, hnc, _⟩
  · simp [Builtin.append_, hu', sizeOf, typeInfo, hi, Builtin.lenOf, Builtin.firstCells]
  · simp [Builtin.append_, hu', sizeOf, typeInfo, hi, Builtin.lenOf, Builtin.firstCells, hnc, storeCells]
theorem run_appXs {α : Type} {f : α → List Value} {s : Nat} {w : World} {t e : TypeId} {z : Value} {bytes : Nat} (hu : Tryd.prog.underlying t = some (.slice e)) (hinfo : (Tryd.prog.info? e).map (fun i => (i.zero, i.size, i.bytes)) = some (some z, s, bytes)) (hz : z.cells.size = s) (hs0 : 0 < s) (hby : bytes ≤ 100)
    (hf : ∀ x, (f x).length = s) (h1 : ∀ x, ∀ u ∈ f x, u.oneCell' = true) (ty : TypeId) (B : Nat) (v : Value) (l : List α) (hown : OwX f s e w B v l)
    (A : Option Addr) (m c : Nat) (ys : List α) (hr : RdX f s w A m ys) (hm : l.length + m ≤ 1000000) (hbase : B ≤ w.heap.size) :
    ∃ v' w', (Builtin.append_ #[t, t] ty #[v, .slice A m c]).run Tryd.prog w = .ok v' w' ∧ OwX f s e w' B v' (l ++ ys) ∧ w.grownBy w' v.ownBlock := by
  have hl := hr.1
  rcases A with _ | ad
  · have h0 : m = 0 := by
      rcases Nat.eq_zero_or_pos m with h0 | h0
      · exact h0
      · obtain ⟨b, off, e, _⟩ := hr.2 h0
        cases e
    subst h0
    have e0 : ys = [] := List.length_eq_zero_iff.1 hl
    subst e0
    exact ⟨v, w, run_appNil hu hinfo ty B v l hown c, by rw [List.append_nil]; exact hown, World.grownBy.refl w _⟩
  · obtain ⟨i0, hi, hz0, hz1, hz2⟩ := info_parts hinfo
    have hmul : (l.length + m) * bytes ≤ 1000000 * 100 := Nat.mul_le_mul hm hby
    have hcells : ∀ j u, (flat f ys)[j]? = some u → w.cell? (ad.add j) = some u := by
      intro j u hj
      obtain ⟨k, r, x, rfl, hx, hu2⟩ := flat_inv hf hs0 ys j u hj
      have hk := (List.getElem?_eq_some_iff.1 hx).1
      obtain ⟨b, off, e1, _, hc⟩ := hr.2 (by omega)
      cases e1
      rw [Addr.add_lit]
      have := hc k x r u hx hu2
      rwa [Nat.add_assoc] at this
    obtain ⟨v', w', hrun, h2, h3, _, _⟩ := run_append_own_at (P := Tryd.prog) w B t ty e i0 z s bytes hu hi hz0 hz1 hz2 hz hs0 v l.length (flat f l) hown ad m c (flat f ys)
      (by rw [flat_len hf, hl]) hcells (fun u hu2 => by
        unfold flat at hu2
        obtain ⟨x, _, hx⟩ := List.mem_flatMap.1 hu2
        exact h1 x u hx) (by unfold maxLen; omega) (by omega) hbase
    refine ⟨v', w', hrun, ?_, h3⟩
    unfold OwX
    rw [List.length_append, flat_app, hl]
    exact h2
theorem wpList_appXs {α : Type} {f : α → List Value} {s : Nat} {ops : Array Oper} {rest : List Oper} {o : Oper} {a : Act} {Q : Exit → Act → World → Prop} {w : World} (hgd : o.guard = none) (sl xo : Operand) (t e : TypeId) (z : Value) (bytes : Nat)
    (ho : o.op = .call { callee := .builtin .append, args := #[sl, xo], argTypes := #[t, t] })
    (hu : Tryd.prog.underlying t = some (.slice e)) (hinfo : (Tryd.prog.info? e).map (fun i => (i.zero, i.size, i.bytes)) = some (some z, s, bytes)) (hz : z.cells.size = s) (hs0 : 0 < s) (hby : bytes ≤ 100)
    (hf : ∀ x, (f x).length = s) (h1 : ∀ x, ∀ u ∈ f x, u.oneCell' = true)
    (B : Nat) (w0 : World) (hb : Below B w0 w) (hB : B ≤ w.heap.size) (v : Value) (l : List α) (hs : a.eval sl = v) (hown : OwX f s e w B v l)
    (A : Option Addr) (m c : Nat) (ys : List α) (hx : a.eval xo = .slice A m c) (hr : RdX f s w A m ys) (hm : l.length + m ≤ 1000000)
    (h : ∀ v' w', Hid (OwX f s e w' B v' (l ++ ys)) → Hid (Below B w0 w') → Hid (B ≤ w'.heap.size) → Hid (w.grownBy w' v.ownBlock) → wpList Tryd.prog ops Q rest (a.put o.dst v') w') : wpList Tryd.prog ops Q (o :: rest) a w := by
  refine wpList_plain hgd fun K hK => ?_
  obtain ⟨v', w', hrun, h2, h3⟩ := run_appXs hu hinfo hz hs0 hby hf h1 o.type B v l hown A m c ys hr hm hB
  unfold Oper.wp execOp
  simp only [ho, resolve, invoke, builtin, Sem.run_bind, Sem.run_pure, Result.andThen_ok, List.map_toArray, List.map_cons, List.map_nil, hs, hx, hrun]
  exact hK _ _ (h v' w' h2 (hb.grown h3 hB (fun k hk => (World.ownsRow.lt hown k hk).1)) (Nat.le_trans hB h3.size) h3)
theorem step_appXs {α : Type} {f : α → List Value} {s : Nat} {ops : Array Oper} {o : Oper} {a : Act} {K : Act → World → Prop} {Q : Exit → Act → World → Prop} {E : Prop} {w : World} (hgd : o.guard = none) (sl xo : Operand) (t e : TypeId) (z : Value) (bytes : Nat)
    (ho : o.op = .call { callee := .builtin .append, args := #[sl, xo], argTypes := #[t, t] })
    (hu : Tryd.prog.underlying t = some (.slice e)) (hinfo : (Tryd.prog.info? e).map (fun i => (i.zero, i.size, i.bytes)) = some (some z, s, bytes)) (hz : z.cells.size = s) (hs0 : 0 < s) (hby : bytes ≤ 100)
    (hf : ∀ x, (f x).length = s) (h1 : ∀ x, ∀ u ∈ f x, u.oneCell' = true)
    (B : Nat) (w0 : World) (hb : Below B w0 w) (hB : B ≤ w.heap.size) (v : Value) (l : List α) (hs : a.eval sl = v) (hown : OwX f s e w B v l)
    (A : Option Addr) (m c : Nat) (ys : List α) (hx : a.eval xo = .slice A m c) (hr : RdX f s w A m ys) (hm : l.length + m ≤ 1000000)
    (h : ∀ v' w', Hid (OwX f s e w' B v' (l ++ ys)) → Hid (Below B w0 w') → Hid (B ≤ w'.heap.size) → Hid (w.grownBy w' v.ownBlock) → K (a.put o.dst v') w') :
    if Region.wanted o (yielded ops a.tmps) = true then Oper.wp Tryd.prog o a w K Q else E := by
  have hw : Region.wanted o (yielded ops a.tmps) = true := by simp [Region.wanted, hgd]
  rw [if_pos hw]
  obtain ⟨v', w', hrun, h2, h3⟩ := run_appXs hu hinfo hz hs0 hby hf h1 o.type B v l hown A m c ys hr hm hB
  unfold Oper.wp execOp
  simp only [ho, resolve, invoke, builtin, Sem.run_bind, Sem.run_pure, Result.andThen_ok, List.map_toArray, List.map_cons, List.map_nil, hs, hx, hrun]
  exact h v' w' h2 (hb.grown h3 hB (fun k hk => (World.ownsRow.lt hown k hk).1)) (Nat.le_trans hB h3.size) h3
theorem OwX.zero {α : Type} {f : α → List Value} {s : Nat} {T : TypeId} {W : World} {p B c : Nat} {cs : Array Value} (h : W.heap[p]? = some (.cells cs T (0, 0))) (hB : B ≤ p) (hc : c ≤ maxLen) (hz : cs.size = c * s) : OwX f s T W B (.slice (some ⟨p, 0, none⟩) 0 c) [] :=
  ⟨by simp [flat], .inr ⟨p, c, cs, rfl, hB, h, Nat.zero_le _, hc, hz, by simp [flat]⟩⟩
theorem RdX.take {α : Type} {f : α → List Value} {s : Nat} {w : World} {A : Option Addr} {n : Nat} {l : List α} (h : RdX f s w A n l) (k : Nat) (hk : k ≤ n) : RdX f s w A k (l.take k) :=
  ⟨by rw [List.length_take, h.1]; omega, fun hp => by
    obtain ⟨b, off, e, hlt, hc⟩ := h.2 (by omega)
    refine ⟨b, off, e, hlt, fun i x j u hx hu => hc i x j u ?_ hu⟩
    rw [List.getElem?_take] at hx
    split at hx
    · exact hx
    · cases hx⟩
/-- the address at which a slice that is cut at its front begins -/
def cutX (s : Nat) (A : Option Addr) (c k : Nat) : Option Addr := if c = k then A else A.map (·.add (k * s))
theorem RdX.drop {α : Type} {f : α → List Value} {s : Nat} {w : World} {A : Option Addr} {n c : Nat} {l : List α} (h : RdX f s w A n l) (k : Nat) (hk : k ≤ n) (hc : n ≤ c) : RdX f s w (cutX s A c k) (n - k) (l.drop k) :=
  ⟨by rw [List.length_drop, h.1], fun hp => by
    obtain ⟨b, off, e, hlt, hcl⟩ := h.2 (by omega)
    subst e
    refine ⟨b, off + k * s, ?_, hlt, fun i x j u hx hu => ?_⟩
    · unfold cutX
      rw [if_neg (by omega)]
      show some (Addr.add ⟨b, off, none⟩ (k * s)) = _
      rw [Addr.add_lit]
    · rw [List.getElem?_drop] at hx
      have := hcl (k + i) x j u hx hu
      rw [Nat.add_mul, ← Nat.add_assoc off] at this
      exact this⟩
end Go.Proofs.YtpjpegmjcgkonaaDoor

namespace Go.Proofs.YtpjpegmjcgkonaaDoor
open Go.RowKit Vi

/-- a document's shelf as a value -/
abbrev rsv (ta : Option Addr) (tn tc : Nat) (sa : Option Addr) (sn sc : Nat) (a b : ByteArray) : Value := .agg #[.slice ta tn tc, .slice sa sn sc, .string a, .string b]
/-- its rows read as the objects' texts and names; their blocks are such as P says -/
structure ShR (P : Nat → Prop) (L : List Ob) (ta : Option Addr) (tn tc : Nat) (sa : Option Addr) (sn sc : Nat) (w : World) : Prop where
  t : RdX stC 1 w ta tn (L.map (·.2))
  s : RdX stC 1 w sa sn (L.map (·.1))
  tl : tn ≤ tc
  tm : tc ≤ maxLen
  sl : sn ≤ sc
  sm : sc ≤ maxLen
  pt : ∀ b o, ta = some ⟨b, o, none⟩ → 0 < tn → P b
  ps : ∀ b o, sa = some ⟨b, o, none⟩ → 0 < sn → P b
section
variable {P P' : Nat → Prop} {L : List Ob} {ta : Option Addr} {tn tc : Nat} {sa : Option Addr} {sn sc : Nat} {w w' : World}
theorem ShR.below (h : ShR P L ta tn tc sa sn sc w) (hb : Below w.heap.size w w') : ShR P L ta tn tc sa sn sc w' := ⟨h.t.below hb, h.s.below hb, h.tl, h.tm, h.sl, h.sm, h.pt, h.ps⟩
theorem ShR.tn_eq (h : ShR P L ta tn tc sa sn sc w) : tn = L.length := by have := h.t.1; rw [List.length_map] at this; exact this.symm
theorem ShR.sn_eq (h : ShR P L ta tn tc sa sn sc w) : sn = L.length := by have := h.s.1; rw [List.length_map] at this; exact this.symm
theorem RdX.blocks {α : Type} {f : α → List Value} {s n : Nat} {A : Option Addr} {l : List α} (h : RdX f s w A n l) (hb : ∀ b o, A = some ⟨b, o, none⟩ → 0 < n → w'.heap[b]? = w.heap[b]?) (hs : w.heap.size ≤ w'.heap.size) : RdX f s w' A n l := by
  refine ⟨h.1, fun hp => ?_⟩
  obtain ⟨b, off, rfl, h1, hc⟩ := h.2 hp
  exact ⟨b, off, rfl, Nat.lt_of_lt_of_le h1 hs, fun i x j u hx hu => by
    have q := hc i x j u hx hu
    rw [World.cell?_of_block (hb b off rfl hp)]
    exact q⟩
end
theorem ShR.nil (P : Nat → Prop) (w : World) : ShR P [] none 0 0 none 0 0 w := ⟨RdX.nil, RdX.nil, Nat.le_refl _, Nat.zero_le _, Nat.le_refl _, Nat.zero_le _, fun _ _ e => (by cases e), fun _ _ e => (by cases e)⟩
/-- each object is named by its text's sum; no text is empty or too long -/
def LI (L : List Ob) : Prop := ∀ x ∈ L, x.1 = nmS x.2 ∧ x.2.size ≠ 0 ∧ x.2.size ≤ 65536
/-- no two unlike texts, or such of which the first is none -/
def CI (c0 c1 : ByteArray) : Prop := (c0 = ⟨#[]⟩ ∧ c1 = ⟨#[]⟩) ∨ c0.size ≠ 0
def RetRP (P : Nat → Prop) (L : List Ob) (c0 c1 s : ByteArray) (z : Int) (w : World) (e : Ending) (w' : World) : Prop :=
  ∃ ta tn tc sa sn sc, e = .returned (.tuple #[rsv ta tn tc sa sn sc c0 c1, .string s, .int .i64 z]) ∧ ShR P L ta tn tc sa sn sc w' ∧ Below w.heap.size w w'
theorem results_cttS {fn : Func} {p t u : Tmp} {ty : TypeId} (h : fn.results = #[.cell p ty, .tmp t, .tmp u]) (tmps : Array Value) (w : World) (g : Nat) (cs : Array Value)
    (hp : tmps.getD p undef = .pointer (some ⟨g, 0, none⟩)) (hr : (loadVar ty ⟨g, 0, none⟩).run Tryd.prog w = .ok (.agg cs) w) :
    (results fn tmps).run Tryd.prog w = .ok (.tuple #[.agg cs, tmps.getD t undef, tmps.getD u undef]) w := by
  have hp' : tmps[p]?.getD undef = .pointer (some ⟨g, 0, none⟩) := by simpa using hp
  simp [results, h, hp', asAddr, hr]
theorem info_rs : (Tryd.prog.info? 29).map (·.size) = some 4 := by kernel_rfl
theorem sne_facts {s : ByteArray} (hs : s.size ≠ 0) : (s.toList == []) = false ∧ s.toList.isEmpty = false ∧ (s == (⟨#[]⟩ : ByteArray)) = false ∧ (s != (⟨#[]⟩ : ByteArray)) = true := by
  have q : ∃ a l, s.data.toList = a :: l := by
    cases q : s.data.toList with
    | nil => exact absurd (by show s.data.size = 0; rw [← Array.length_toList, q]; rfl) hs
    | cons a l => exact ⟨a, l, rfl⟩
  obtain ⟨a, l, q⟩ := q
  have h3 : (s == (⟨#[]⟩ : ByteArray)) = false := by
    cases q3 : (s == (⟨#[]⟩ : ByteArray)) with
    | false => rfl
    | true => rw [ba_beq q3] at hs; exact absurd rfl hs
  exact ⟨by rw [Lib.toList_data, q]; rfl, by rw [Lib.toList_data, q]; rfl, h3, by simp [bne, h3]⟩
theorem beq_ne {a b : ByteArray} (h : a ≠ b) : (a == b) = false ∧ (a.toList == b.toList) = false := by
  constructor
  · cases q : (a == b) with
    | false => rfl
    | true => exact absurd (ba_beq q) h
  · cases q : (a.toList == b.toList) with
    | false => rfl
    | true => exact absurd (toListEq (by simpa using q)) h
theorem beq_same (a : ByteArray) : (a == a) = true ∧ (a.toList == a.toList) = true := ⟨by show (a.data == a.data) = true; simp, by simp⟩
theorem met_ofS {a b : ByteArray} (h : a.size ≠ 0) : metO a b = true := by unfold metO; rw [(sne_facts h).2.2.1]; rfl
theorem get_at {L : List Ob} {s : ByteArray} {j : Nat} {x : Ob} (hx : L[j]? = some x) (he : x.1 = s) (hn : ∀ y ∈ L.take j, y.1 ≠ s) : getO L s = some x.2 := by
  obtain ⟨hj, rfl⟩ := List.getElem?_eq_some_iff.1 hx
  unfold getO
  rw [show (L.find? fun x => x.1.toList == s.toList) = some L[j] from by
    rw [List.find?_eq_some_iff_getElem]
    refine ⟨by rw [he]; simp, j, hj, rfl, fun i hi => ?_⟩
    have := hn L[i] (List.mem_take_iff_getElem.2 ⟨i, by omega, rfl⟩)
    rw [(beq_ne this).2]; rfl]
  rfl
theorem get_end {L : List Ob} {s : ByteArray} (hn : ∀ y ∈ L, y.1 ≠ s) : getO L s = none := by
  unfold getO
  rw [Option.map_eq_none_iff, List.find?_eq_none]
  intro x hx
  rw [(beq_ne (hn x hx)).2]
  simp
theorem OwX.kkD {α : Type} {f : α → List Value} {s : Nat} {T : TypeId} {w W : World} {B g : Nat} {v : Value} {l : List α} {cs : Array Value} {T' : TypeId} {fr : Nat × Nat} (h : OwX f s T w B v l) (k : KK [g] w W) (hg : w.heap[g]? = some (.cells cs T' fr)) (hT : T ≠ T') : OwX f s T W B v l := by
  rcases h with ⟨h1, h | ⟨b, cap, cur, h2, h3, h4, h5⟩⟩
  · exact ⟨h1, .inl h⟩
  · exact ⟨h1, .inr ⟨b, cap, cur, h2, h3, k.blk h4 (fun e => by
      have e1 : b = g := by simpa using e
      subst e1
      rw [hg] at h4
      cases h4
      exact hT rfl), h5⟩⟩
theorem OwX.oth {α : Type} {f : α → List Value} {s : Nat} {T : TypeId} {w W : World} {B g : Nat} {v : Value} {l : List α} {cs : Array Value} {T' : TypeId} {fr : Nat × Nat} (h : OwX f s T w B v l) (ho : ∀ k, k ≠ g → W.heap[k]? = w.heap[k]?) (hg : w.heap[g]? = some (.cells cs T' fr)) (hT : T ≠ T') : OwX f s T W B v l := by
  rcases h with ⟨h1, h | ⟨b, cap, cur, h2, h3, h4, h5⟩⟩
  · exact ⟨h1, .inl h⟩
  · exact ⟨h1, .inr ⟨b, cap, cur, h2, h3, (ho b (fun e => by
      subst e
      rw [hg] at h4
      cases h4
      exact hT rfl)).trans h4, h5⟩⟩
theorem OwX.rdL {w : World} {B n c : Nat} {A : Option Addr} {l : List ByteArray} (h : OwX stC 1 9 w B (.slice A n c) l) : RdX stC 1 w A n l ∧ n ≤ c ∧ c ≤ maxLen ∧ ∀ b o, A = some ⟨b, o, none⟩ → B ≤ b := by
  obtain ⟨A', c', e, h1, h2, h3⟩ := h.rd stC_len
  injection e with e1 e2 e3
  subst e1 e2 e3
  refine ⟨h1, h2, h3, fun b o e => ?_⟩
  subst e
  exact (World.ownsRow.lt h _ rfl).1
set_option maxRecDepth 100000 in
set_option maxHeartbeats 4000000 in
theorem rsput_any (P : Nat → Prop) (L : List Ob) (c0 c1 t : ByteArray) (ta : Option Addr) (tn tc : Nat) (sa : Option Addr) (sn sc : Nat) (w : World) (h : ShR P L ta tn tc sa sn sc w) (hL : LI L) (hC : CI c0 c1) (hl : L.length ≤ 100000) (hP : ∀ b, w.heap.size ≤ b → P b) :
    Calls Tryd.prog 42 #[rsv ta tn tc sa sn sc c0 c1, .string t] w (RetRP P (putL L t) (putA L c0 c1 t) (putB L c0 c1 t) (putN L t) (putE L t) w) := by
  obtain rfl := h.tn_eq
  obtain rfl := h.sn_eq
  have HH := Lib.hid h
  have HLI := Lib.hid hL
  have HCI := Lib.hid hC
  have HP := Lib.hid hP
  have HTM := Lib.hid (And.intro h.tm h.sm)
  have HLL := Lib.hid hl
  have htI : (L.length : Int) ≤ 9223372036854775807 := by omega
  clear h hL hC hP
  by_cases h0 : t.size = 0
  · have HPB := Lib.hid (put_bad (L := L) (x := 2) (.inl ⟨h0, rfl⟩) c0 c1)
    obtain rfl : t = ⟨#[]⟩ := ByteArray.ext (Array.eq_empty_of_size_eq_zero h0)
    clear h0
    have HB1 := Lib.hid (Below.refl w.heap.size w)
    have HF2 := Lib.hid (blk_new w (.cells #[.slice ta L.length tc, .slice sa L.length sc, .string c0, .string c1] 29 (0, 0)))
    have HB3 := Lib.hid (HB1.out.alloc HB1.out.size (.cells #[.slice ta L.length tc, .slice sa L.length sc, .string c0, .string c1] 29 (0, 0)))
    clear HB1
    have HF4 := Lib.hid (blk_alloc HF2.out (.cells #[.slice none 0 0, .slice none 0 0, .string ⟨#[]⟩, .string ⟨#[]⟩] 29 (0, 0)))
    clear HF2
    have HF5 : Hid (((w.alloc (.cells #[.slice ta L.length tc, .slice sa L.length sc, .string c0, .string c1] 29 (0, 0))).alloc (.cells #[.slice none 0 0, .slice none 0 0, .string ⟨#[]⟩, .string ⟨#[]⟩] 29 (0, 0))).heap[w.heap.size + 1]? = some (.cells #[.slice none 0 0, .slice none 0 0, .string ⟨#[]⟩, .string ⟨#[]⟩] 29 (0, 0))) := Lib.hid (blk_newN (W := (w.alloc (.cells #[.slice ta L.length tc, .slice sa L.length sc, .string c0, .string c1] 29 (0, 0)))) (o := (.cells #[.slice none 0 0, .slice none 0 0, .string ⟨#[]⟩, .string ⟨#[]⟩] 29 (0, 0))) (by simp))
    have HB6 := Lib.hid (HB3.out.alloc (by have := HB3.out.size; simp at this ⊢ <;> omega) (.cells #[.slice none 0 0, .slice none 0 0, .string ⟨#[]⟩, .string ⟨#[]⟩] 29 (0, 0)))
    clear HB3
    obtain ⟨v, hv⟩ : ∃ v, v = ((w.alloc (.cells #[.slice ta L.length tc, .slice sa L.length sc, .string c0, .string c1] 29 (0, 0))).alloc (.cells #[.slice none 0 0, .slice none 0 0, .string ⟨#[]⟩, .string ⟨#[]⟩] 29 (0, 0))) := ⟨_, rfl⟩
    have HVv := Lib.hid hv
    rw [← hv] at HF4 HF5 HB6
    clear hv
    go_enter Tryd.func42, Tryd.ntmps42
    go_upto_region 1 with (fail)
    rw [← HVv.out]
    go_upto_region 2 with (fail)
    go_wp2_with (first
      | refine wpList_store_rowY rfl 29 (.tmp 4) (.tmp 11) rfl (w.heap.size + 1) #[.slice ta L.length tc, .slice sa L.length sc, .string c0, .string c1] rfl rfl 29 _ HF5.out (info_rs) rfl (by simp [Value.oneCell']) w.heap.size w HB6.out (by omega) ?_
      | refine wpList_load_row rfl 29 (.tmp 2) rfl (w.heap.size) rfl 29 #[.slice ta L.length tc, .slice sa L.length sc, .string c0, .string c1] (0, 0) _ HF4.out Tryd.underlying29 rfl (info_rs) ?_)
    intro w1 hbk hoth hbel _
    have HF7 := Lib.hid (blk_oth HF4.out hoth.out (by omega))
    have HF8 := Lib.hid hbk.out
    have HB9 := Lib.hid hbel.out
    clear hbk hoth hbel HB6 HF4 HF5
    go_wp2_with fail
    refine bodyPost_ret (results_cttS rfl _ _ (w.heap.size + 1) #[.slice ta L.length tc, .slice sa L.length sc, .string c0, .string c1] rfl (run_loadVar_row _ (w.heap.size + 1) 29 29 _ (0, 0) _ HF8.out Tryd.underlying29 rfl (by kernel_rfl))) rfl ?_
    obtain ⟨p1, p2, p3, p4, p5⟩ := HPB.out
    unfold RetRP
    rw [p1, p2, p3, p4, p5]
    exact ⟨ta, L.length, tc, sa, L.length, sc, rfl, HH.out.below HB9.out, HB9.out⟩
  obtain ⟨z1, z2, z3, z4⟩ := sne_facts h0
  by_cases h1 : 65536 < t.size
  · have HPB := Lib.hid (put_bad (L := L) (x := 5) (.inr ⟨h0, h1, rfl⟩) c0 c1)
    have d1 : decide ((65536 : Int) < (t.size : Int)) = true := decide_eq_true (by omega)
    have d2 : decide (65536 < t.size) = true := decide_eq_true h1
    clear h0 h1
    have HB1 := Lib.hid (Below.refl w.heap.size w)
    have HF2 := Lib.hid (blk_new w (.cells #[.slice ta L.length tc, .slice sa L.length sc, .string c0, .string c1] 29 (0, 0)))
    have HB3 := Lib.hid (HB1.out.alloc HB1.out.size (.cells #[.slice ta L.length tc, .slice sa L.length sc, .string c0, .string c1] 29 (0, 0)))
    clear HB1
    have HF4 := Lib.hid (blk_alloc HF2.out (.cells #[.slice none 0 0, .slice none 0 0, .string ⟨#[]⟩, .string ⟨#[]⟩] 29 (0, 0)))
    clear HF2
    have HF5 : Hid (((w.alloc (.cells #[.slice ta L.length tc, .slice sa L.length sc, .string c0, .string c1] 29 (0, 0))).alloc (.cells #[.slice none 0 0, .slice none 0 0, .string ⟨#[]⟩, .string ⟨#[]⟩] 29 (0, 0))).heap[w.heap.size + 1]? = some (.cells #[.slice none 0 0, .slice none 0 0, .string ⟨#[]⟩, .string ⟨#[]⟩] 29 (0, 0))) := Lib.hid (blk_newN (W := (w.alloc (.cells #[.slice ta L.length tc, .slice sa L.length sc, .string c0, .string c1] 29 (0, 0)))) (o := (.cells #[.slice none 0 0, .slice none 0 0, .string ⟨#[]⟩, .string ⟨#[]⟩] 29 (0, 0))) (by simp))
    have HB6 := Lib.hid (HB3.out.alloc (by have := HB3.out.size; simp at this ⊢ <;> omega) (.cells #[.slice none 0 0, .slice none 0 0, .string ⟨#[]⟩, .string ⟨#[]⟩] 29 (0, 0)))
    clear HB3
    obtain ⟨v, hv⟩ : ∃ v, v = ((w.alloc (.cells #[.slice ta L.length tc, .slice sa L.length sc, .string c0, .string c1] 29 (0, 0))).alloc (.cells #[.slice none 0 0, .slice none 0 0, .string ⟨#[]⟩, .string ⟨#[]⟩] 29 (0, 0))) := ⟨_, rfl⟩
    have HVv := Lib.hid hv
    rw [← hv] at HF4 HF5 HB6
    clear hv
    go_enter Tryd.func42, Tryd.ntmps42
    go_upto_region 1 with (fail)
    rw [← HVv.out]
    go_upto_region 4 with (fail)
    go_wp2_with (first
      | refine wpList_store_rowY rfl 29 (.tmp 4) (.tmp 15) rfl (w.heap.size + 1) #[.slice ta L.length tc, .slice sa L.length sc, .string c0, .string c1] rfl rfl 29 _ HF5.out (info_rs) rfl (by simp [Value.oneCell']) w.heap.size w HB6.out (by omega) ?_
      | refine wpList_load_row rfl 29 (.tmp 2) rfl (w.heap.size) rfl 29 #[.slice ta L.length tc, .slice sa L.length sc, .string c0, .string c1] (0, 0) _ HF4.out Tryd.underlying29 rfl (info_rs) ?_)
    intro w1 hbk hoth hbel _
    have HF7 := Lib.hid (blk_oth HF4.out hoth.out (by omega))
    have HF8 := Lib.hid hbk.out
    have HB9 := Lib.hid hbel.out
    clear hbk hoth hbel HB6 HF4 HF5
    go_wp2_with fail
    refine bodyPost_ret (results_cttS rfl _ _ (w.heap.size + 1) #[.slice ta L.length tc, .slice sa L.length sc, .string c0, .string c1] rfl (run_loadVar_row _ (w.heap.size + 1) 29 29 _ (0, 0) _ HF8.out Tryd.underlying29 rfl (by kernel_rfl))) rfl ?_
    obtain ⟨p1, p2, p3, p4, p5⟩ := HPB.out
    unfold RetRP
    rw [p1, p2, p3, p4, p5]
    exact ⟨ta, L.length, tc, sa, L.length, sc, rfl, HH.out.below HB9.out, HB9.out⟩
  have d1 : decide ((65536 : Int) < (t.size : Int)) = false := decide_eq_false (by omega)
  have d2 : decide (65536 < t.size) = false := decide_eq_false h1
  have HU := Lib.hid (fun W : World => show Calls Tryd.prog 41 #[.string t] W fun e w' => e = .returned (.string (nmS t)) ∧ Below W.heap.size W w' from rsum_any t W (by omega))
  have HPN := Lib.hid (fun hg => put_none (L := L) (t := t) h0 h1 hg c0 c1)
  have HPS := Lib.hid (fun hg => put_same (L := L) (t := t) h0 h1 hg c0 c1)
  have HPC := Lib.hid (fun (u : ByteArray) hg hu => put_clash (L := L) (t := t) (u := u) h0 h1 hg hu c0 c1)
  have HT0 := Lib.hid (And.intro h0 h1)
  obtain ⟨N, hN⟩ : ∃ N, N = nmS t := ⟨_, rfl⟩
  have HN := Lib.hid hN
  rw [← hN] at HU HPN HPS HPC
  clear h0 h1 hN
  have HB1 := Lib.hid (Below.refl w.heap.size w)
  have HF2 := Lib.hid (blk_new w (.cells #[.slice ta L.length tc, .slice sa L.length sc, .string c0, .string c1] 29 (0, 0)))
  have HB3 := Lib.hid (HB1.out.alloc HB1.out.size (.cells #[.slice ta L.length tc, .slice sa L.length sc, .string c0, .string c1] 29 (0, 0)))
  clear HB1
  have HF4 := Lib.hid (blk_alloc HF2.out (.cells #[.slice none 0 0, .slice none 0 0, .string ⟨#[]⟩, .string ⟨#[]⟩] 29 (0, 0)))
  clear HF2
  have HF5 : Hid (((w.alloc (.cells #[.slice ta L.length tc, .slice sa L.length sc, .string c0, .string c1] 29 (0, 0))).alloc (.cells #[.slice none 0 0, .slice none 0 0, .string ⟨#[]⟩, .string ⟨#[]⟩] 29 (0, 0))).heap[w.heap.size + 1]? = some (.cells #[.slice none 0 0, .slice none 0 0, .string ⟨#[]⟩, .string ⟨#[]⟩] 29 (0, 0))) := Lib.hid (blk_newN (W := (w.alloc (.cells #[.slice ta L.length tc, .slice sa L.length sc, .string c0, .string c1] 29 (0, 0)))) (o := (.cells #[.slice none 0 0, .slice none 0 0, .string ⟨#[]⟩, .string ⟨#[]⟩] 29 (0, 0))) (by simp))
  have HB6 := Lib.hid (HB3.out.alloc (by have := HB3.out.size; simp at this ⊢ <;> omega) (.cells #[.slice none 0 0, .slice none 0 0, .string ⟨#[]⟩, .string ⟨#[]⟩] 29 (0, 0)))
  clear HB3
  obtain ⟨v, hv⟩ : ∃ v, v = ((w.alloc (.cells #[.slice ta L.length tc, .slice sa L.length sc, .string c0, .string c1] 29 (0, 0))).alloc (.cells #[.slice none 0 0, .slice none 0 0, .string ⟨#[]⟩, .string ⟨#[]⟩] 29 (0, 0))) := ⟨_, rfl⟩
  have HVv := Lib.hid hv
  rw [← hv] at HF4 HF5 HB6
  clear hv
  go_enter Tryd.func42, Tryd.ntmps42
  go_upto_region 1 with (fail)
  rw [← HVv.out]
  go_upto_region 5 with (fail)
  go_wp2_with fail
  refine (HU.out _).mono ?_
  rintro e w1 ⟨rfl, hb1⟩
  have HF7 := Lib.hid (blk_below HF4.out hb1)
  have HF8 := Lib.hid (blk_below HF5.out hb1)
  have HB9 := Lib.hid (HB6.out.trans (hb1.mono HB6.out.size))
  clear hb1 HB6 HF4 HF5
  have hc10 : w1.cell? ⟨w.heap.size, 0, none⟩ = some (.slice ta L.length tc) := by rw [cell_of_row _ _ _ _ _ _ HF7.out]; rfl
  have hc11 : w1.cell? ⟨w.heap.size, 1, none⟩ = some (.slice sa L.length sc) := by rw [cell_of_row _ _ _ _ _ _ HF7.out]; rfl
  have hc12 : w1.cell? ⟨w.heap.size, 2, none⟩ = some (.string c0) := by rw [cell_of_row _ _ _ _ _ _ HF7.out]; rfl
  have hHB := HB9.out.size
  go_upto_region 6 with (fail)
  go_wp2_with fail
  go_loop [8] (fun i => ∃ j : Nat, i = .int .i64 (j : Int) ∧ j ≤ L.length ∧ ∀ y ∈ L.take j, y.1 ≠ N) (fun i => L.length - (intOf i).toNat)
  case atStart => exact ⟨0, rfl, Nat.zero_le _, by simp⟩
  case round =>
    obtain ⟨j, rfl, hj, hne⟩ := hrel
    have HNE := Lib.hid hne
    clear hne
    by_cases hlt : j < L.length
    · skip
      have hd1 : decide ((j : Int) < (L.length : Int)) = true := decide_eq_true (by omega)
      have hd2 : decide (j < L.length) = true := decide_eq_true hlt
      have hi0 : (0 : Int) ≤ (j : Int) := by omega
      have hs1 : IntKind.i64.wrap ((j : Int) + 1) = (j : Int) + 1 := IntWalk.i64_in _ (by omega)
      obtain ⟨x, hx⟩ : ∃ x, L[j]? = some x := ⟨_, List.getElem?_eq_getElem hlt⟩
      have HX := Lib.hid hx
      have HXM := Lib.hid (HLI.out x (List.mem_of_getElem? hx))
      obtain ⟨bT, oT, eT, _, hcT⟩ := (HH.out.below HB9.out).t.2 (by omega)
      have gT : w1.cell? ⟨bT, oT + j, none⟩ = some (.string x.2) := by have q := hcT j x.2 0 (.string x.2) (by rw [List.getElem?_map, hx]; rfl) rfl; simpa using q
      subst eT
      clear hcT
      obtain ⟨bS, oS, eS, _, hcS⟩ := (HH.out.below HB9.out).s.2 (by omega)
      have gS : w1.cell? ⟨bS, oS + j, none⟩ = some (.string x.1) := by have q := hcS j x.1 0 (.string x.1) (by rw [List.getElem?_map, hx]; rfl) rfl; simpa using q
      subst eS
      clear hcS
      clear hx
      obtain ⟨s, u⟩ := x
      by_cases hs : s = N
      · skip
        subst hs
        have HG := Lib.hid (get_at HX.out rfl HNE.out)
        obtain ⟨r1, r2⟩ := beq_same s
        by_cases hu : u = t
        · skip
          subst hu
          obtain ⟨q1, q2⟩ := beq_same u
          have HPX := Lib.hid (HPS.out HG.out)
          go_upto_region 10 with (fail)
          go_wp2_with (first
            | refine wpList_store_rowY rfl 29 (.tmp 4) (.tmp 32) rfl (w.heap.size + 1) #[.slice (some ⟨bT, oT, none⟩) L.length tc, .slice (some ⟨bS, oS, none⟩) L.length sc, .string c0, .string c1] rfl rfl 29 _ HF8.out (info_rs) rfl (by simp [Value.oneCell']) w.heap.size w HB9.out (by omega) ?_
            | refine wpList_load_row rfl 29 (.tmp 2) rfl (w.heap.size) rfl 29 #[.slice (some ⟨bT, oT, none⟩) L.length tc, .slice (some ⟨bS, oS, none⟩) L.length sc, .string c0, .string c1] (0, 0) _ HF7.out Tryd.underlying29 rfl (info_rs) ?_)
          intro w2 hbk hoth hbel _
          clear hc10 hc11 hc12 hHB
          have HF13 := Lib.hid (blk_oth HF7.out hoth.out (by omega))
          have HF14 := Lib.hid hbk.out
          have HB15 := Lib.hid hbel.out
          clear hbk hoth hbel HB9 HF7 HF8
          go_wp2_with fail
          refine bodyPost_ret (results_cttS rfl _ _ (w.heap.size + 1) #[.slice (some ⟨bT, oT, none⟩) L.length tc, .slice (some ⟨bS, oS, none⟩) L.length sc, .string c0, .string c1] rfl (run_loadVar_row _ (w.heap.size + 1) 29 29 _ (0, 0) _ HF14.out Tryd.underlying29 rfl (by kernel_rfl))) rfl ?_
          obtain ⟨p1, p2, p3, p4, p5⟩ := HPX.out
          unfold RetRP
          rw [p1, p2, p3, p4, p5]
          exact ⟨some ⟨bT, oT, none⟩, L.length, tc, some ⟨bS, oS, none⟩, L.length, sc, rfl, HH.out.below HB15.out, HB15.out⟩
        · skip
          obtain ⟨q1, q2⟩ := beq_ne hu
          have HPX := Lib.hid (HPC.out u HG.out hu)
          clear hu
          rcases HCI.out with ⟨e0, e1⟩ | e0
          · skip
            subst e0 e1
            clear hc10 hc11 hc12 hHB
            have hc13 : w1.cell? ⟨w.heap.size, 0, none⟩ = some (.slice (some ⟨bT, oT, none⟩) L.length tc) := by rw [cell_of_row _ _ _ _ _ _ HF7.out]; rfl
            have hc14 : w1.cell? ⟨w.heap.size, 1, none⟩ = some (.slice (some ⟨bS, oS, none⟩) L.length sc) := by rw [cell_of_row _ _ _ _ _ _ HF7.out]; rfl
            have hc15 : w1.cell? ⟨w.heap.size, 2, none⟩ = some (.string ⟨#[]⟩) := by rw [cell_of_row _ _ _ _ _ _ HF7.out]; rfl
            have hc16 : w1.cell? ⟨w.heap.size, 3, none⟩ = some (.string ⟨#[]⟩) := by rw [cell_of_row _ _ _ _ _ _ HF7.out]; rfl
            have hz17 : w1.frozen? ⟨w.heap.size, 2, none⟩ = false := frozen_of_row _ _ _ _ _ HF7.out
            have hz18 : w1.frozen? ⟨w.heap.size, 3, none⟩ = false := frozen_of_row _ _ _ _ _ HF7.out
            go_upto_region 15 with (fail)
            clear hc13 hc14 hc15 hc16 hz17 hz18
            have HKK19 := Lib.hid (((KK.refl [w.heap.size] w1).set (b := w.heap.size) (by simp) 2 (.string u)).set (b := w.heap.size) (by simp) 3 (.string t))
            have HF20 := Lib.hid (show ((w1.setCell ⟨w.heap.size, 2, none⟩ (.string u)).setCell ⟨w.heap.size, 3, none⟩ (.string t)).heap[w.heap.size]? = some (.cells #[.slice (some ⟨bT, oT, none⟩) L.length tc, .slice (some ⟨bS, oS, none⟩) L.length sc, .string u, .string t] 29 (0, 0)) by have q := heap_setCell_at (i := 3) (u := .string t) (heap_setCell_at (i := 2) (u := .string u) (HF7.out)); exact q)
            have HF21 := Lib.hid (HKK19.out.blk HF8.out (by simp <;> omega))
            have HB22 := Lib.hid (HKK19.out.below HB9.out (fun b hb => by obtain rfl : b = w.heap.size := (by simpa using hb); omega) HB9.out.size)
            clear HB9 HF7 HF8
            generalize ((w1.setCell ⟨w.heap.size, 2, none⟩ (.string u)).setCell ⟨w.heap.size, 3, none⟩ (.string t)) = w2 at *
            go_wp2_with (first
              | refine wpList_store_rowY rfl 29 (.tmp 4) (.tmp 52) rfl (w.heap.size + 1) #[.slice (some ⟨bT, oT, none⟩) L.length tc, .slice (some ⟨bS, oS, none⟩) L.length sc, .string u, .string t] rfl rfl 29 _ HF21.out (info_rs) rfl (by simp [Value.oneCell']) w.heap.size w HB22.out (by omega) ?_
              | refine wpList_load_row rfl 29 (.tmp 2) rfl (w.heap.size) rfl 29 #[.slice (some ⟨bT, oT, none⟩) L.length tc, .slice (some ⟨bS, oS, none⟩) L.length sc, .string u, .string t] (0, 0) _ HF20.out Tryd.underlying29 rfl (info_rs) ?_)
            intro w3 hbk hoth hbel _
            have HF23 := Lib.hid (blk_oth HF20.out hoth.out (by omega))
            have HF24 := Lib.hid hbk.out
            have HB25 := Lib.hid hbel.out
            clear hbk hoth hbel HB22 HF20 HF21
            go_wp2_with fail
            refine bodyPost_ret (results_cttS rfl _ _ (w.heap.size + 1) #[.slice (some ⟨bT, oT, none⟩) L.length tc, .slice (some ⟨bS, oS, none⟩) L.length sc, .string u, .string t] rfl (run_loadVar_row _ (w.heap.size + 1) 29 29 _ (0, 0) _ HF24.out Tryd.underlying29 rfl (by kernel_rfl))) rfl ?_
            obtain ⟨p1, p2, p3, p4, p5⟩ := HPX.out
            unfold RetRP
            rw [p1, p2, p3, p4, p5]
            exact ⟨some ⟨bT, oT, none⟩, L.length, tc, some ⟨bS, oS, none⟩, L.length, sc, rfl, HH.out.below HB25.out, HB25.out⟩
          · skip
            obtain ⟨y1, y2, y3, y4⟩ := sne_facts e0
            have hmt := met_ofS (b := c1) e0
            have HPX := Lib.hid (show putE L t = 15 ∧ putN L t = ⟨#[]⟩ ∧ putL L t = L ∧ putA L c0 c1 t = c0 ∧ putB L c0 c1 t = c1 by obtain ⟨p1, p2, p3, p4, p5⟩ := HPX.out; exact ⟨p1, p2, p3, by rw [p4]; unfold mtA; rw [if_pos hmt], by rw [p5]; unfold mtB; rw [if_pos hmt]⟩)
            clear hmt e0
            go_upto_region 15 with (fail)
            go_wp2_with (first
              | refine wpList_store_rowY rfl 29 (.tmp 4) (.tmp 52) rfl (w.heap.size + 1) #[.slice (some ⟨bT, oT, none⟩) L.length tc, .slice (some ⟨bS, oS, none⟩) L.length sc, .string c0, .string c1] rfl rfl 29 _ HF8.out (info_rs) rfl (by simp [Value.oneCell']) w.heap.size w HB9.out (by omega) ?_
              | refine wpList_load_row rfl 29 (.tmp 2) rfl (w.heap.size) rfl 29 #[.slice (some ⟨bT, oT, none⟩) L.length tc, .slice (some ⟨bS, oS, none⟩) L.length sc, .string c0, .string c1] (0, 0) _ HF7.out Tryd.underlying29 rfl (info_rs) ?_)
            intro w2 hbk hoth hbel _
            clear hc10 hc11 hc12 hHB
            have HF13 := Lib.hid (blk_oth HF7.out hoth.out (by omega))
            have HF14 := Lib.hid hbk.out
            have HB15 := Lib.hid hbel.out
            clear hbk hoth hbel HB9 HF7 HF8
            go_wp2_with fail
            refine bodyPost_ret (results_cttS rfl _ _ (w.heap.size + 1) #[.slice (some ⟨bT, oT, none⟩) L.length tc, .slice (some ⟨bS, oS, none⟩) L.length sc, .string c0, .string c1] rfl (run_loadVar_row _ (w.heap.size + 1) 29 29 _ (0, 0) _ HF14.out Tryd.underlying29 rfl (by kernel_rfl))) rfl ?_
            obtain ⟨p1, p2, p3, p4, p5⟩ := HPX.out
            unfold RetRP
            rw [p1, p2, p3, p4, p5]
            exact ⟨some ⟨bT, oT, none⟩, L.length, tc, some ⟨bS, oS, none⟩, L.length, sc, rfl, HH.out.below HB15.out, HB15.out⟩
      · skip
        have hu : u ≠ t := fun e => hs ((show s = nmS u from HXM.out.1).trans (by rw [HN.out, e]))
        obtain ⟨q1, q2⟩ := beq_ne hu
        obtain ⟨r1, r2⟩ := beq_ne hs
        have HNE2 := Lib.hid (show ∀ y ∈ L.take (j + 1), y.1 ≠ N from fun y hy => by
          obtain ⟨hj2, hx2⟩ := List.getElem?_eq_some_iff.1 HX.out
          rw [List.take_succ_eq_append_getElem hj2, hx2] at hy
          rcases List.mem_append.1 hy with q | q
          · exact HNE.out y q
          · obtain rfl : y = (s, u) := by simpa using q
            exact hs)
        clear hu hs
        go_wp2_with fail
        go_round
        case rel => exact ⟨j + 1, by go_num, by omega, HNE2.out⟩
        case measure => simp [intOf] <;> omega
    · skip
      obtain rfl : j = L.length := by omega
      have hd1 : decide ((L.length : Int) < (L.length : Int)) = false := decide_eq_false (by omega)
      have hd2 : decide (L.length < L.length) = false := decide_eq_false (by omega)
      have HPX := Lib.hid (HPN.out (get_end (fun y hy => HNE.out y (by rw [List.take_of_length_le (Nat.le_refl _)]; exact hy))))
      have HHW := Lib.hid (HH.out.below HB9.out)
      go_upto_region 16 with (fail)
      have y0 : (w1.alloc (.cells #[] 9 (0, 0))).cell? ⟨w.heap.size, 0, none⟩ = some (.slice ta L.length tc) := (cell_of_row _ _ 0 _ _ _ (blk_alloc HF7.out _)).trans rfl
      go_wp2_with (at_builtin; refine wpList_appXs rfl (.tmp 53) (.tmp 55) 27 9 _ 16 rfl Tryd.underlying27 info_stA rfl (by omega) (by omega) stC_len stC_one w1.heap.size w1 ((Below.refl _ w1).alloc (Nat.le_refl _) _) (by simp) _ [] rfl (OwX.zero (blk_new w1 _) (Nat.le_refl _) (Nat.zero_le _) rfl) ta L.length tc (L.map (·.2)) rfl ((HHW.out.t).alloc _) (by simp; exact Nat.le_trans HLL.out (by decide)) ?_)
      intro V5 w50 HO5 HB5z HZ5 HG5
      clear y0
      go_wp2_with (at_builtin; refine wpList_appX rfl (.tmp 56) (.tmp 58) 27 9 _ 16 rfl Tryd.underlying27 info_stA rfl (by omega) (by omega) stC_len stC_one w1.heap.size w1 (HB5z.out.alloc HZ5.out _) (Nat.le_trans HZ5.out (by simp)) V5 ([] ++ L.map (·.2)) rfl (HO5.out.alloc _) w50.heap.size 1 t #[.string t] 9 (0, 0) rfl (heap_alloc_new w50 _) rfl (by simp; omega) ?_)
      intro V6 w60 HO6 HB6z HZ6 HG6
      clear HO5 HB5z HZ5 HG5 HG6 HZ6
      clear hc10 hc11 hc12 hHB
      have HF13 := Lib.hid (blk_below HF7.out HB6z.out)
      have HF14 := Lib.hid (blk_below HF8.out HB6z.out)
      have HO6m := Lib.hid (HO6.out.mono (B' := w.heap.size) HB9.out.size)
      have HB15 := Lib.hid (HB9.out.trans (HB6z.out.mono HB9.out.size))
      clear HO6 HB6z HB9 HF7 HF8
      obtain ⟨A6, n6, c6, rfl⟩ := HO6m.out.sl3
      have hc16 : w60.cell? ⟨w.heap.size, 0, none⟩ = some (.slice ta L.length tc) := by rw [cell_of_row _ _ _ _ _ _ HF13.out]; rfl
      have hc17 : w60.cell? ⟨w.heap.size, 1, none⟩ = some (.slice sa L.length sc) := by rw [cell_of_row _ _ _ _ _ _ HF13.out]; rfl
      have hz18 : w60.frozen? ⟨w.heap.size, 0, none⟩ = false := frozen_of_row _ _ _ _ _ HF13.out
      go_upto_region 17 with (fail)
      clear hc16 hc17 hz18
      have HKK19 := Lib.hid ((KK.refl [w.heap.size] w60).set (b := w.heap.size) (by simp) 0 (.slice A6 n6 c6))
      have HF20 := Lib.hid (show (w60.setCell ⟨w.heap.size, 0, none⟩ (.slice A6 n6 c6)).heap[w.heap.size]? = some (.cells #[.slice A6 n6 c6, .slice sa L.length sc, .string c0, .string c1] 29 (0, 0)) by have q := heap_setCell_at (i := 0) (u := .slice A6 n6 c6) (HF13.out); exact q)
      have HF21 := Lib.hid (HKK19.out.blk HF14.out (by simp <;> omega))
      have HO6m22 := Lib.hid (HO6m.out.kkD HKK19.out HF13.out (by decide))
      have HB23 := Lib.hid (HKK19.out.below HB15.out (fun b hb => by obtain rfl : b = w.heap.size := (by simpa using hb); omega) HB15.out.size)
      clear HB15 HF13 HF14
      generalize (w60.setCell ⟨w.heap.size, 0, none⟩ (.slice A6 n6 c6)) = w2 at *
      have HHX := Lib.hid (HH.out.below HB23.out)
      have hc24 : w2.cell? ⟨w.heap.size, 1, none⟩ = some (.slice sa L.length sc) := by rw [cell_of_row _ _ _ _ _ _ HF20.out]; rfl
      go_upto_region 17 with (fail)
      have y0 : (w2.alloc (.cells #[] 9 (0, 0))).cell? ⟨w.heap.size, 1, none⟩ = some (.slice sa L.length sc) := (cell_of_row _ _ 1 _ _ _ (blk_alloc HF20.out _)).trans rfl
      go_wp2_with (at_builtin; refine wpList_appXs rfl (.tmp 61) (.tmp 63) 27 9 _ 16 rfl Tryd.underlying27 info_stA rfl (by omega) (by omega) stC_len stC_one w2.heap.size w2 ((Below.refl _ w2).alloc (Nat.le_refl _) _) (by simp) _ [] rfl (OwX.zero (blk_new w2 _) (Nat.le_refl _) (Nat.zero_le _) rfl) sa L.length sc (L.map (·.1)) rfl ((HHX.out.s).alloc _) (by simp; exact Nat.le_trans HLL.out (by decide)) ?_)
      intro V7 w70 HO7 HB7z HZ7 HG7
      clear y0
      go_wp2_with (at_builtin; refine wpList_appX rfl (.tmp 64) (.tmp 66) 27 9 _ 16 rfl Tryd.underlying27 info_stA rfl (by omega) (by omega) stC_len stC_one w2.heap.size w2 (HB7z.out.alloc HZ7.out _) (Nat.le_trans HZ7.out (by simp)) V7 ([] ++ L.map (·.1)) rfl (HO7.out.alloc _) w70.heap.size 1 N #[.string N] 9 (0, 0) rfl (heap_alloc_new w70 _) rfl (by simp; omega) ?_)
      intro V8 w80 HO8 HB8z HZ8 HG8
      clear HO7 HB7z HZ7 HG7 HG8 HZ8
      clear hc24
      have HF25 := Lib.hid (blk_below HF20.out HB8z.out)
      have HF26 := Lib.hid (blk_below HF21.out HB8z.out)
      have HO6m27 := Lib.hid (HO6m22.out.kept HB8z.out)
      have HO8m := Lib.hid (HO8.out.mono (B' := w.heap.size) HB23.out.size)
      have HB28 := Lib.hid (HB23.out.trans (HB8z.out.mono HB23.out.size))
      clear HO8 HB8z HB23 HF20 HF21
      obtain ⟨A8, n8, c8, rfl⟩ := HO8m.out.sl3
      have hc29 : w80.cell? ⟨w.heap.size, 0, none⟩ = some (.slice A6 n6 c6) := by rw [cell_of_row _ _ _ _ _ _ HF25.out]; rfl
      have hc30 : w80.cell? ⟨w.heap.size, 1, none⟩ = some (.slice sa L.length sc) := by rw [cell_of_row _ _ _ _ _ _ HF25.out]; rfl
      have hz31 : w80.frozen? ⟨w.heap.size, 1, none⟩ = false := frozen_of_row _ _ _ _ _ HF25.out
      go_upto_region 18 with (fail)
      clear hc29 hc30 hz31
      have HKK32 := Lib.hid ((KK.refl [w.heap.size] w80).set (b := w.heap.size) (by simp) 1 (.slice A8 n8 c8))
      have HF33 := Lib.hid (show (w80.setCell ⟨w.heap.size, 1, none⟩ (.slice A8 n8 c8)).heap[w.heap.size]? = some (.cells #[.slice A6 n6 c6, .slice A8 n8 c8, .string c0, .string c1] 29 (0, 0)) by have q := heap_setCell_at (i := 1) (u := .slice A8 n8 c8) (HF25.out); exact q)
      have HF34 := Lib.hid (HKK32.out.blk HF26.out (by simp <;> omega))
      have HO6m35 := Lib.hid (HO6m27.out.kkD HKK32.out HF25.out (by decide))
      have HO8m36 := Lib.hid (HO8m.out.kkD HKK32.out HF25.out (by decide))
      have HB37 := Lib.hid (HKK32.out.below HB28.out (fun b hb => by obtain rfl : b = w.heap.size := (by simpa using hb); omega) HB28.out.size)
      clear HB28 HF25 HF26
      generalize (w80.setCell ⟨w.heap.size, 1, none⟩ (.slice A8 n8 c8)) = w3 at *
      go_wp2_with (first
        | refine wpList_store_rowY rfl 29 (.tmp 4) (.tmp 69) rfl (w.heap.size + 1) #[.slice A6 n6 c6, .slice A8 n8 c8, .string c0, .string c1] rfl rfl 29 _ HF34.out (info_rs) rfl (by simp [Value.oneCell']) w.heap.size w HB37.out (by omega) ?_
        | refine wpList_load_row rfl 29 (.tmp 2) rfl (w.heap.size) rfl 29 #[.slice A6 n6 c6, .slice A8 n8 c8, .string c0, .string c1] (0, 0) _ HF33.out Tryd.underlying29 rfl (info_rs) ?_)
      intro w4 hbk hoth hbel _
      have HO6m38 := Lib.hid (HO6m35.out.oth hoth.out HF34.out (by decide))
      have HO8m39 := Lib.hid (HO8m36.out.oth hoth.out HF34.out (by decide))
      have HF40 := Lib.hid (blk_oth HF33.out hoth.out (by omega))
      have HF41 := Lib.hid hbk.out
      have HB42 := Lib.hid hbel.out
      clear hbk hoth hbel HB37 HF33 HF34
      go_wp2_with fail
      have HR1 := HO6m38.out.rdL
      have HR2 := HO8m39.out.rdL
      refine bodyPost_ret (results_cttS rfl _ _ (w.heap.size + 1) #[.slice A6 n6 c6, .slice A8 n8 c8, .string c0, .string c1] rfl (run_loadVar_row _ (w.heap.size + 1) 29 29 _ (0, 0) _ HF41.out Tryd.underlying29 rfl (by kernel_rfl))) rfl ?_
      obtain ⟨p1, p2, p3, p4, p5⟩ := HPX.out
      unfold RetRP
      rw [p1, p2, p3, p4, p5]
      exact ⟨A6, n6, c6, A8, n8, c8, rfl, ⟨by rw [List.map_append]; simpa using HR1.1, by rw [List.map_append]; simpa using HR2.1, HR1.2.1, HR1.2.2.1, HR2.2.1, HR2.2.2.1, fun b o e _ => HP.out b (HR1.2.2.2 b o e), fun b o e _ => HP.out b (HR2.2.2.2 b o e)⟩, HB42.out⟩
end Go.Proofs.YtpjpegmjcgkonaaDoor

namespace Go.Proofs.YtpjpegmjcgkonaaDoor
open Go.RowKit Vi

/-- no shelf: nil, or one that no call made -/
def NoSh (p : Option Addr) (w : World) : Prop := p = none ∨ ∃ D, p = some ⟨D, 0, none⟩ ∧ w.heap[D]? = some (shO none 0 0 none ⟨#[]⟩ ⟨#[]⟩)
theorem NoSh.kept {p : Option Addr} {w w' : World} (h : NoSh p w) (hb : Below w.heap.size w w') : NoSh p w' := by
  rcases h with h | ⟨D, h1, h2⟩
  · exact .inl h
  · exact .inr ⟨D, h1, blk_below h2 hb⟩
section
variable {p : Option Addr} {w : World}
theorem nsmade (h : NoSh p w) : Calls Tryd.prog 45 #[.pointer p] w fun e w' => e = .returned (.bool false) ∧ w = w' := by
  rcases h with rfl | ⟨D, rfl, h2⟩
  · exact smade_nil w
  · exact smade_any D _ _ _ none _ _ w h2
set_option maxRecDepth 100000 in
theorem nsput (h : NoSh p w) (s : ByteArray) : Calls Tryd.prog 20 #[.pointer p, .string s] w fun e w' => e = .returned (.tuple #[.string ⟨#[]⟩, .int .i64 1]) ∧ Below w.heap.size w w' := by
  have HR := Lib.hid (nsmade h)
  clear h
  go_enter Tryd.func20, Tryd.ntmps20
  go_wp2_with fail
  refine HR.out.mono ?_
  rintro e w' ⟨rfl, rfl⟩
  go_wp2_with fail
  go_ret2
  exact ⟨rfl, Below.refl _ _⟩
set_option maxRecDepth 100000 in
theorem nshas (h : NoSh p w) (s : ByteArray) : Calls Tryd.prog 16 #[.pointer p, .string s] w fun e w' => e = .returned (.bool false) ∧ Below w.heap.size w w' := by
  have HR := Lib.hid (nsmade h)
  clear h
  go_enter Tryd.func16, Tryd.ntmps16
  go_wp2_with fail
  refine HR.out.mono ?_
  rintro e w' ⟨rfl, rfl⟩
  go_wp2_with fail
  go_ret
  exact ⟨rfl, Below.refl _ _⟩
set_option maxRecDepth 100000 in
theorem nsget (h : NoSh p w) (s : ByteArray) : Calls Tryd.prog 14 #[.pointer p, .string s] w fun e w' => e = .returned (.tuple #[.string ⟨#[]⟩, .bool false]) ∧ Below w.heap.size w w' := by
  have HR := Lib.hid (nshas h s)
  clear h
  go_enter Tryd.func14, Tryd.ntmps14
  go_wp2_with fail
  refine HR.out.mono ?_
  rintro e w2 ⟨rfl, hb⟩
  have HB := Lib.hid hb
  clear hb
  go_wp2_with fail
  go_ret2
  exact ⟨rfl, HB.out⟩
set_option maxRecDepth 100000 in
theorem nslen (h : NoSh p w) : Calls Tryd.prog 24 #[.pointer p] w fun e w' => e = .returned (.int .i64 0) ∧ Below w.heap.size w w' := by
  have HR := Lib.hid (nsmade h)
  clear h
  go_enter Tryd.func24, Tryd.ntmps24
  go_wp2_with fail
  refine HR.out.mono ?_
  rintro e w' ⟨rfl, rfl⟩
  go_wp2_with fail
  go_ret
  exact ⟨rfl, Below.refl _ _⟩
set_option maxRecDepth 100000 in
theorem nstexts (h : NoSh p w) (n : Int) : Calls Tryd.prog 18 #[.pointer p, .int .i64 n] w fun e w' => e = .returned (.slice none 0 0) ∧ Below w.heap.size w w' := by
  have HR := Lib.hid (nsmade h)
  clear h
  go_enter Tryd.func18, Tryd.ntmps18
  go_wp2_with fail
  refine HR.out.mono ?_
  rintro e w' ⟨rfl, rfl⟩
  go_wp2_with fail
  go_ret
  exact ⟨rfl, Below.refl _ _⟩
set_option maxRecDepth 100000 in
theorem nsnames (h : NoSh p w) : Calls Tryd.prog 25 #[.pointer p] w fun e w' => e = .returned (.slice none 0 0) ∧ Below w.heap.size w w' := by
  have HR := Lib.hid (nsmade h)
  clear h
  go_enter Tryd.func25, Tryd.ntmps25
  go_wp2_with fail
  refine HR.out.mono ?_
  rintro e w' ⟨rfl, rfl⟩
  go_wp2_with fail
  go_ret
  exact ⟨rfl, Below.refl _ _⟩
set_option maxRecDepth 100000 in
theorem nscut (h : NoSh p w) (n : Int) : Calls Tryd.prog 26 #[.pointer p, .int .i64 n] w fun e w' => e = .returned (.int .i64 1) ∧ Below w.heap.size w w' := by
  have HR := Lib.hid (nsmade h)
  clear h
  go_enter Tryd.func26, Tryd.ntmps26
  go_wp2_with fail
  refine HR.out.mono ?_
  rintro e w' ⟨rfl, rfl⟩
  go_wp2_with fail
  go_ret
  exact ⟨rfl, Below.refl _ _⟩
set_option maxRecDepth 100000 in
theorem nsclash (h : NoSh p w) : Calls Tryd.prog 21 #[.pointer p] w fun e w' => e = .returned (.tuple #[.string ⟨#[]⟩, .string ⟨#[]⟩, .bool false]) ∧ Below w.heap.size w w' := by
  have HR := Lib.hid (nsmade h)
  clear h
  go_enter Tryd.func21, Tryd.ntmps21
  go_wp2_with fail
  refine HR.out.mono ?_
  rintro e w' ⟨rfl, rfl⟩
  go_wp2_with fail
  refine bodyPost_ret (results_t3 rfl _ _) rfl ?_
  exact ⟨rfl, Below.refl _ _⟩
set_option maxRecDepth 100000 in
theorem nscopy (h : NoSh p w) : Calls Tryd.prog 23 #[.pointer p] w fun e w' => e = .returned (.pointer none) ∧ Below w.heap.size w w' := by
  have HR := Lib.hid (nsmade h)
  clear h
  go_enter Tryd.func23, Tryd.ntmps23
  go_wp2_with fail
  refine HR.out.mono ?_
  rintro e w' ⟨rfl, rfl⟩
  go_wp2_with fail
  go_ret
  exact ⟨rfl, Below.refl _ _⟩
end
end Go.Proofs.YtpjpegmjcgkonaaDoor

namespace Go.Proofs.YtpjpegmjcgkonaaDoor
open Go.RowKit Vi

/-- where a slice's end lies -/
def cutO (a : Option Addr) (c k : Nat) : Option Addr := if c = k then a else a.map (·.add (k * 2))
theorem elem_oo : Tryd.prog.elem 51 = 81 := by kernel_rfl
theorem size_of_ob (W : World) : (sizeOf 81).run Tryd.prog W = .ok 2 W := by
  obtain ⟨i0, hi, _, hz1, _⟩ := info_parts info_ob
  simp [sizeOf, typeInfo, hi, hz1]
theorem und_oo : Tryd.prog.underlying 51 = some (.slice (Tryd.prog.elem 51)) := by rw [elem_oo]; exact Tryd.underlying51
theorem sliceO_from (a : Option Addr) (n c k : Nat) (hk : k ≤ n) (W : World) : (Instr.slice 51 (.slice a n c) (some (.int .i64 (k : Int))) none none).run Tryd.prog W = .ok (.slice (cutO a c k) (n - k) (c - k)) W := by
  rw [run_slice_l W _ a n c und_oo .i64 k (by omega) (by omega), elem_oo, size_of_ob]
  simp [Result.andThen, sliced, cutO]
theorem RdX.cutO {w : World} {A : Option Addr} {n : Nat} {L : List Ob} (h : RdX obC 2 w A n L) (c k : Nat) (hk : k ≤ n) (hc : n ≤ c) : RdX obC 2 w (cutO A c k) (n - k) (L.drop k) := by
  have hl := h.1
  refine ⟨by rw [List.length_drop]; omega, fun hp => ?_⟩
  obtain ⟨b, off, rfl, hb, hcell⟩ := h.2 (by omega)
  refine ⟨b, off + k * 2, ?_, hb, fun i x j u hx hu => ?_⟩
  · unfold Go.Proofs.YtpjpegmjcgkonaaDoor.cutO
    rw [if_neg (by omega)]
    simp [Addr.add_lit]
  · rw [List.getElem?_drop] at hx
    have q := hcell (k + i) x j u hx hu
    rw [Nat.add_mul, ← Nat.add_assoc] at q
    exact q
end Go.Proofs.YtpjpegmjcgkonaaDoor

namespace Go.Proofs.YtpjpegmjcgkonaaDoor
open Go.RowKit Vi

/-- the texts from a place on -/
def txO (L : List Ob) (n : Int) : List ByteArray := if 0 ≤ n ∧ n ≤ (L.length : Int) then (L.drop n.toNat).map (·.2) else []
def RetTx (l : List ByteArray) (w : World) (e : Ending) (w' : World) : Prop := ∃ v, e = .returned v ∧ OwX stC 1 9 w' w.heap.size v l ∧ Below w.heap.size w w'
set_option maxRecDepth 100000 in
set_option maxHeartbeats 4000000 in
theorem stexts_any (D : Nat) (L : List Ob) (c0 c1 : ByteArray) (k : Nat) (n : Int) (w : World) (h : SK D L c0 c1 k w) (hl : L.length ≤ 900000) :
    Calls Tryd.prog 18 #[.pointer (some ⟨D, 0, none⟩), .int .i64 n] w (RetTx (txO L n) w) := by
  obtain ⟨oa, on, oc, B, h1, h2, h3⟩ := h
  have HM := Lib.hid (smade_any D oa on oc (some B) c0 c1 w h1)
  obtain ⟨x0, x1, x2, x3⟩ := sh_cells h1
  obtain ⟨A', c', e, hr, hle, _⟩ := h2.rd obC_len
  injection e with e1 e2 e3
  subst e1 e2 e3
  have HR := Lib.hid hr
  clear h1 h2 h3 x1 x2 x3 hr
  by_cases q1 : n < 0
  · have t1 : decide (n < 0) = true := decide_eq_true q1
    have HE := Lib.hid (show txO L n = [] by unfold txO; rw [if_neg (by omega)])
    go_enter Tryd.func18, Tryd.ntmps18
    go_wp2_with fail
    refine HM.out.mono ?_
    rintro e w' ⟨rfl, rfl⟩
    go_wp2_with fail
    go_ret
    exact ⟨_, rfl, by rw [HE.out]; exact OwX.nil _, Below.refl _ _⟩
  have t1 : decide (n < 0) = false := decide_eq_false q1
  by_cases q2 : (L.length : Int) < n
  · have t2 : decide (n > (L.length : Int)) = true := decide_eq_true q2
    have t3 : decide ((L.length : Int) < n) = true := decide_eq_true q2
    have HE := Lib.hid (show txO L n = [] by unfold txO; rw [if_neg (by omega)])
    go_enter Tryd.func18, Tryd.ntmps18
    go_wp2_with fail
    refine HM.out.mono ?_
    rintro e w' ⟨rfl, rfl⟩
    go_wp2_with fail
    go_ret
    exact ⟨_, rfl, by rw [HE.out]; exact OwX.nil _, Below.refl _ _⟩
  have t2 : decide (n > (L.length : Int)) = false := decide_eq_false q2
  have t3 : decide ((L.length : Int) < n) = false := decide_eq_false q2
  obtain ⟨K, rfl⟩ : ∃ K : Nat, n = (K : Int) := ⟨n.toNat, by omega⟩
  have hK : K ≤ L.length := by omega
  have t4 : decide (L.length < K) = false := decide_eq_false (by omega)
  have HE := Lib.hid (show txO L (K : Int) = (L.drop K).map (·.2) by unfold txO; rw [if_pos (by omega)]; simp)
  have hsl := fun W => sliceO_from oa L.length oc K hK W
  have HRC := Lib.hid (HR.out.cutO oc K hK hle)
  generalize cutO oa oc K = A2 at hsl HRC
  obtain ⟨M, hM⟩ : ∃ M, M = L.length - K := ⟨_, rfl⟩
  obtain ⟨l2, hl2⟩ : ∃ l2, l2 = L.drop K := ⟨_, rfl⟩
  rw [← hM] at hsl HRC
  rw [← hl2] at HRC HE
  have hMb : M ≤ 900000 := by omega
  have HMb := Lib.hid (show M ≤ 9223372036854775807 by omega)
  clear hl2 hM q1 q2
  go_enter Tryd.func18, Tryd.ntmps18
  go_wp2_with fail
  refine HM.out.mono ?_
  rintro e w' ⟨rfl, rfl⟩
  go_wp2_with fail
  go_loopw [5, 31] (fun v i wr => ∃ j : Nat, i = .int .i64 (j : Int) ∧ j ≤ M ∧ OwX stC 1 9 wr w.heap.size v ((l2.take j).map (·.2)) ∧ Below w.heap.size w wr) (fun _ i _ => M - (intOf i).toNat)
  case atStart => exact ⟨0, rfl, Nat.zero_le _, OwX.nil _, Below.refl _ _⟩
  case round =>
    obtain ⟨j, rfl, hj, ho, hb⟩ := hrel
    have HO := Lib.hid ho
    have HB := Lib.hid hb
    clear ho hb x0 hsl
    by_cases hlt : j < M
    · have hd1 : decide ((j : Int) < (M : Int)) = true := decide_eq_true (by omega)
      have hi0 : (0 : Int) ≤ (j : Int) := by omega
      have hs1 : IntKind.i64.wrap ((j : Int) + 1) = (j : Int) + 1 := IntWalk.i64_in _ (by omega)
      obtain ⟨ba, oa2, hl1, rfl, hba, hca⟩ := (HRC.out.below HB.out).at hlt
      have g0 : wr.cell? ⟨ba, oa2 + j * 2, none⟩ = some (.string (l2[j]'hl1).1) := by have q := hca 0 _ rfl; simpa using q
      have g1 := hca 1 (.string (l2[j]'hl1).2) rfl
      have HT := Lib.hid (show (l2.take (j + 1)).map (·.2) = (l2.take j).map (·.2) ++ [(l2[j]'hl1).2] by rw [List.take_succ_eq_append_getElem hl1, List.map_append]; rfl)
      have hln : ((l2.take j).map (·.2)).length + 1 ≤ 1000000 := by rw [List.length_map, List.length_take]; omega
      obtain ⟨x, hx⟩ : ∃ x, x = l2[j]'hl1 := ⟨_, rfl⟩
      rw [← hx] at g0 g1 HT
      clear hca hba hx hl1
      obtain ⟨s, t⟩ := x
      have HB0 := Lib.hid ((Below.refl wr.heap.size wr).alloc (Nat.le_refl _) (.cells #[.string ⟨#[]⟩, .string ⟨#[]⟩] 81 (0, 0)))
      have HN0 := Lib.hid (blk_new wr (.cells #[.string ⟨#[]⟩, .string ⟨#[]⟩] 81 (0, 0)))
      go_wp2_with (refine wpList_store_rowY rfl 81 (.tmp 7) (.tmp 34) rfl wr.heap.size #[.string s, .string t] rfl rfl 81 _ HN0.out (by kernel_rfl) rfl (by simp [Value.oneCell']) wr.heap.size wr HB0.out (Nat.le_refl _) ?_)
      intro w6 hbk hoth hbel _
      have HX6 := Lib.hid hbk.out
      have HB6 := Lib.hid (HB.out.trans (hbel.out.mono HB.out.size))
      have HO6 := Lib.hid (HO.out.kept hbel.out)
      clear hbk hoth hbel HB0 HN0 HB HO g0 g1
      generalize wr.heap.size = y at *
      have z1 : w6.cell? ⟨y, 1, none⟩ = some (.string t) := (cell_of_row _ _ 1 _ _ _ HX6.out).trans rfl
      go_wp2_with (at_builtin; refine wpList_appX rfl (.tmp 35) (.tmp 38) 27 9 _ 16 rfl Tryd.underlying27 info_stA rfl (by omega) (by omega) stC_len stC_one w.heap.size w (HB6.out.alloc HB6.out.size _) (Nat.le_trans HB6.out.size (by simp)) _ _ rfl (HO6.out.alloc _) w6.heap.size 1 t #[.string t] 9 (0, 0) rfl (heap_alloc_new w6 _) rfl hln ?_)
      intro v9 w9 HO9 HB9 _ _
      go_wp2_with fail
      go_roundw
      case rel => exact ⟨j + 1, by go_num, by omega, by rw [HT.out, List.map_take]; exact HO9.out, HB9.out⟩
      case measure => simp [intOf] <;> omega
    · have hd1 : decide ((j : Int) < (M : Int)) = false := decide_eq_false (by omega)
      have HF := Lib.hid (show (l2.take j).map (·.2) = txO L (K : Int) by rw [HE.out, List.take_of_length_le (by have := HRC.out.1; omega)])
      go_wp2_with fail
      go_ret
      exact ⟨_, rfl, by rw [← HF.out]; exact HO.out, HB.out⟩
end Go.Proofs.YtpjpegmjcgkonaaDoor

namespace Go.Proofs.YtpjpegmjcgkonaaDoor
open Go.RowKit Vi Go.WideMaps Go.Maps

theorem MapI.del {w : World} {B k : Nat} {f : ByteArray → Option Int} (h : MapI w B k f) (x : ByteArray) (hx : x.size ≤ maxLen) (ty : TypeId) :
    ∃ w', (Builtin.delete_ #[52, 9] ty #[.map (some B), .string x]).run Tryd.prog w = .ok (.tuple #[]) w' ∧ MapI w' B k (delF f x) ∧ w.grownBy w' (some B) := by
  obtain ⟨n, D, h1, h2, h3, h4⟩ := h
  obtain ⟨w', hrun, hown, ht⟩ := h1.drop (string_keyed Tryd.underlying9) Tryd.underlying52 (keyOf_string_mk Tryd.underlying9 hx) ty
  refine ⟨w', hrun, ⟨n, _, hown, h2, h3.del _, fun s hs => ?_⟩, ht.grown⟩
  unfold delF
  by_cases e : x = s
  · subst e
    rw [has_del_same, if_pos (by simp)]
    exact ⟨rfl, fun z => by rw [atKey_del_same]; rfl⟩
  · have hf : ¬ (x.toList == s.toList) = true := fun q => e (ba_eq.1 q)
    rw [has_del_other (lit_ne e), if_neg hf]
    exact ⟨(h4 s hs).1, fun z => by rw [atKey_del_other (lit_ne e)]; exact (h4 s hs).2 z⟩
end Go.Proofs.YtpjpegmjcgkonaaDoor

namespace Go.Proofs.YtpjpegmjcgkonaaDoor
open Go.RowKit

theorem two_cells (w : World) (x y : Value) (t : TypeId) : (w.alloc (.cells #[x, y] t)).drew.cell? ⟨w.heap.size, 0, none⟩ = some x ∧ (w.alloc (.cells #[x, y] t)).drew.cell? ⟨w.heap.size, 1, none⟩ = some y := by
  constructor
  · show (w.alloc (.cells #[x, y] t)).cell? _ = _
    rw [cell_of_row _ _ _ _ _ _ (MapKept.heap_alloc w (.cells #[x, y] t)).1]
    rfl
  · show (w.alloc (.cells #[x, y] t)).cell? _ = _
    rw [cell_of_row _ _ _ _ _ _ (MapKept.heap_alloc w (.cells #[x, y] t)).1]
    rfl
end Go.Proofs.YtpjpegmjcgkonaaDoor

namespace Go.Proofs.YtpjpegmjcgkonaaDoor
open Go.RowKit

theorem riseB_short : ∀ l : List ByteArray, l.length ≤ 1 → riseB l = true
  | [], _ => rfl
  | [_], _ => rfl
  | _ :: _ :: _, h => by simp at h
theorem riseB_no (a b : ByteArray) (t : List ByteArray) (h : leS b a = true) : riseB (a :: b :: t) = false := by simp [riseB, h]
theorem riseB_go (a b : ByteArray) (t : List ByteArray) (h : leS b a = false) : riseB (a :: b :: t) = riseB (b :: t) := by simp [riseB, h]

set_option maxHeartbeats 800000 in
set_option maxRecDepth 100000 in
theorem refLess_any (a : Option Addr) (len cap : Nat) (ss : List ByteArray) (x : ByteArray) (w : World) (hsl : SlN w a len ss) (hlm : len ≤ 1000000) :
    Calls Tryd.prog 96 #[.slice a len cap, .string x] w fun e w' => e = .returned (.int .i64 (lessN ss x : Int)) ∧ w = w' := by
  have HSL := Lib.hid hsl.2
  have HL := Lib.hid hsl.1
  clear hsl
  go_enter Tryd.func96, Tryd.ntmps96
  go_wp2
  go_loop [5, 6] (fun v i => ∃ (k n : Nat), k ≤ len ∧ i = .int .i64 (k : Int) ∧ v = .int .i64 (n : Int) ∧ n ≤ k ∧ lessN (ss.take k) x = n) (fun _ i => len - (intOf i).toNat)
  case atStart => exact ⟨0, 0, Nat.zero_le _, rfl, rfl, Nat.le_refl _, rfl⟩
  case round =>
    obtain ⟨k, n, hk, rfl, rfl, hnk, heq⟩ := hrel
    have HE := Lib.hid heq
    clear heq
    by_cases hlt : k < len
    · obtain ⟨b, off, rfl, hcell⟩ := HSL.out (by omega)
      have hkn : k < ss.length := by rw [HL.out]; exact hlt
      have hc := hcell k hkn
      have HY := fun h => Lib.hid (lessN_yes ss x k hkn h)
      have HN := fun h => Lib.hid (lessN_no ss x k hkn h)
      have HY2 := Lib.hid HY
      have HN2 := Lib.hid HN
      clear hcell HY HN
      generalize ss[k] = s at hc HY2 HN2
      cases hq : Op.bytesLess s.toList x.toList with
      | true =>
        have HR := Lib.hid ((HY2.out hq).out.trans (by rw [HE.out]))
        go_wp2
        go_round
        case rel => exact ⟨k + 1, n + 1, by omega, by go_num, by go_num, by omega, HR.out⟩
        case measure => simp [intOf]; omega
      | false =>
        have HR := Lib.hid ((HN2.out hq).out.trans HE.out)
        go_wp2
        go_round
        case rel => exact ⟨k + 1, n, by omega, by go_num, rfl, by omega, HR.out⟩
        case measure => simp [intOf]; omega
    · have HR := Lib.hid (show lessN ss x = n by rw [← HE.out, List.take_of_length_le (by rw [HL.out]; omega)])
      go_wp2
      go_ret
      exact ⟨ret_n (by rw [HR.out]), rfl⟩

theorem in_take (ss : List ByteArray) (x : ByteArray) (k : Nat) (h : k < ss.length) : inB (ss.take (k + 1)) x = (inB (ss.take k) x || (ss[k].toList == x.toList)) := by
  unfold inB
  rw [List.take_succ_eq_append_getElem h, List.any_append]
  simp
theorem in_hit (ss : List ByteArray) (x : ByteArray) (k : Nat) (h : k < ss.length) (he : (ss[k].toList == x.toList) = true) : inB ss x = true := by
  unfold inB
  rw [List.any_eq_true]
  exact ⟨ss[k], List.getElem_mem h, he⟩
set_option maxHeartbeats 800000 in
set_option maxRecDepth 100000 in
theorem refIn_any (a : Option Addr) (len cap : Nat) (ss : List ByteArray) (x : ByteArray) (w : World) (hsl : SlN w a len ss) (hlm : len ≤ 1000000) :
    Calls Tryd.prog 95 #[.slice a len cap, .string x] w fun e w' => e = .returned (.bool (inB ss x)) ∧ w = w' := by
  have HSL := Lib.hid hsl.2
  have HL := Lib.hid hsl.1
  clear hsl
  go_enter Tryd.func95, Tryd.ntmps95
  go_wp2
  go_loop [5] (fun i => ∃ (k : Nat), k ≤ len ∧ i = .int .i64 (k : Int) ∧ inB (ss.take k) x = false) (fun i => len - (intOf i).toNat)
  case atStart => exact ⟨0, Nat.zero_le _, rfl, rfl⟩
  case round =>
    obtain ⟨k, hk, rfl, heq⟩ := hrel
    have HE := Lib.hid heq
    clear heq
    by_cases hlt : k < len
    · obtain ⟨b, off, rfl, hcell⟩ := HSL.out (by omega)
      have hkn : k < ss.length := by rw [HL.out]; exact hlt
      have hc := hcell k hkn
      have HT := Lib.hid (in_take ss x k hkn)
      have HH := Lib.hid (in_hit ss x k hkn)
      clear hcell
      generalize ss[k] = s at hc HT HH
      cases hq : (s.toList == x.toList) with
      | true =>
        have HR := Lib.hid (HH.out hq)
        go_wp2
        go_ret
        exact ⟨ret_b2 HR.out.symm, rfl⟩
      | false =>
        have HR := Lib.hid (HT.out.trans (by rw [HE.out, hq, Bool.or_false]))
        go_wp2
        go_round
        case rel => exact ⟨k + 1, by omega, by go_num, HR.out⟩
        case measure => simp [intOf]; omega
    · have HR := Lib.hid (show inB ss x = false by rw [← HE.out, List.take_of_length_le (by rw [HL.out]; omega)])
      go_wp2
      go_ret
      exact ⟨ret_b2 HR.out.symm, rfl⟩
end Go.Proofs.YtpjpegmjcgkonaaDoor

namespace Go.Proofs.YtpjpegmjcgkonaaDoor
open Go.RowKit

theorem new_one (w : World) (o : Obj) : (w.alloc o).drew.heap[w.heap.size]? = some o := (MapKept.heap_alloc w o).1
theorem new_two (w : World) (o p : Obj) : ((w.alloc o).alloc p).drew.heap[w.heap.size]? = some o ∧ ((w.alloc o).alloc p).drew.heap[w.heap.size + 1]? = some p := by
  constructor
  · show ((w.heap.push o).push p)[w.heap.size]? = _
    rw [Array.getElem?_push]
    simp
  · show ((w.heap.push o).push p)[w.heap.size + 1]? = _
    rw [Array.getElem?_push]
    simp
theorem bel_one (w : World) (o : Obj) : Below w.heap.size w (w.alloc o).drew := ((Below.refl _ w).alloc (Nat.le_refl _) o).drew
theorem bel_two (w : World) (o p : Obj) : Below w.heap.size w ((w.alloc o).alloc p).drew := (((Below.refl _ w).alloc (Nat.le_refl _) o).alloc (by simp) p).drew
theorem siz_one (w : World) (o : Obj) : w.heap.size < (w.alloc o).drew.heap.size := by show _ < (w.heap.push o).size; simp
theorem siz_two (w : World) (o p : Obj) : w.heap.size + 1 < ((w.alloc o).alloc p).drew.heap.size := by show _ < ((w.heap.push o).push p).size; simp
theorem siz_old (w : World) (o p : Obj) : w.heap.size < ((w.alloc o).alloc p).drew.heap.size := Nat.lt_of_succ_lt (siz_two w o p)
theorem own_neN {p q : Nat} (h : p ≠ q) (n c : Nat) : some p ≠ (Value.slice (some ⟨q, 0, none⟩) n c).ownBlock := fun e => h (by simpa [Value.ownBlock] using e)

set_option maxRecDepth 100000 in
set_option maxHeartbeats 4000000 in
theorem refWith_any (a : Option Addr) (len cap : Nat) (ss : List ByteArray) (x : ByteArray) (w : World) (hsl : SlN w a len ss) (hlm : len ≤ 100000) (hlc : len ≤ cap) (hcm : cap ≤ maxLen) :
    Calls Tryd.prog 74 #[.slice a len cap, .string x] w (RetTS w (withL ss x)) := by
  cases hq : inB ss x with
  | true =>
    have HQ := Lib.hid hq
    have HW := Lib.hid (with_yes hq)
    have HS := Lib.hid hsl
    clear hq hsl
    go_enter Tryd.func74, Tryd.ntmps74
    go_wp2_with fail
    refine (refIn_any a len cap ss x _ HS.out (by omega)).mono ?_
    rintro e w' ⟨rfl, rfl⟩
    rw [HQ.out]
    go_wp2
    go_ret
    exact ⟨_, rfl, by rw [HW.out]; exact HS.out.ts hlc hcm, Below.refl _ _⟩
  | false =>
    have HQ := Lib.hid hq
    have HW := Lib.hid (with_no hq)
    have HS := Lib.hid hsl
    have hkl : lessN ss x ≤ len := by have := lessN_le ss x; rw [hsl.1] at this; exact this
    have hl := hsl.1
    clear hq hsl
    obtain ⟨K, hK⟩ : ∃ K, K = lessN ss x := ⟨_, rfl⟩
    have HL := Lib.hid (refLess_any a len cap ss x w HS.out (by omega))
    rw [← hK] at HL HW hkl
    clear hK
    have e1 := slice_to a len cap K (by omega)
    have e2 := slice_from a len cap K hkl
    have hk0 : 0 ≤ (K : Int) := by omega
    have hk2 : (K : Int) ≤ (len : Int) := by omega
    have HT := Lib.hid (show (ss.take K).length = K by rw [List.length_take, hl]; omega)
    clear hl
    go_enter Tryd.func74, Tryd.ntmps74
    go_wp2_with fail
    refine (refIn_any a len cap ss x _ HS.out (by omega)).mono ?_
    rintro e w' ⟨rfl, rfl⟩
    rw [HQ.out]
    go_wp2_with fail
    refine HL.out.mono ?_
    rintro e w' ⟨rfl, rfl⟩
    go_wp2_with fail
    go_region_law (first
      | ((refine step_appg ?_ (.tmp 13) (.tmp 16) ?_ w.heap.size w ?_ ?_ (.slice (some ⟨w.heap.size, 0, none⟩) 0 0) [] ?_ (own_zero_at ?_ (Nat.le_refl _)) a K cap (ss.take K) ?_ ((HS.out.upto K hkl).later ?_) ?_ ?_; (rfl); (rfl); (first | exact bel_one _ _ | exact bel_two _ _ _); (first | exact Nat.le_of_lt (siz_one _ _) | exact Nat.le_of_lt (siz_old _ _ _)); (rfl); (first | exact new_one _ _ | exact (new_two _ _ _).1 | exact (new_two _ _ _).2); (rfl); (first | exact bel_one _ _ | exact bel_two _ _ _); (simp only [List.length_nil]; omega); intro v1 w1 HO1 HB1 HZ1 HG1))
      | ((refine step_appg ?_ (.tmp 13) (.tmp 16) ?_ w.heap.size w ?_ ?_ (.slice (some ⟨w.heap.size + 1, 0, none⟩) 0 0) [] ?_ (own_zero_at ?_ (Nat.le_succ _)) a K cap (ss.take K) ?_ ((HS.out.upto K hkl).later ?_) ?_ ?_; (rfl); (rfl); (first | exact bel_one _ _ | exact bel_two _ _ _); (first | exact Nat.le_of_lt (siz_one _ _) | exact Nat.le_of_lt (siz_old _ _ _)); (rfl); (first | exact new_one _ _ | exact (new_two _ _ _).1 | exact (new_two _ _ _).2); (rfl); (first | exact bel_one _ _ | exact bel_two _ _ _); (simp only [List.length_nil]; omega); intro v1 w1 HO1 HB1 HZ1 HG1))
      | ((refine step_appg ?_ (.tmp 17) (.tmp 19) ?_ w.heap.size w (HB1.out.alloc HZ1.out _) ?_ v1 (ss.take K) ?_ (HO1.out.alloc _) (some ⟨w1.heap.size, 0, none⟩) 1 1 [x] ?_ (sl_one _ x) ?_ ?_; (rfl); (rfl); (have := HZ1.out; simp; omega); (rfl); (rfl); (rw [HT.out]; omega); intro v2 w2 HO2 HB2 HZ2 HG2))
      | ((refine step_appg ?_ (.tmp 17) (.tmp 19) ?_ w.heap.size w HB1.out HZ1.out v1 (ss.take K) ?_ HO1.out (some ⟨w.heap.size + 1, 0, none⟩) 1 1 [x] ?_ (sl_one_at ((HG1.out.block _ (siz_two _ _ _) (own_neN ?_ _ _)).trans ?_)) ?_ ?_; (rfl); (rfl); (rfl); (rfl); (omega); (first | exact new_one _ _ | exact (new_two _ _ _).1 | exact (new_two _ _ _).2); (rw [HT.out]; omega); intro v2 w2 HO2 HB2 HZ2 HG2))
      | ((refine step_appg ?_ (.tmp 17) (.tmp 19) ?_ w.heap.size w HB1.out HZ1.out v1 (ss.take K) ?_ HO1.out (some ⟨w.heap.size, 0, none⟩) 1 1 [x] ?_ (sl_one_at ((HG1.out.block _ (siz_old _ _ _) (own_neN ?_ _ _)).trans ?_)) ?_ ?_; (rfl); (rfl); (rfl); (rfl); (omega); (first | exact new_one _ _ | exact (new_two _ _ _).1 | exact (new_two _ _ _).2); (rw [HT.out]; omega); intro v2 w2 HO2 HB2 HZ2 HG2))
      | ((refine step_appg ?_ (.tmp 20) (.tmp 23) ?_ w.heap.size w HB2.out HZ2.out v2 (ss.take K ++ [x]) ?_ HO2.out (cutA a cap K) (len - K) (cap - K) (ss.drop K) ?_ ((HS.out.cut cap K hkl hlc).later HB2.out) ?_ ?_; (rfl); (rfl); (rfl); (rfl); (rw [List.length_append, HT.out]; simp; omega); intro v3 w3 HO3 HB3 HZ3 HG3)))
    all_goals go_wp2
    all_goals go_ret
    all_goals exact ⟨v3, rfl, by have := TS.of_own HO3.out; rw [HW.out]; simpa using this, HB3.out⟩

end Go.Proofs.YtpjpegmjcgkonaaDoor

namespace Go.Proofs.YtpjpegmjcgkonaaDoor
open Go.RowKit Vi Go.Maps Go.Sort Go.Shelf

theorem le_blS (x y : List UInt8) : decide (x ≤ y) = !Op.bytesLess y x := by
  rw [Go.Proofs.bytesLess_eq]
  by_cases h : y < x
  · rw [decide_eq_true h, decide_eq_false (by intro q; exact q h)]; rfl
  · rw [decide_eq_false h, decide_eq_true (show x ≤ y from h)]; rfl
theorem sort_leS (ss : List (List UInt8)) : (ss.mergeSort fun x y => decide (x ≤ y)).Pairwise fun a b => Op.bytesLess b a = false := by
  have h := List.pairwise_mergeSort (le := fun x y : List UInt8 => decide (x ≤ y))
    (by
      intro a b c h1 h2
      rw [le_blS] at h1 h2 ⊢
      rw [Bool.not_eq_true'] at h1 h2 ⊢
      cases q : Op.bytesLess c a with
      | false => rfl
      | true =>
        cases q2 : Op.bytesLess a b with
        | true => rw [bl_trans _ _ _ q q2] at h2; cases h2
        | false => rw [bl_total _ _ q2 h1] at q; rw [q] at h2; cases h2)
    (by
      intro a b
      rw [le_blS, le_blS]
      cases q : Op.bytesLess b a with
      | false => rfl
      | true =>
        cases q2 : Op.bytesLess a b with
        | false => rfl
        | true => have := bl_trans _ _ _ q q2; rw [bl_irrefl] at this; cases this) ss
  exact h.imp (fun {a b} q => by rw [le_blS] at q; simpa using q)
def baS (x : List UInt8) : ByteArray := ⟨x.toArray⟩
theorem baS_l (x : List UInt8) : (baS x).toList = x := by rw [ByteArray.toList_eq]; rfl
theorem baS_of (s : ByteArray) : baS s.data.toList = s := rfl
/-- all names, rising -/
def nmsL (L : List Ob) : List ByteArray := (L.map (·.1)).foldl withL []
theorem nms_sorted (L : List Ob) (hn : (L.map (·.1)).Nodup) (ss : List (List UInt8)) (hp : ss.Perm (L.map fun x => x.1.data.toList)) :
    (ss.mergeSort fun x y => decide (x ≤ y)).map baS = nmsL L := by
  have hnd : (L.map fun x => x.1.data.toList).Nodup := by
    have e : (L.map fun x => x.1.data.toList) = (L.map (·.1)).map fun s => s.data.toList := by rw [List.map_map]; rfl
    rw [e]
    exact List.Pairwise.map _ (fun a b h q => h (ByteArray.ext (Array.ext' q))) hn
  have hnm : (ss.mergeSort fun x y => decide (x ≤ y)).Nodup := (List.mergeSort_perm ss _).nodup_iff.2 (hp.nodup_iff.2 hnd)
  refine rise_uniq _ _ ?_ (rise_fold _ _ List.Pairwise.nil) fun t => ?_
  · refine List.pairwise_map.2 ((List.pairwise_and_iff.2 ⟨sort_leS ss, hnm⟩).imp fun {a b} h => ?_)
    rw [baS_l, baS_l]
    cases q : Op.bytesLess a b with
    | true => rfl
    | false => exact absurd (bl_total _ _ q h.1) h.2
  · unfold nmsL
    rw [mem_fold, List.mem_map, List.mem_map]
    constructor
    · rintro ⟨x, hx, rfl⟩
      have hx2 := (hp.mem_iff).1 ((List.mergeSort_perm ss _).mem_iff.1 hx)
      obtain ⟨y, hy, rfl⟩ := List.mem_map.1 hx2
      exact .inr ⟨y, hy, rfl⟩
    · rintro (h | ⟨y, hy, rfl⟩)
      · cases h
      · exact ⟨y.1.data.toList, (List.mergeSort_perm ss _).mem_iff.2 ((hp.mem_iff).2 (List.mem_map.2 ⟨y, hy, rfl⟩)), rfl⟩
/-- what a map from texts holds, as its keys -/
theorem MapI.keys {w : World} {B k : Nat} {L : List Ob} (h : MapI w B k (posO L)) (hn : (L.map (·.1)).Nodup) (hz : ∀ x ∈ L, x.1.size ≤ maxLen) :
    ∃ (nn : Nat) (D : DataW Nat), w.ownsMap Tryd.prog 9 (plainElem Tryd.prog 3) B nn D ∧ Maps.size D ≤ k ∧ ((L.map fun x => x.1.data.toList)).Perm (strKeys D) := by
  obtain ⟨nn, D, h1, h2, h3, h4⟩ := h
  refine ⟨nn, D, h1, Nat.le_trans h1.size_le h2, ?_⟩
  obtain ⟨es, hD, hpw, _⟩ := h1.entries (string_keyed Tryd.underlying9)
  obtain ⟨es', hD', hko⟩ := h1.keysOf
  have hle := strKeys_le h1 Tryd.underlying9
  obtain rfl : es = es' := by rw [hD] at hD'; simpa using hD'
  subst hD
  refine perm_strKeys hpw (fun p hp => by obtain ⟨v, hv⟩ := hko p hp; obtain ⟨x, _, hx, _⟩ := Maps.keyOf_str Tryd.underlying9 hv; exact ⟨x, hx⟩) ?_ fun x => ?_
  · have e : (L.map fun x => x.1.data.toList) = (L.map (·.1)).map fun s => s.data.toList := by rw [List.map_map]; rfl
    rw [e]
    exact List.Pairwise.map _ (fun a b h q => h (ByteArray.ext (Array.ext' q))) hn
  · have hin : ∀ s : ByteArray, (posO L s).isSome = true ↔ ∃ y ∈ L, y.1 = s := fun s => by
      unfold posO
      rw [Option.isSome_map]
      cases q : L.findIdx? (fun x => x.1.toList == s.toList) with
      | none =>
        rw [List.findIdx?_eq_none_iff] at q
        simp only [Option.isSome_none]
        constructor
        · intro e; cases e
        · rintro ⟨y, hy, rfl⟩
          have := q y hy
          simp at this
      | some i =>
        rw [List.findIdx?_eq_some_iff_getElem] at q
        obtain ⟨hi, h5, _⟩ := q
        simp only [Option.isSome_some, true_iff]
        exact ⟨L[i], List.getElem_mem hi, ba_eq.1 h5⟩
    constructor
    · intro hx
      obtain ⟨y, hy, rfl⟩ := List.mem_map.1 hx
      rw [(h4 y.1 (hz y hy)).1]
      exact (hin y.1).2 ⟨y, hy, rfl⟩
    · intro hx
      have hlen : x.length ≤ maxLen := by
        have : x ∈ strKeys (.map es : DataW Nat) := by
          rw [has_eq, List.any_eq_true] at hx
          obtain ⟨p, hp, hs⟩ := hx
          obtain ⟨v, hv⟩ := hko p hp
          obtain ⟨a, _, ha, _⟩ := Maps.keyOf_str Tryd.underlying9 hv
          refine List.mem_map.2 ⟨p, hp, ?_⟩
          rw [ha] at hs ⊢
          simpa [Lit.sameKey, strOf] using hs
        exact hle x this
      have h5 := (h4 (baS x) (by show x.toArray.size ≤ maxLen; simpa using hlen)).1
      rw [show (baS x).data.toList = x from rfl, hx] at h5
      obtain ⟨y, hy, e⟩ := (hin (baS x)).1 h5.symm
      exact List.mem_map.2 ⟨y, hy, by rw [e]; rfl⟩
theorem flat_enc (l : List (List UInt8)) : l.map Go.Proofs.encStr = flat stC (l.map baS) := by
  induction l with
  | nil => rfl
  | cons x r ih =>
    rw [List.map_cons, List.map_cons, ih]
    rfl
theorem sortsS (m : Nat) : AnyZ.SortsIn Tryd.prog Tryd.sortedL_ren Fence.wide m :=
  ⟨fun blk off cap ss W hH hblk hsz => callsIn_wide.2 (AnyM.slices_Sort_string Tryd.sortL blk off cap ss W hH hblk hsz),
   fun p cap W => callsIn_wide.2 (AnyM.slices_Sort_string_none Tryd.sortL p cap W)⟩
theorem keysS_any (mb : Option Nat) (W : World) : Calls Tryd.prog 54 #[.map mb] W fun e w' => e = .returned (.func (.func 80) #[] #[.pointer (some ⟨W.heap.size, 0, none⟩)]) ∧ w' = W.alloc (.cells #[.map mb] 52) :=
  (callsIn_wide (n := 5)).1 (AnyZ.keys_in Tryd.keysL Fence.wide 5 trivial rfl mb W)
set_option maxHeartbeats 1000000 in
theorem sortedS_any (b nn : Nat) (D0 : DataW Nat) (R : Value → Option (DataW Nat × List MemPlace)) (w : World) (hown : w.ownsMap Tryd.prog 9 R b nn D0) (hmax : Maps.size D0 ≤ maxLen) (hbytes : Maps.size D0 * 16 ≤ 140737488355328) :
    Calls Tryd.prog 53 #[.func (.func 80) #[] #[.pointer (some ⟨w.heap.size, 0, none⟩)]] (w.alloc (.cells #[.map (some b)] 52)) fun e w' => ∃ (v : Value) (ss : List (List UInt8)), e = .returned v ∧ ss.Perm (strKeys D0) ∧
      w'.ownsRow (w.alloc (.cells #[.map (some b)] 52)).heap.size 9 1 v ss.length ((ss.mergeSort (fun x y => decide (x ≤ y))).map encStr) ∧ Below (w.alloc (.cells #[.map (some b)] 52)).heap.size (w.alloc (.cells #[.map (some b)] 52)) w' := by
  have hbl := hown.lt
  have hseq : SeqGives Fence.wide 2 Tryd.prog 80 #[.pointer (some ⟨w.heap.size, 0, none⟩)] encStr (fun ss => ss.Perm (strKeys D0)) (Maps.size D0) (w.alloc (.cells #[.map (some b)] 52)) :=
    AnyZ.keys_gives (ρ := Tryd.keysL_ren) { Tryd.keysL with } Fence.wide _ trivial rfl (by omega) w.heap.size b nn D0 _ (by simp) (by simp) (by
      obtain ⟨es, clock, hb, Ft, hs, hD⟩ := hown
      exact ⟨es, clock, (Below.heap_alloc _ _ b hbl).trans hb, Ft, hs, hD⟩)
  have cS := AnyZ.sorted_in Tryd.sortedL Fence.wide 5 trivial trivial trivial trivial rfl (by omega) (sortsS _) (enters_of Tryd.func79 (by kernel_rfl) rfl) 80 #[.pointer (some ⟨w.heap.size, 0, none⟩)] trivial (enters_of Tryd.func80 (by kernel_rfl) rfl) _ _ hmax hbytes _ hseq
  change CallsIn _ _ Tryd.prog 53 _ _ _ at cS
  refine ((callsIn_wide (n := 5)).1 cS).mono ?_
  rintro e w' ⟨v, ss, rfl, hS, hrow, _, hb⟩
  exact ⟨v, ss, rfl, hS, hrow, hb⟩
set_option maxRecDepth 100000 in
set_option maxHeartbeats 2000000 in
theorem snames_any (D : Nat) (L : List Ob) (c0 c1 : ByteArray) (k : Nat) (w : World) (h : SK D L c0 c1 k w) (hn : (L.map (·.1)).Nodup) (hz : ∀ x ∈ L, x.1.size ≤ maxLen) (hk : k ≤ 1000000) :
    Calls Tryd.prog 25 #[.pointer (some ⟨D, 0, none⟩)] w (RetTx (nmsL L) w) := by
  obtain ⟨oa, on, oc, B, h1, h2, h3⟩ := h
  have HM := Lib.hid (smade_any D oa on oc (some B) c0 c1 w h1)
  obtain ⟨x0, x1, x2, x3⟩ := sh_cells h1
  obtain ⟨nn, D0, m1, m2, m3⟩ := h3.keys hn hz
  have HS := Lib.hid (sortedS_any B nn D0 _ w m1 (by unfold maxLen; omega) (by omega))
  have HP := Lib.hid m3
  have HN := Lib.hid hn
  have HK := Lib.hid (keysS_any (some B) w)
  clear h1 h2 h3 x0 x2 x3 m1 m2 m3 hn hz hk
  go_enter Tryd.func25, Tryd.ntmps25
  go_wp2_with fail
  refine HM.out.mono ?_
  rintro e w' ⟨rfl, rfl⟩
  go_wp2_with fail
  refine HK.out.mono ?_
  rintro e w' ⟨rfl, rfl⟩
  go_wp2_with fail
  refine HS.out.mono ?_
  rintro e w2 ⟨v, ss, rfl, hS, hrow, hb⟩
  have HR := Lib.hid (show OwX stC 1 9 w2 w.heap.size v (nmsL L) by
    have hl : ((ss.mergeSort fun x y => decide (x ≤ y)).map baS) = nmsL L := nms_sorted L HN.out ss (hS.trans HP.out.symm)
    rw [← hl]
    unfold OwX
    rw [← flat_enc, List.length_map, List.length_mergeSort]
    exact ownsRow_base_a hrow (by simp))
  have HB := Lib.hid (((Below.refl w.heap.size w).alloc (Nat.le_refl _) (.cells #[.map (some B)] 52)).trans (hb.mono (by simp)))
  clear hS hrow hb
  go_wp2_with fail
  go_ret
  exact ⟨v, rfl, HR.out, HB.out⟩
end Go.Proofs.YtpjpegmjcgkonaaDoor

namespace Go.Proofs.YtpjpegmjcgkonaaDoor
open Go.RowKit Vi

/-- where a name stands, but for the first j behind n -/
def cutF (L : List Ob) (n j : Nat) (s : ByteArray) : Option Int := if ((L.drop n).take j).any (fun x => x.1.toList == s.toList) = true then none else posO L s
theorem cutF_zero (L : List Ob) (n : Nat) (s : ByteArray) : cutF L n 0 s = posO L s := by unfold cutF; simp
theorem cutF_step (L : List Ob) (n j : Nat) (x : Ob) (hx : (L.drop n)[j]? = some x) (s : ByteArray) : delF (cutF L n j) x.1 s = cutF L n (j + 1) s := by
  obtain ⟨hj, rfl⟩ := List.getElem?_eq_some_iff.1 hx
  unfold delF cutF
  rw [List.take_succ_eq_append_getElem hj, List.any_append, List.any_cons, List.any_nil, Bool.or_false]
  cases (List.any (List.take j (List.drop n L)) fun x => x.1.toList == s.toList) <;> cases ((List.drop n L)[j].1.toList == s.toList) <;> rfl
theorem cutF_end (L : List Ob) (n : Nat) (hn : (L.map (·.1)).Nodup) (s : ByteArray) : cutF L n (L.drop n).length s = posO (L.take n) s := by
  unfold cutF
  rw [List.take_length]
  unfold posO
  have e := List.take_append_drop n L
  cases q : (L.drop n).any (fun x => x.1.toList == s.toList) with
  | true =>
    rw [if_pos rfl]
    obtain ⟨y, hy, h1⟩ := List.any_eq_true.1 q
    have hno : (L.take n).findIdx? (fun x => x.1.toList == s.toList) = none := by
      rw [List.findIdx?_eq_none_iff]
      intro x hx
      cases q2 : (x.1.toList == s.toList) with
      | false => rfl
      | true =>
        exfalso
        rw [← e, List.map_append] at hn
        have := (List.nodup_append.1 hn).2.2 x.1 (List.mem_map.2 ⟨x, hx, rfl⟩) y.1 (List.mem_map.2 ⟨y, hy, rfl⟩)
        exact this ((ba_eq.1 q2).trans (ba_eq.1 h1).symm)
    rw [hno]
    rfl
  | false =>
    rw [if_neg (by simp)]
    have hno : (L.drop n).findIdx? (fun x => x.1.toList == s.toList) = none := by
      rw [List.findIdx?_eq_none_iff]
      intro x hx
      cases q2 : (x.1.toList == s.toList) with
      | false => rfl
      | true => rw [List.any_eq_false] at q; exact absurd q2 (q x hx)
    rw [show L.findIdx? (fun x => x.1.toList == s.toList) = (L.take n ++ L.drop n).findIdx? (fun x => x.1.toList == s.toList) by rw [e], List.findIdx?_append, hno]
    simp
theorem KB.trans_grown {n B : Nat} {w v W : World} (h : KB n B w v) (g : v.grownBy W (some B)) (hn : n ≤ v.heap.size) : KB n B w W :=
  ⟨g.os.trans h.os, g.tape.trans h.tape, g.output.trans h.output, Nat.le_trans h.size g.size, fun b hb hne => (g.block b (Nat.lt_of_lt_of_le hb hn) (fun e => hne (by injection e with e))).trans (h.block b hb hne)⟩
theorem KB.refl (n B : Nat) (w : World) : KB n B w w := ⟨rfl, rfl, rfl, Nat.le_refl _, fun _ _ _ => rfl⟩
theorem KB.of_below {n B : Nat} {w v W : World} (h : KB n B w v) (k : Below v.heap.size v W) (hn : n ≤ v.heap.size) : KB n B w W :=
  ⟨k.os.trans h.os, k.tape.trans h.tape, k.output.trans h.output, Nat.le_trans h.size k.size, fun b hb hne => (k.block b (Nat.lt_of_lt_of_le hb hn)).trans (h.block b hb hne)⟩
theorem RdX.kb {α : Type} {f : α → List Value} {s : Nat} {w W : World} {A : Option Addr} {n m B : Nat} {l : List α} (h : RdX f s w A n l) (k : KB m B w W) (hA : ∀ b o, A = some ⟨b, o, none⟩ → b < m ∧ b ≠ B) : RdX f s W A n l := by
  refine ⟨h.1, fun hp => ?_⟩
  obtain ⟨b, off, rfl, hb, hc⟩ := h.2 hp
  obtain ⟨h1, h2⟩ := hA b off rfl
  exact ⟨b, off, rfl, Nat.lt_of_lt_of_le hb k.size, fun i x j u hx hu => by
    have q := hc i x j u hx hu
    rw [World.cell?_of_block (k.block b h1 h2)]
    exact q⟩
theorem sliceO_full (g N c n : Nat) (h1 : n ≤ c) (W : World) :
    (Instr.slice 51 (.slice (some ⟨g, 0, none⟩) N c) none (some (.int .i64 (n : Int))) (some (.int .i64 (n : Int)))).run Tryd.prog W = .ok (.slice (some ⟨g, 0, none⟩) n n) W := by
  rw [run_slice_hm W _ _ N c und_oo .i64 .i64 n n (by omega) (by omega) (by omega), elem_oo, size_of_ob]
  simp [Result.andThen, sliced, Addr.add]
theorem sliceO_none (W : World) :
    (Instr.slice 51 (.slice none 0 0) none (some (.int .i64 0)) (some (.int .i64 0))).run Tryd.prog W = .ok (.slice none 0 0) W := by
  rw [run_slice_hm W _ _ 0 0 und_oo .i64 .i64 0 0 (by omega) (by omega) (by omega), elem_oo, size_of_ob]
  simp [Result.andThen, sliced]
theorem ks_cut {D B : Nat} {oa : Option Addr} {on oc : Nat} {c0 c1 : ByteArray} {A : Option Addr} {n c : Nat} {d0 d1 : ByteArray} {w v W : World} (hD : D < w.heap.size) (hB : B < w.heap.size)
    (h : w.heap[D]? = some (shO oa on oc (some B) c0 c1)) (hb : KB w.heap.size B w v) (hk : KK [D] v W) (h8 : W.heap[D]? = some (shO A n c (some B) d0 d1)) (hA : ∀ b o, A = some ⟨b, o, none⟩ → InS D w b) : Ks D w W := by
  have _ := hD
  have _ := hB
  refine ⟨hk.os.trans hb.os, hk.tape.trans hb.tape, hk.output.trans hb.output, Nat.le_trans hb.size hk.size, fun b hbl hn => ?_, fun b _ q => ?_⟩
  · rw [hk.block b (Nat.lt_of_lt_of_le hbl hb.size) (fun e => hn (by obtain rfl : b = D := (by simpa using e); exact .inl rfl))]
    exact hb.block b hbl (fun e => hn (by subst e; exact InS.map h))
  · rcases q.cases h8 with q | ⟨o, q⟩ | q
    · subst q; exact .inl rfl
    · exact hA b o q
    · cases q; exact InS.map h
/-- a shelf's objects, cut -/
def cutE (L : List Ob) (n : Int) : Int := if 0 ≤ n ∧ n ≤ (L.length : Int) then 0 else 2
def cutL (L : List Ob) (n : Int) : List Ob := if 0 ≤ n ∧ n ≤ (L.length : Int) then L.take n.toNat else L
def RetCut (D : Nat) (L : List Ob) (c0 c1 : ByteArray) (k : Nat) (n : Int) (w : World) (e : Ending) (w' : World) : Prop := e = .returned (.int .i64 (cutE L n)) ∧ SK D (cutL L n) c0 c1 k w' ∧ Ks D w w'
set_option linter.unusedSimpArgs false in
set_option maxRecDepth 100000 in
set_option maxHeartbeats 4000000 in
theorem scut_any (D : Nat) (L : List Ob) (c0 c1 : ByteArray) (k : Nat) (n : Int) (w : World) (h : SK D L c0 c1 k w) (hn : (L.map (·.1)).Nodup) (hz : ∀ x ∈ L, x.1.size ≤ maxLen) (hl : L.length ≤ 900000) :
    Calls Tryd.prog 26 #[.pointer (some ⟨D, 0, none⟩), .int .i64 n] w (RetCut D L c0 c1 k n w) := by
  have HSK := Lib.hid h
  have HNW := Lib.hid (fun (b : Nat) (q : InS D w b) => h.new q)
  obtain ⟨oa, on, oc, B, h1, h2, h3⟩ := h
  have HM := Lib.hid (smade_any D oa on oc (some B) c0 c1 w h1)
  have HW1 := Lib.hid h1
  have HOG := Lib.hid h2
  obtain ⟨x0, x1, x2, x3⟩ := sh_cells h1
  obtain ⟨A', c', e, hr, hle, hcm⟩ := h2.rd obC_len
  injection e with e1 e2 e3
  subst e1 e2 e3
  have HR := Lib.hid hr
  have HDL := Lib.hid (lt_of_block h1)
  have HBL := Lib.hid h3.lt
  have hDB : D ≠ B := fun e => by
    obtain ⟨nn, Dm, ⟨es, cl, q, _⟩, _⟩ := h3
    rw [← e, h1] at q
    cases q
  have HDB := Lib.hid hDB
  have HM3 := Lib.hid h3
  have HOB := Lib.hid (fun (g : Nat) (e : (Value.slice oa L.length oc).ownBlock = some g) => show g < w.heap.size ∧ g ≠ B ∧ g ≠ D from by
    obtain ⟨q1, cur, q2⟩ := h2.own e
    refine ⟨q1, fun e => ?_, fun e => ?_⟩
    · subst e
      obtain ⟨nn, Dm, ⟨es, cl, q, _⟩, _⟩ := h3
      rw [q2] at q
      cases q
    · subst e
      rw [h1] at q2
      cases q2)
  clear h1 h2 h3 x1 x2 x3 hr hDB
  by_cases q1 : n < 0
  · have t1 : decide (n < 0) = true := decide_eq_true q1
    have HE := Lib.hid (show cutE L n = 2 ∧ cutL L n = L by unfold cutE cutL; rw [if_neg (by omega), if_neg (by omega)]; exact ⟨rfl, rfl⟩)
    go_enter Tryd.func26, Tryd.ntmps26
    go_wp2_with fail
    refine HM.out.mono ?_
    rintro e w' ⟨rfl, rfl⟩
    go_wp2_with fail
    go_ret
    exact ⟨by rw [HE.out.1]; rfl, by rw [HE.out.2]; exact HSK.out, Ks.refl _ _⟩
  have t1 : decide (n < 0) = false := decide_eq_false q1
  by_cases q2 : (L.length : Int) < n
  · have t2 : decide (n > (L.length : Int)) = true := decide_eq_true q2
    have t3 : decide ((L.length : Int) < n) = true := decide_eq_true q2
    have HE := Lib.hid (show cutE L n = 2 ∧ cutL L n = L by unfold cutE cutL; rw [if_neg (by omega), if_neg (by omega)]; exact ⟨rfl, rfl⟩)
    go_enter Tryd.func26, Tryd.ntmps26
    go_wp2_with fail
    refine HM.out.mono ?_
    rintro e w' ⟨rfl, rfl⟩
    go_wp2_with fail
    go_ret
    exact ⟨by rw [HE.out.1]; rfl, by rw [HE.out.2]; exact HSK.out, Ks.refl _ _⟩
  have t2 : decide (n > (L.length : Int)) = false := decide_eq_false q2
  have t3 : decide ((L.length : Int) < n) = false := decide_eq_false q2
  obtain ⟨K, rfl⟩ : ∃ K : Nat, n = (K : Int) := ⟨n.toNat, by omega⟩
  have hK : K ≤ L.length := by omega
  have t4 : decide (L.length < K) = false := decide_eq_false (by omega)
  have HE := Lib.hid (show cutE L (K : Int) = 0 ∧ cutL L (K : Int) = L.take K by unfold cutE cutL; rw [if_pos (by omega), if_pos (by omega)]; exact ⟨rfl, by simp⟩)
  have hsl := fun W => sliceO_from oa L.length oc K hK W
  have HRC := Lib.hid (HR.out.cutO oc K hK hle)
  have HAB := Lib.hid (show ∀ b o, cutO oa oc K = some ⟨b, o, none⟩ → b < w.heap.size ∧ b ≠ B from fun b o e => by
    cases oa with
    | none => unfold cutO at e; split at e <;> cases e
    | some a =>
      have hb : (some a : Option Addr) = some a := rfl
      rcases HOG.out.form with ⟨q, _⟩ | ⟨g, c, q⟩
      · cases q
      · injection q with q _ _
        injection q with q
        subst q
        have e2 : b = g := by
          unfold cutO at e
          split at e
          · injection e with e; injection e with e _ _; exact e.symm
          · simp [Addr.add_lit] at e; exact e.1.symm
        subst e2
        exact ⟨(HOB.out _ rfl).1, (HOB.out _ rfl).2.1⟩)
  generalize cutO oa oc K = A2 at hsl HRC HAB
  obtain ⟨M, hM⟩ : ∃ M, M = L.length - K := ⟨_, rfl⟩
  obtain ⟨l2, hl2⟩ : ∃ l2, l2 = L.drop K := ⟨_, rfl⟩
  have HL2 := Lib.hid hl2
  rw [← hM] at hsl HRC
  rw [← hl2] at HRC
  have hMb : M ≤ 900000 := by omega
  have hMl : M = l2.length := by rw [hl2, List.length_drop]; exact hM
  have HML := Lib.hid hMl
  have HMb := Lib.hid (show M ≤ 9223372036854775807 by omega)
  have HCZ := Lib.hid (HOG.out.cut obC_len K hK)
  have HKL := Lib.hid hK
  have HLL := Lib.hid hl
  have HNn := Lib.hid hn
  have HZz := Lib.hid hz
  clear hl2 hM q1 q2 hMl hn hz hK hl hle hcm
  go_enter Tryd.func26, Tryd.ntmps26
  go_wp2_with fail
  refine HM.out.mono ?_
  rintro e w' ⟨rfl, rfl⟩
  go_wp2_with fail
  go_loopw [28] (fun i wr => ∃ j : Nat, i = .int .i64 (j : Int) ∧ j ≤ M ∧ wr.heap[D]? = some (shO oa L.length oc (some B) c0 c1) ∧ MapI wr B k (cutF L K j) ∧ KB w.heap.size B w wr) (fun i _ => M - (intOf i).toNat)
  case atStart => exact ⟨0, rfl, Nat.zero_le _, HW1.out, HM3.out.of (fun s => (cutF_zero L K s).symm), KB.refl _ _ _⟩
  case round =>
    obtain ⟨j, rfl, hj, hd, hm, hb⟩ := hrel
    have HD := Lib.hid hd
    have HMP := Lib.hid hm
    have HB := Lib.hid hb
    clear hd hm hb x0 hsl
    by_cases hlt : j < M
    · have hd1 : decide ((j : Int) < (M : Int)) = true := decide_eq_true (by omega)
      have hi0 : (0 : Int) ≤ (j : Int) := by omega
      have hs1 : IntKind.i64.wrap ((j : Int) + 1) = (j : Int) + 1 := IntWalk.i64_in _ (by omega)
      obtain ⟨ba, oa2, hl1, rfl, hba, hca⟩ := (HRC.out.kb HB.out HAB.out).at hlt
      have g0 : wr.cell? ⟨ba, oa2 + j * 2, none⟩ = some (.string (l2[j]'hl1).1) := by have q := hca 0 _ rfl; simpa using q
      have g1 := hca 1 (.string (l2[j]'hl1).2) rfl
      obtain ⟨x, hx⟩ : ∃ x, l2[j]? = some x := ⟨_, List.getElem?_eq_getElem hl1⟩
      have hx2 : l2[j]'hl1 = x := by rw [List.getElem?_eq_getElem hl1] at hx; exact Option.some.inj hx
      rw [hx2] at g0 g1
      have HS := Lib.hid (fun s => cutF_step L K j x (by rw [← HL2.out]; exact hx) s)
      have HXS := Lib.hid (show x.1.size ≤ maxLen from HZz.out x (List.mem_of_mem_drop (by rw [← HL2.out]; exact List.mem_of_getElem? hx)))
      clear hca hba hx hx2 hl1
      obtain ⟨s, t⟩ := x
      have HB0 := Lib.hid ((Below.refl wr.heap.size wr).alloc (Nat.le_refl _) (.cells #[.string ⟨#[]⟩, .string ⟨#[]⟩] 81 (0, 0)))
      have HN0 := Lib.hid (blk_new wr (.cells #[.string ⟨#[]⟩, .string ⟨#[]⟩] 81 (0, 0)))
      go_wp2_with (refine wpList_store_rowY rfl 81 (.tmp 6) (.tmp 31) rfl wr.heap.size #[.string s, .string t] rfl rfl 81 _ HN0.out (by kernel_rfl) rfl (by simp [Value.oneCell']) wr.heap.size wr HB0.out (Nat.le_refl _) ?_)
      intro w6 hbk hoth hbel _
      have HX6 := Lib.hid hbk.out
      have HD6 := Lib.hid (blk_below HD.out hbel.out)
      have HM6 := Lib.hid (HMP.out.kept (hbel.out.block B HMP.out.lt))
      have HB6 := Lib.hid (HB.out.of_below hbel.out HB.out.size)
      have HYB := Lib.hid (show w.heap.size ≤ wr.heap.size from HB.out.size)
      have HYL := Lib.hid (show wr.heap.size < w6.heap.size from lt_of_block HX6.out)
      clear hbk hoth hbel HB0 HN0 HB g0 g1 HMP HD
      generalize wr.heap.size = y at *
      go_upto_region 8 with (fail)
      have HX6 := Lib.hid (show w6.drew.heap[y]? = some (.cells #[.string s, .string t] 81 (0, 0)) from HX6.out)
      have HD6 := Lib.hid (show w6.drew.heap[D]? = some (shO oa L.length oc (some B) c0 c1) from HD6.out)
      have HM6 := Lib.hid (HM6.out.kept (w' := w6.drew) rfl)
      have HB6 := Lib.hid HB6.out.drew2
      have HYL := Lib.hid (show y < w6.drew.heap.size from HYL.out)
      refine wp_region_L_drew (S := fun _ W => W.heap[y]? = some (.cells #[.string s, .string t] 81 (0, 0)) ∧ W.heap[D]? = some (shO oa L.length oc (some B) c0 c1)) (by kernel_rfl) ⟨HX6.out, HD6.out⟩ (fun hS hC => ?_)
      generalize w6.drew = v0 at *
      obtain ⟨v1, hrun, hm1, hg1⟩ := HM6.out.del s HXS.out _
      refine wpAnyL_take (i := 0) (oi := { dst := some 32, op := .move (.tmp 0), type := _, pos := _, after := _, guard := none }) (v := ?_) rfl (by kernel_rfl) (by kernel_rfl) (by kernel_rfl) (fun _ _ _ h => h) (fun _ _ => Iff.rfl) hC (Or.inl ⟨by rfl, ?_⟩) hS (fun hC hS => ?_)
      rotate_left
      · intro W9 hSw; skip; go_simp; try (with_reducible rfl)
      try simp only [Act.put, List.setIfInBounds_toArray, List.set_cons_zero, List.set_cons_succ]
      refine wpAnyL_take (i := 1) (oi := { dst := some 33, op := .nilCheck (.tmp 32), type := _, pos := _, after := _, guard := none }) (v := ?_) rfl (by kernel_rfl) (by kernel_rfl) (by kernel_rfl) (fun _ _ _ h => h) (fun _ _ => Iff.rfl) hC (Or.inl ⟨by rfl, ?_⟩) hS (fun hC hS => ?_)
      rotate_left
      · intro W9 hSw; skip; go_simp; try (with_reducible rfl)
      try simp only [Act.put, List.setIfInBounds_toArray, List.set_cons_zero, List.set_cons_succ]
      refine wpAnyL_take (i := 2) (oi := { dst := some 34, op := .fieldAddr 55 (.tmp 33) 1, type := _, pos := _, after := _, guard := none }) (v := ?_) rfl (by kernel_rfl) (by kernel_rfl) (by kernel_rfl) (fun _ _ _ h => h) (fun _ _ => Iff.rfl) hC (Or.inl ⟨by rfl, ?_⟩) hS (fun hC hS => ?_)
      rotate_left
      · intro W9 hSw; skip; go_simp; try (with_reducible rfl)
      try simp only [Act.put, List.setIfInBounds_toArray, List.set_cons_zero, List.set_cons_succ]
      refine wpAnyL_take (i := 3) (oi := { dst := some 35, op := .load 52 (.tmp 34), type := _, pos := _, after := _, guard := none }) (v := ?_) rfl (by kernel_rfl) (by kernel_rfl) (by kernel_rfl) (fun _ _ _ h => h) (fun _ _ => Iff.rfl) hC (Or.inl ⟨by rfl, ?_⟩) hS (fun hC hS => ?_)
      rotate_left
      · intro W9 hSw; have q1 := (cell_of_row _ _ 1 _ _ _ (hSw.choose_spec.2.2.2)).trans rfl; go_simp; try (with_reducible rfl)
      try simp only [Act.put, List.setIfInBounds_toArray, List.set_cons_zero, List.set_cons_succ]
      refine wpAnyL_take (i := 4) (oi := { dst := some 36, op := .fieldAddr 81 (.tmp 6) 0, type := _, pos := _, after := _, guard := none }) (v := ?_) rfl (by kernel_rfl) (by kernel_rfl) (by kernel_rfl) (fun _ _ _ h => h) (fun _ _ => Iff.rfl) hC (Or.inl ⟨by rfl, ?_⟩) hS (fun hC hS => ?_)
      rotate_left
      · intro W9 hSw; skip; go_simp; try (with_reducible rfl)
      try simp only [Act.put, List.setIfInBounds_toArray, List.set_cons_zero, List.set_cons_succ]
      refine wpAnyL_take (i := 5) (oi := { dst := some 37, op := .load 9 (.tmp 36), type := _, pos := _, after := _, guard := none }) (v := ?_) rfl (by kernel_rfl) (by kernel_rfl) (by kernel_rfl) (fun _ _ _ h => h) (fun _ _ => Iff.rfl) hC (Or.inl ⟨by rfl, ?_⟩) hS (fun hC hS => ?_)
      rotate_left
      · intro W9 hSw; have q0 := (cell_of_row _ _ 0 _ _ _ (hSw.choose_spec.2.2.1)).trans rfl; go_simp; try (with_reducible rfl)
      try simp only [Act.put, List.setIfInBounds_toArray, List.set_cons_zero, List.set_cons_succ]
      refine wpAnyL_ready (rs := [6]) (by kernel_rfl) (by simp) hC ?_
      refine AllReadyL.cons (o := { dst := none, op := .call { callee := .builtin .delete, args := #[.tmp 35, .tmp 37], argTypes := #[52, 9] }, type := _, pos := _, after := _, guard := none }) rfl (fun K9 hK => ?_) ?_
      · skip
        go_simp
        rw [hrun]
        have HX7 := Lib.hid ((hg1.block _ (lt_of_block HX6.out) (fun e => by have e := Option.some.inj e; have := HBL.out; have := HYB.out; omega)).trans HX6.out)
        have HD7 := Lib.hid ((hg1.block _ (lt_of_block HD6.out) (fun e => HDB.out (Option.some.inj e))).trans HD6.out)
        have HM7 := Lib.hid (hm1.of (g := cutF L K (j + 1)) HS.out)
        have HB7 := Lib.hid (HB6.out.trans_grown hg1 HB6.out.size)
        clear hm1 hrun HX6 HD6 HM6 HB6
        refine hK _ _ ⟨HX7.out, HD7.out⟩ (fun hC => ?_)
        clear hK K9
        try simp only [Act.put, List.setIfInBounds_toArray, List.set_cons_zero, List.set_cons_succ]
        refine wpAnyL_done (by kernel_rfl) ?_ _
        clear hS hC
        go_wp2_with fail
        go_roundw
        case rel => exact ⟨j + 1, by go_num, by omega, HD7.out, HM7.out, HB7.out⟩
        case measure => simp [intOf] <;> omega
      exact AllReadyL.nil
    · have hd1 : decide ((j : Int) < (M : Int)) = false := decide_eq_false (by omega)
      obtain rfl : j = M := by omega
      have HMF := Lib.hid (HMP.out.of (g := posO (L.take K)) (fun s => by rw [HML.out, HL2.out]; exact cutF_end L K HNn.out s))
      have hz7 : wr.frozen? ⟨D, 0, none⟩ = false := frozen_of_row _ _ _ _ _ HD.out
      have hc7 : wr.cell? ⟨D, 0, none⟩ = some (.slice oa L.length oc) := (cell_of_row _ _ 0 _ _ _ HD.out).trans rfl
      rcases HCZ.out with ⟨e1, e2, e3⟩ | ⟨g, c, e1, e2, e3, e4, e5⟩
      · injection e1 with e1a e1b e1c
        subst e1a e1c e2 e3
        have hs2 := fun W => sliceO_none W
        have HK := Lib.hid ((KK.refl [D] wr).set (b := D) (by simp) 0 (.slice none 0 0))
        have HD8 := Lib.hid (show (wr.setCell ⟨D, 0, none⟩ (.slice none 0 0)).heap[D]? = some (shO none 0 0 (some B) c0 c1) from heap_setCell_at (i := 0) (u := .slice none 0 0) HD.out)
        have HM8 := Lib.hid (HMF.out.kept (HK.out.block B HMF.out.lt (by simpa using fun e => HDB.out e.symm)))
        go_wp2_with fail
        go_ret
        refine ⟨by rw [show cutE ([] : List Ob) 0 = 0 by unfold cutE; simp]; rfl, by rw [show cutL ([] : List Ob) 0 = [] by unfold cutL; simp]; exact ⟨none, 0, 0, B, HD8.out, OwG.nil _, HM8.out⟩, ?_⟩
        exact ks_cut HDL.out HBL.out HW1.out HB.out HK.out HD8.out (by intro b o e; cases e)
      · injection e1 with e1a e1b e1c
        subst e1a e1c
        have hs2 := fun W => sliceO_full g L.length oc K e2 W
        have HK := Lib.hid ((KK.refl [D] wr).set (b := D) (by simp) 0 (.slice (some ⟨g, 0, none⟩) K K))
        have HD8 := Lib.hid (show (wr.setCell ⟨D, 0, none⟩ (.slice (some ⟨g, 0, none⟩) K K)).heap[D]? = some (shO (some ⟨g, 0, none⟩) K K (some B) c0 c1) from heap_setCell_at (i := 0) (u := .slice (some ⟨g, 0, none⟩) K K) HD.out)
        have HM8 := Lib.hid (HMF.out.kept (HK.out.block B HMF.out.lt (by simpa using fun e => HDB.out e.symm)))
        obtain ⟨ho1, ho2, ho3⟩ := HOB.out g rfl
        have HO8 := Lib.hid (e5.blk (w' := wr.setCell ⟨D, 0, none⟩ (.slice (some ⟨g, 0, none⟩) K K)) (fun b hb hbl => by
          obtain rfl : g = b := by simpa [Value.ownBlock] using hb
          exact (HK.out.block g (Nat.lt_of_lt_of_le hbl HB.out.size) (by simpa using ho3)).trans (HB.out.block g hbl ho2)))
        clear e1b e3 e4 e5 ho1 ho2 ho3
        go_wp2_with fail
        go_ret
        refine ⟨by rw [HE.out.1]; rfl, by rw [HE.out.2]; exact ⟨some ⟨g, 0, none⟩, K, K, B, HD8.out, HO8.out, HM8.out⟩, ?_⟩
        exact ks_cut HDL.out HBL.out HW1.out HB.out HK.out HD8.out (by intro b o e; injection e with e; injection e with e _ _; subst e; exact InS.row HW1.out)
end Go.Proofs.YtpjpegmjcgkonaaDoor
