/- A text is put: its name is its sum. Conditions: fewer than a million objects; the table that the program's text lays. -/
import Derived.Test.YtpjpegmjcgkonaaDoorQShelfNobodyaf
import Derived.Test.YtpjpegmjcgkonaaDoorQShelfNobodyHd
namespace Go.Proofs.YtpjpegmjcgkonaaDoor
open Go.RowKit Vi Hm

/-- a text's name -/
def nmS (t : ByteArray) : ByteArray := ⟨(Hm.sum t.data.toList).toArray⟩
theorem sum_lenS (l : List UInt8) : (Hm.sum l).length = 32 := by
  unfold Hm.sum
  refine bytesOf_len _ ?_
  have : ∀ (q : Nat) (h : List Nat) (b : List UInt8), h.length = 8 → (blocks q h b).length = 8 := by
    intro q
    induction q with
    | zero => intro h b hl; exact hl
    | succ q ih => intro h b hl; exact ih _ _ (by unfold mix; rw [List.length_zipWith, hl]; rfl)
  exact this _ _ _ rfl
theorem nm_size (t : ByteArray) : (nmS t).size = 32 := by
  show (Hm.sum t.data.toList).toArray.size = 32
  rw [List.size_toArray, sum_lenS]
theorem nm_le (t : ByteArray) : (nmS t).size ≤ maxLen := by rw [nm_size]; decide
theorem cat_oneS (s : ByteArray) : catS [s] = s.data.toList := by simp [catS]
/-- the sum of one text, laid in a row of its own -/
theorem sum1_any (s : ByteArray) (W : World) (M : Nat) (hT : HTab W) (hS : StrS W (some ⟨M, 0, none⟩) 1 [s]) (hn : s.size ≤ 100000000) :
    Calls Tryd.prog 22 #[.slice (some ⟨M, 0, none⟩) 1 1] W fun e w' => e = .returned (.string (nmS s)) ∧ Below W.heap.size W w' := by
  have h := sumP_any (some ⟨M, 0, none⟩) 1 1 [s] W hT hS (by rw [cat_oneS]; simp; omega) (by omega)
  rw [cat_oneS] at h
  exact h
/-- the shelf is there, its blocks lie from n on, what lay below n of w0 lies as it lay -/
structure SW (n : Nat) (w0 : World) (D : Nat) (L : List Ob) (c0 c1 : ByteArray) (k : Nat) (w : World) : Prop where
  sk : SK D L c0 c1 k w
  far : ∀ b, InS D w b → n ≤ b
  bel : Below n w0 w
  sz : n ≤ w.heap.size
section
variable {n : Nat} {w0 : World} {D : Nat} {L L' : List Ob} {c0 c1 c0' c1' : ByteArray} {k k' : Nat} {w w' : World}
theorem SW.ks (h : SW n w0 D L c0 c1 k w) (q : Ks D w w') (h' : SK D L' c0' c1' k' w') : SW n w0 D L' c0' c1' k' w' :=
  ⟨h', fun b z => by
    rcases Nat.lt_or_ge b w.heap.size with hb | hb
    · exact h.far b (q.ind b hb z)
    · exact Nat.le_trans h.sz hb, ⟨q.os.trans h.bel.os, q.tape.trans h.bel.tape, q.output.trans h.bel.output, Nat.le_trans h.bel.size q.size, fun b hb => (q.block b (Nat.lt_of_lt_of_le hb h.sz) (fun z => by have := h.far b z; omega)).trans (h.bel.block b hb)⟩, Nat.le_trans h.sz q.size⟩
theorem SW.below (h : SW n w0 D L c0 c1 k w) (hb : Below w.heap.size w w') : SW n w0 D L c0 c1 k w' := h.ks (Ks.of_below hb h.sk.lt) (h.sk.kept hb)
theorem MapI.le {B : Nat} {f : ByteArray → Option Int} (h : MapI w B k f) (hk : k ≤ k') : MapI w B k' f := by
  obtain ⟨m, E, h1, h2, h3⟩ := h
  exact ⟨m, E, h1, Nat.le_trans h2 hk, h3⟩
theorem SK.le (h : SK D L c0 c1 k w) (hk : k ≤ k') : SK D L c0 c1 k' w := by
  obtain ⟨oa, on, oc, B, h1, h2, h3⟩ := h
  exact ⟨oa, on, oc, B, h1, h2, h3.le hk⟩
theorem SW.le (h : SW n w0 D L c0 c1 k w) (hk : k ≤ k') : SW n w0 D L c0 c1 k' w := ⟨h.sk.le hk, h.far, h.bel, h.sz⟩
end
theorem NewS.sw {w0 w w' : World} {e : Ending} (hb : Below w0.heap.size w0 w) (h : NewS w e w') : ∃ D, e = .returned (.pointer (some ⟨D, 0, none⟩)) ∧ SW w0.heap.size w0 D [] ⟨#[]⟩ ⟨#[]⟩ 0 w' := by
  obtain ⟨D, h1, h2, h3, h4⟩ := h
  exact ⟨D, h1, h2, fun b q => Nat.le_trans hb.size (h3 b q), hb.trans (h4.mono hb.size), Nat.le_trans hb.size h4.size⟩
/-- what Put answers, and what there is then -/
def putE (L : List Ob) (t : ByteArray) : Int := if t.size = 0 then 2 else if 65536 < t.size then 5 else match getO L (nmS t) with
  | none => 0
  | some u => if u = t then 0 else 15
def putN (L : List Ob) (t : ByteArray) : ByteArray := if putE L t = 0 then nmS t else ⟨#[]⟩
def putL (L : List Ob) (t : ByteArray) : List Ob := if putE L t = 0 ∧ getO L (nmS t) = none then L ++ [(nmS t, t)] else L
def putA (L : List Ob) (c0 c1 t : ByteArray) : ByteArray := if putE L t = 15 then mtA c0 c1 ((getO L (nmS t)).getD ⟨#[]⟩) else c0
def putB (L : List Ob) (c0 c1 t : ByteArray) : ByteArray := if putE L t = 15 then mtB c0 c1 t else c1
theorem put_none {L : List Ob} {t : ByteArray} (h0 : t.size ≠ 0) (h1 : ¬ 65536 < t.size) (hg : getO L (nmS t) = none) (c0 c1 : ByteArray) : putE L t = 0 ∧ putN L t = nmS t ∧ putL L t = L ++ [(nmS t, t)] ∧ putA L c0 c1 t = c0 ∧ putB L c0 c1 t = c1 := by
  have e : putE L t = 0 := by unfold putE; rw [if_neg h0, if_neg h1, hg]
  refine ⟨e, ?_, ?_, ?_, ?_⟩
  · unfold putN; rw [if_pos e]
  · unfold putL; rw [if_pos ⟨e, hg⟩]
  · unfold putA; rw [e, if_neg (by decide)]
  · unfold putB; rw [e, if_neg (by decide)]
theorem put_same {L : List Ob} {t : ByteArray} (h0 : t.size ≠ 0) (h1 : ¬ 65536 < t.size) (hg : getO L (nmS t) = some t) (c0 c1 : ByteArray) : putE L t = 0 ∧ putN L t = nmS t ∧ putL L t = L ∧ putA L c0 c1 t = c0 ∧ putB L c0 c1 t = c1 := by
  have e : putE L t = 0 := by unfold putE; rw [if_neg h0, if_neg h1, hg]; simp
  refine ⟨e, ?_, ?_, ?_, ?_⟩
  · unfold putN; rw [if_pos e]
  · unfold putL; rw [if_neg (by rw [hg]; simp)]
  · unfold putA; rw [e, if_neg (by decide)]
  · unfold putB; rw [e, if_neg (by decide)]
theorem put_clash {L : List Ob} {t u : ByteArray} (h0 : t.size ≠ 0) (h1 : ¬ 65536 < t.size) (hg : getO L (nmS t) = some u) (hu : u ≠ t) (c0 c1 : ByteArray) : putE L t = 15 ∧ putN L t = ⟨#[]⟩ ∧ putL L t = L ∧ putA L c0 c1 t = mtA c0 c1 u ∧ putB L c0 c1 t = mtB c0 c1 t := by
  have e : putE L t = 15 := by unfold putE; rw [if_neg h0, if_neg h1, hg]; simp [hu]
  refine ⟨e, ?_, ?_, ?_, ?_⟩
  · unfold putN; rw [e, if_neg (by decide)]
  · unfold putL; rw [if_neg (by rw [hg]; simp)]
  · unfold putA; rw [if_pos e, hg]; rfl
  · unfold putB; rw [if_pos e]
theorem put_bad {L : List Ob} {t : ByteArray} {x : Int} (h : t.size = 0 ∧ x = 2 ∨ t.size ≠ 0 ∧ 65536 < t.size ∧ x = 5) (c0 c1 : ByteArray) : putE L t = x ∧ putN L t = ⟨#[]⟩ ∧ putL L t = L ∧ putA L c0 c1 t = c0 ∧ putB L c0 c1 t = c1 := by
  have e : putE L t = x := by
    unfold putE
    rcases h with ⟨h, rfl⟩ | ⟨h, h', rfl⟩
    · rw [if_pos h]
    · rw [if_neg h, if_pos h']
  have hx : x = 2 ∨ x = 5 := by rcases h with ⟨_, rfl⟩ | ⟨_, _, rfl⟩ <;> simp
  refine ⟨e, ?_, ?_, ?_, ?_⟩
  · unfold putN; rw [e, if_neg (by rcases hx with rfl | rfl <;> decide)]
  · unfold putL; rw [e, if_neg (by rcases hx with rfl | rfl <;> simp)]
  · unfold putA; rw [e, if_neg (by rcases hx with rfl | rfl <;> decide)]
  · unfold putB; rw [e, if_neg (by rcases hx with rfl | rfl <;> decide)]
def RetPut (n : Nat) (w0 : World) (D : Nat) (L : List Ob) (c0 c1 : ByteArray) (k : Nat) (t : ByteArray) (e : Ending) (w' : World) : Prop :=
  e = .returned (.tuple #[.string (putN L t), .int .i64 (putE L t)]) ∧ SW n w0 D (putL L t) (putA L c0 c1 t) (putB L c0 c1 t) (k + 1) w'
theorem toListEq {a b : ByteArray} (h : a.toList = b.toList) : a = b := by
  rw [Lib.toList_data, Lib.toList_data] at h
  exact ByteArray.ext (Array.ext' h)
set_option maxRecDepth 100000 in
set_option maxHeartbeats 2000000 in
theorem sputT_any (n : Nat) (w0 : World) (D : Nat) (L : List Ob) (c0 c1 : ByteArray) (k : Nat) (t : ByteArray) (w : World) (h : SW n w0 D L c0 c1 k w) (hT : HTab w0) (hn : w0.heap.size ≤ n) (hk : k < 1000000) (hl : L.length < 1000000) :
    Calls Tryd.prog 20 #[.pointer (some ⟨D, 0, none⟩), .string t] w (RetPut n w0 D L c0 c1 k t) := by
  have HS := Lib.hid h
  have HM := Lib.hid (show Calls Tryd.prog 45 #[.pointer (some ⟨D, 0, none⟩)] w fun e w' => e = .returned (.bool true) ∧ w = w' from by
    obtain ⟨oa, on, oc, B, h1, h2, h3⟩ := h.sk
    exact smade_any D oa on oc (some B) c0 c1 w h1)
  have HT := Lib.hid (hT.later (h.bel.mono hn))
  clear h hT hn
  by_cases h0 : t.size = 0
  · have HP := Lib.hid (put_bad (L := L) (x := 2) (.inl ⟨h0, rfl⟩) c0 c1)
    obtain rfl : t = ⟨#[]⟩ := ByteArray.ext (Array.eq_empty_of_size_eq_zero h0)
    clear h0
    go_enter Tryd.func20, Tryd.ntmps20
    go_wp2_with fail
    refine HM.out.mono ?_
    rintro e w' ⟨rfl, rfl⟩
    go_wp2_with fail
    go_ret2
    obtain ⟨p1, p2, p3, p4, p5⟩ := HP.out
    refine ⟨by simp only [p1, p2]; rfl, ?_⟩
    rw [p3, p4, p5]
    exact HS.out.le (by omega)
  have he : (t.toList == []) = false := by
    rw [Lib.toList_data]
    cases q : t.data.toList with
    | nil => exact absurd (by show t.data.size = 0; rw [← Array.length_toList, q]; rfl) h0
    | cons _ _ => rfl
  have he2 : t.toList.isEmpty = false := by
    rw [Lib.toList_data]
    cases q : t.data.toList with
    | nil => exact absurd (by show t.data.size = 0; rw [← Array.length_toList, q]; rfl) h0
    | cons _ _ => rfl
  by_cases h1 : 65536 < t.size
  · have HP := Lib.hid (put_bad (L := L) (x := 5) (.inr ⟨h0, h1, rfl⟩) c0 c1)
    have d1 : decide ((65536 : Int) < (t.size : Int)) = true := decide_eq_true (by omega)
    have d2 : decide (65536 < t.size) = true := decide_eq_true h1
    clear h0 h1
    go_enter Tryd.func20, Tryd.ntmps20
    go_wp2_with fail
    refine HM.out.mono ?_
    rintro e w' ⟨rfl, rfl⟩
    go_wp2_with fail
    go_ret2
    obtain ⟨p1, p2, p3, p4, p5⟩ := HP.out
    refine ⟨by simp only [p1, p2]; rfl, ?_⟩
    rw [p3, p4, p5]
    exact HS.out.le (by omega)
  have d1 : decide ((65536 : Int) < (t.size : Int)) = false := decide_eq_false (by omega)
  have d2 : decide (65536 < t.size) = false := decide_eq_false h1
  have HZ := Lib.hid (show t.size ≤ 100000000 by omega)
  have HKL := Lib.hid (And.intro hk hl)
  obtain ⟨v, hv⟩ : ∃ v, v = w.alloc (.cells #[.string t] 9) := ⟨_, rfl⟩
  have HV := Lib.hid hv
  have HB0 := Lib.hid (show Below w.heap.size w v by rw [hv]; exact (Below.refl _ w).alloc (Nat.le_refl _) _)
  have HS0 := Lib.hid (show StrS v (some ⟨w.heap.size, 0, none⟩) 1 [t] by rw [hv]; exact str_one w _)
  have HU := Lib.hid (sum1_any t v w.heap.size (HT.out.later HB0.out) HS0.out HZ.out)
  have HC : Hid (∀ W : World, SW n w0 D L c0 c1 k W → Calls Tryd.prog 46 #[.pointer (some ⟨D, 0, none⟩), .agg #[.string (nmS t), .string t]] W (RetPut n w0 D L c0 c1 k t)) := by
    refine Lib.hid fun W hW => ?_
    obtain ⟨hk, hl⟩ := HKL.out
    cases hg : getO L (nmS t) with
    | none =>
      obtain ⟨p1, p2, p3, p4, p5⟩ := put_none h0 h1 hg c0 c1
      refine (sput_new D L c0 c1 k (nmS t) t W hW.sk (nm_le t) hg hk hl).mono ?_
      rintro e w' ⟨rfl, q1, q2⟩
      refine ⟨by rw [p1, p2], ?_⟩
      rw [p3, p4, p5]
      exact hW.ks q2 q1
    | some u =>
      by_cases hu : u = t
      · subst hu
        obtain ⟨p1, p2, p3, p4, p5⟩ := put_same h0 h1 hg c0 c1
        refine (sput_same D L c0 c1 k (nmS u) u W hW.sk (nm_le u) hg).mono ?_
        rintro e w' ⟨rfl, q1, q2⟩
        refine ⟨by rw [p1, p2], ?_⟩
        rw [p3, p4, p5]
        exact (hW.ks q2 q1).le (by omega)
      · obtain ⟨p1, p2, p3, p4, p5⟩ := put_clash h0 h1 hg hu c0 c1
        refine (sput_clash D L c0 c1 k (nmS t) t W hW.sk (nm_le t) u hg (by
          cases q : (u.toList == t.toList) with
          | false => rfl
          | true => exact absurd (toListEq (by simpa using q)) hu)).mono ?_
        rintro e w' ⟨rfl, q1, q2⟩
        refine ⟨by rw [p1, p2], ?_⟩
        rw [p3, p4, p5]
        exact (hW.ks q2 q1).le (by omega)
  clear hv h0 h1 hk hl
  go_enter Tryd.func20, Tryd.ntmps20
  go_wp2_with fail
  refine HM.out.mono ?_
  rintro e w' ⟨rfl, rfl⟩
  go_wp2_with fail
  rw [← HV.out]
  refine HU.out.mono ?_
  rintro e w2 ⟨rfl, hb2⟩
  have HS2 := Lib.hid ((HS.out.below HB0.out).below hb2)
  clear hb2 HU
  go_wp2_with fail
  refine (HC.out w2 HS2.out).mono ?_
  rintro e w3 hr
  have HR := Lib.hid hr.2
  obtain ⟨rfl, -⟩ := hr
  go_wp2_with fail
  go_ret2
  exact ⟨rfl, HR.out⟩
end Go.Proofs.YtpjpegmjcgkonaaDoor
