/- Refs, second part: XRFp, XRFe, XRFf, XRFg, XRFh, XRFr in one (a claim holds 60 files). -/
import Derived.Test.YtbjngbacnkmjhaaRFx
import Derived.Deep.DeepCutAuto
import Derived.Lib.MinMax
namespace Go.Proofs.Ytbjngbacnkmjhaa
open Go.RowKit Vi

def emB (s : ByteArray) : Bool := s.toList.isEmpty
def stL (l : List Rf) (x : Rf) : List Rf := l.filter (fun a => lessR a x) ++ (if emB x.2.2 = true then [] else [x]) ++ l.filter (fun a => lessR x a)
def stE (l : List Rf) (k : Int) (s old now : ByteArray) : Int :=
  if okN k s = false then 2 else if emB old = true ∧ emB now = true then 2
  else if ((isR l (k, s, now)).toList == old.toList) = false then (if emB old = true then 10 else if emB (isR l (k, s, now)) = true then 9 else 12)
  else if emB old = true ∧ 64 ≤ l.length then 5 else 0
def stV (l : List Rf) (k : Int) (s old now : ByteArray) : List Rf := if stE l k s old now = 0 then stL l (k, s, now) else []
structure OkL (l : List Rf) : Prop where
  len : l.length ≤ 64
  ok : ∀ r ∈ l, okR r = true
  rise : RiseR l
theorem wrE_ok : ∀ (l : List Rf) (p : Option Rf), wrE p l = 0 → (∀ r ∈ l, okR r = true) ∧ RiseR l ∧ ∀ a, p = some a → ∀ r ∈ l, lessR a r = true
  | [], _, _ => ⟨by simp, List.Pairwise.nil, by simp⟩
  | r :: l, p, h => by
    unfold wrE at h
    split at h
    · cases h
    · next h1 =>
      split at h
      · cases h
      · next h2 =>
        obtain ⟨k1, k2, k3⟩ := wrE_ok l (some r) h
        have o : okR r = true := by simpa using h1
        refine ⟨fun x hx => ?_, List.pairwise_cons.2 ⟨k3 r rfl, k2⟩, fun a ha x hx => ?_⟩
        · rcases List.mem_cons.1 hx with rfl | hx
          · exact o
          · exact k1 x hx
        · subst ha
          have h3 : lessR a r = true := by simpa [ordR] using h2
          rcases List.mem_cons.1 hx with rfl | hx
          · exact h3
          · exact lessR_trans h3 (k3 r rfl x hx)
theorem ok_wrE : ∀ (l : List Rf) (p : Option Rf), (∀ r ∈ l, okR r = true) → RiseR l → (∀ a, p = some a → ∀ r ∈ l, lessR a r = true) → wrE p l = 0
  | [], _, _, _, _ => rfl
  | r :: l, p, h1, h2, h3 => by
    obtain ⟨q1, q2⟩ := List.pairwise_cons.1 h2
    unfold wrE
    rw [if_neg (by rw [h1 r (by simp)]; simp), if_neg, ok_wrE l (some r) (fun x hx => h1 x (List.mem_cons_of_mem _ hx)) q2 (fun a ha x hx => by cases ha; exact q1 x hx)]
    cases p with
    | none => simp [ordR]
    | some a => show ¬ lessR a r = false; rw [h3 a rfl r (by simp)]; simp
theorem wr_ok {l : List Rf} (h : wrR l = 0) : OkL l := by
  unfold wrR at h
  split at h
  · cases h
  · next h1 =>
    obtain ⟨k1, k2, _⟩ := wrE_ok l none h
    exact ⟨by omega, k1, k2⟩
theorem ok_wr {l : List Rf} (h : OkL l) : wrR l = 0 := by
  unfold wrR
  rw [if_neg (by have := h.len; omega)]
  exact ok_wrE l none h.ok h.rise (fun a ha => by cases ha)
theorem OkL.nil : OkL [] := ⟨by simp, by simp, List.Pairwise.nil⟩
theorem filtR_cut {α : Type} (p : α → Bool) (l : List α) (K : Nat) (h1 : ∀ t (h : t < l.length), t < K → p l[t] = true) (h2 : ∀ t (h : t < l.length), K ≤ t → p l[t] = false) : l.filter p = l.take K := by
  have e : l.filter p = (l.take K ++ l.drop K).filter p := by rw [List.take_append_drop]
  rw [e, List.filter_append, List.filter_eq_self.2, List.filter_eq_nil_iff.2, List.append_nil]
  · intro a ha
    obtain ⟨i, hi, rfl⟩ := List.getElem_of_mem ha
    rw [List.getElem_drop]
    rw [List.length_drop] at hi
    rw [h2 (K + i) (by omega) (by omega)]; simp
  · intro a ha
    obtain ⟨i, hi, rfl⟩ := List.getElem_of_mem ha
    rw [List.getElem_take]
    rw [List.length_take] at hi
    exact h1 i (by omega) (by omega)
theorem filtR_cut2 {α : Type} (p : α → Bool) (l : List α) (K : Nat) (h1 : ∀ t (h : t < l.length), t < K → p l[t] = false) (h2 : ∀ t (h : t < l.length), K ≤ t → p l[t] = true) : l.filter p = l.drop K := by
  have e : l.filter p = (l.take K ++ l.drop K).filter p := by rw [List.take_append_drop]
  rw [e, List.filter_append, List.filter_eq_nil_iff.2, List.filter_eq_self.2, List.nil_append]
  · intro a ha
    obtain ⟨i, hi, rfl⟩ := List.getElem_of_mem ha
    rw [List.getElem_drop]
    rw [List.length_drop] at hi
    exact h2 (K + i) (by omega) (by omega)
  · intro a ha
    obtain ⟨i, hi, rfl⟩ := List.getElem_of_mem ha
    rw [List.getElem_take]
    rw [List.length_take] at hi
    rw [h1 i (by omega) (by omega)]; simp
theorem ltR_take {l : List Rf} {x : Rf} (hr : RiseR l) : l.filter (fun a => lessR a x) = l.take (lesR l x) :=
  filtR_cut _ _ _ (fun t h ht => (cutR l x hr t h).1 ht) (fun t h ht => (cutR l x hr t h).2 ht)
theorem lessR_asym {a b : Rf} (h : lessR a b = true) : lessR b a = false := by
  rcases cmpR_cases a b with ⟨_, h2, _⟩ | ⟨h1, _⟩ | ⟨h1, _⟩
  · exact h2
  · rw [h1] at h; cases h
  · rw [h1] at h; cases h
theorem gtR_yes {l : List Rf} {x : Rf} (hr : RiseR l) (h : metR l x (lesR l x) = true) : l.filter (fun a => lessR x a) = l.drop (lesR l x + 1) := by
  obtain ⟨hk, hs, _⟩ := isR_yes hr h
  refine filtR_cut2 _ _ _ (fun t ht hl => ?_) (fun t ht hl => ?_)
  · rcases Nat.lt_or_ge t (lesR l x) with q | q
    · exact lessR_asym ((cutR l x hr t ht).1 q)
    · have e : t = lesR l x := by omega
      subst e
      rcases cmpR_cases l[lesR l x] x with ⟨_, h2, _⟩ | ⟨_, _, _, h4⟩ | ⟨_, h2, _⟩
      · exact h2
      · rw [h4] at hs; cases hs
      · exact h2
  · have h2 : lessR l[lesR l x] l[t] = true := (List.pairwise_iff_getElem.1 hr) _ _ hk ht (by omega)
    exact lessR_same hs h2
theorem gtR_no {l : List Rf} {x : Rf} (hr : RiseR l) (h : metR l x (lesR l x) = false) : l.filter (fun a => lessR x a) = l.drop (lesR l x) := by
  refine filtR_cut2 _ _ _ (fun t ht hl => lessR_asym ((cutR l x hr t ht).1 hl)) (fun t ht hl => ?_)
  have h1 := (cutR l x hr t ht).2 hl
  rcases cmpR_cases l[t] x with ⟨h2, _⟩ | ⟨_, h2, _⟩ | ⟨_, _, _, h4⟩
  · rw [h2] at h1; cases h1
  · exact h2
  · exfalso
    rcases Nat.eq_or_lt_of_le hl with q | q
    · have hm : metR l x (lesR l x) = true := by unfold metR; rw [List.getElem?_eq_getElem (by omega)]; rw [← show l[t] = l[lesR l x]'(by omega) by congr 1; exact q.symm]; exact h4
      rw [hm] at h; cases h
    · have hk : lesR l x < l.length := by omega
      have h5 := (cutR l x hr _ hk).2 (Nat.le_refl _)
      have h6 : lessR l[lesR l x] l[t] = true := (List.pairwise_iff_getElem.1 hr) _ _ hk ht q
      have : ∀ u : Rf, lessR u l[t] = lessR u x := fun u => by
        generalize l[t] = y at h4
        unfold sameK at h4
        rw [Bool.and_eq_true, decide_eq_true_iff, beq_iff_eq] at h4
        unfold lessR; rw [h4.1, h4.2]
      rw [this, h5] at h6; cases h6
/-- whether one is there is told by what it names -/
theorem isR_em {l : List Rf} {x : Rf} (h : OkL l) : emB (isR l x) = !metR l x (lesR l x) := by
  cases hm : metR l x (lesR l x) with
  | false => rw [isR_no h.rise hm]; unfold emB; rw [ByteArray.toList_eq]; rfl
  | true =>
    obtain ⟨hk, _, he⟩ := isR_yes h.rise hm
    rw [he]
    have := h.ok _ (List.getElem_mem hk)
    unfold okR at this
    rw [Bool.and_eq_true] at this
    have h2 := this.2
    unfold emB
    cases q : (l[lesR l x].2.2).toList.isEmpty
    · rfl
    · rw [q] at h2; cases h2
theorem emB_ext {a b : ByteArray} (h1 : emB a = true) (h2 : emB b = true) : (a.toList == b.toList) = true := by
  unfold emB at h1 h2
  rw [List.isEmpty_iff] at h1 h2
  rw [h1, h2]; rfl
theorem emB_same {a b : ByteArray} (h : (a.toList == b.toList) = true) : emB a = emB b := by
  rw [beq_iff_eq] at h
  unfold emB; rw [h]
theorem st_bad {l : List Rf} {k : Int} {s old now : ByteArray} {z : Int} (h : stE l k s old now = z) (hz : z ≠ 0) : stE l k s old now = z ∧ stV l k s old now = [] := ⟨h, by unfold stV; rw [if_neg (by rw [h]; exact hz)]⟩
theorem st_ok {l : List Rf} {k : Int} {s old now : ByteArray} (hl : OkL l) : OkL (stV l k s old now) := by
  by_cases hz : stE l k s old now = 0
  rotate_left
  · unfold stV; rw [if_neg hz]; exact OkL.nil
  have hz2 := hz
  unfold stE at hz
  split at hz
  · cases hz
  next g1 =>
  split at hz
  · cases hz
  next g2 =>
  split at hz
  · split at hz
    · cases hz
    · split at hz <;> cases hz
  next g3 =>
  split at hz
  · cases hz
  next g4 =>
  have e3 : ((isR l (k, s, now)).toList == old.toList) = true := by simpa using g3
  have em := emB_same e3
  rw [isR_em hl] at em
  unfold stV
  rw [if_pos hz2]
  refine ⟨?_, fun r hr => ?_, ?_⟩
  · unfold stL
    rw [ltR_take hl.rise]
    have hK := lesR_le l (k, s, now)
    have h64 := hl.len
    have hmid : (if emB now = true then [] else [(k, s, now)] : List Rf).length ≤ 1 := by split <;> simp
    cases hm : metR l (k, s, now) (lesR l (k, s, now)) with
    | true =>
      obtain ⟨hk, _⟩ := isR_yes hl.rise hm
      rw [gtR_yes hl.rise hm]
      simp only [List.length_append, List.length_take, List.length_drop]
      omega
    | false =>
      rw [hm] at em
      have : ¬ 64 ≤ l.length := fun q => g4 ⟨em.symm, q⟩
      rw [gtR_no hl.rise hm]
      simp only [List.length_append, List.length_take, List.length_drop]
      omega
  · unfold stL at hr
    rw [List.mem_append, List.mem_append, List.mem_filter, List.mem_filter] at hr
    rcases hr with (hr | hr) | hr
    · exact hl.ok _ hr.1
    · split at hr
      · simp at hr
      next g5 =>
        have : r = (k, s, now) := by simpa using hr
        subst this
        unfold okR
        rw [show okN (k, s, now).1 (k, s, now).2.1 = true by simpa using g1]
        unfold emB at g5
        simpa using g5
    · exact hl.ok _ hr.1
  · unfold stL
    have hmid : ∀ r ∈ (if emB (k, s, now).2.2 = true then [] else [(k, s, now)] : List Rf), r = (k, s, now) := fun r hr => by
      split at hr
      · simp at hr
      · simpa using hr
    refine List.pairwise_append.2 ⟨List.pairwise_append.2 ⟨hl.rise.sublist List.filter_sublist, ?_, ?_⟩, hl.rise.sublist List.filter_sublist, ?_⟩
    · split
      · exact List.Pairwise.nil
      · exact List.pairwise_singleton _ _
    · intro a ha b hb
      rw [hmid b hb]
      exact (List.mem_filter.1 ha).2
    · intro a ha b hb
      have h2 := (List.mem_filter.1 hb).2
      rcases List.mem_append.1 ha with ha | ha
      · exact lessR_trans (List.mem_filter.1 ha).2 h2
      · rw [hmid a ha]; exact h2
/-- a slice that reads as refs -/
def RV (w : World) (v : Value) (L : List Rf) : Prop := ∃ (A : Option Addr) (c : Nat), v = .slice A L.length c ∧ RdX rfC 3 w A L.length L ∧ L.length ≤ c ∧ c ≤ maxLen
def RetRV (w : World) (L : List Rf) (z : Int) (e : Ending) (w' : World) : Prop := ∃ v, e = .returned (.tuple #[v, .int .i64 z]) ∧ RV w' v L ∧ Below w.heap.size w w'
theorem RV.nil (w : World) : RV w (.slice none 0 0) [] := ⟨none, 0, rfl, RdX.nil, Nat.le_refl _, Nat.zero_le _⟩
theorem RV.own {w : World} {B : Nat} {v : Value} {L : List Rf} (h : OwX rfC 3 97 w B v L) : RV w v L := by
  obtain ⟨A, c, e, r, h1, h2⟩ := h.rd rfC_len
  exact ⟨A, c, e, r, h1, h2⟩
theorem RV.later {w w' : World} {v : Value} {L : List Rf} (h : RV w v L) (hb : Below w.heap.size w w') : RV w' v L := by
  obtain ⟨A, c, e, r, q⟩ := h
  exact ⟨A, c, e, r.below hb, q⟩
theorem RV.below {w w' : World} {v : Value} {L : List Rf} (h : RV w v L) (hb : Below w.heap.size w w') : RV w' v L := h.later hb
theorem ok_sz {l : List Rf} (h : OkL l) : ∀ r ∈ l, r.2.1.size ≤ maxLen := fun r hr => by
  have h1 := h.ok r hr
  unfold okR okN nm at h1
  simp only [Bool.and_eq_true, decide_eq_true_iff] at h1
  have h2 := h1.1.2.1.2
  unfold maxLen; omega
theorem RV.one {w : World} {v : Value} {L : List Rf} (h : RV w v L) : v.oneCell' = true := by
  obtain ⟨A, c, rfl, _⟩ := h; rfl
end Go.Proofs.Ytbjngbacnkmjhaa

namespace Go.Proofs.Ytbjngbacnkmjhaa
open Go.RowKit Vi

set_option maxRecDepth 100000 in
set_option maxHeartbeats 8000000 in
theorem rfset_any (A : Option Addr) (n c : Nat) (l : List Rf) (k : Int) (s old now : ByteArray) (w : World) (h : RdX rfC 3 w A n l) (hc : n ≤ c) (hl : OkL l) (hs : s.size ≤ maxLen) :
    Calls Try.prog 60 #[.slice A n c, .int .i64 k, .string s, .string old, .string now] w (RetRV w (stV l k s old now) (stE l k s old now)) := by
  have H := Lib.hid h
  have L := Lib.hid h.1
  have hn : n ≤ 64 := by rw [← h.1]; exact hl.len
  have HF := Lib.hid (fun (W : World) (q : RdX rfC 3 W A n l) => rffind_any A n c l k s now W q (by omega) hl.rise)
  have HIN := Lib.hid (fun W : World => isn_any k s W hs)
  have HEM := Lib.hid (isR_em (x := (k, s, now)) hl)
  have HY := Lib.hid (isR_yes (x := (k, s, now)) hl.rise)
  have HTK := Lib.hid (ltR_take (x := (k, s, now)) hl.rise)
  have HGY := Lib.hid (gtR_yes (x := (k, s, now)) hl.rise)
  have HGN := Lib.hid (gtR_no (x := (k, s, now)) hl.rise)
  have hkn : lesR l (k, s, now) ≤ n := by rw [← L.out]; exact lesR_le _ _
  have HE := Lib.hid (show stE l k s old now = if okN k s = false then 2 else if emB old = true ∧ emB now = true then 2
    else if ((isR l (k, s, now)).toList == old.toList) = false then (if emB old = true then 10 else if emB (isR l (k, s, now)) = true then 9 else 12)
    else if emB old = true ∧ 64 ≤ l.length then 5 else 0 from rfl)
  have HSL := Lib.hid (show stL l (k, s, now) = l.filter (fun a => lessR a (k, s, now)) ++ (if emB now = true then [] else [(k, s, now)]) ++ l.filter (fun a => lessR (k, s, now) a) from rfl)
  have HSV := Lib.hid (fun q : stE l k s old now = 0 => show stV l k s old now = stL l (k, s, now) by unfold stV; rw [if_pos q])
  clear h hl
  generalize lesR l (k, s, now) = K at *
  generalize isR l (k, s, now) = m at *
  cases hk : okN k s with
  | false =>
    have HV := Lib.hid (st_bad (HE.out.trans (if_pos hk)) (by decide))
    rw [hk] at HIN
    clear hk HEM HY HTK HGY HGN HE HSL HSV
    have HB1 := Lib.hid (Below.refl w.heap.size w)
    go_enter Try.func60, Try.ntmps60
    go_wp2_with fail
    refine (HF.out w (H.out.below HB1.out)).mono ?_
    rintro e w1 ⟨rfl, hb1⟩
    have HB2 := Lib.hid (HB1.out.trans (hb1.mono HB1.out.size))
    clear hb1 HB1 
    go_wp2_with fail
    refine (HIN.out w1).mono ?_
    rintro e w' ⟨rfl, rfl⟩
    go_wp2_with fail
    go_ret2
    exact ⟨_, by first | (rw [HV.out.1]; done) | (rw [HV.out.1]; rfl), by rw [HV.out.2]; exact RV.nil _, HB2.out⟩
  | true =>
    rw [hk] at HIN
    cases ho : old.toList.isEmpty with
    | true =>
      have ho2 : emB old = true := ho
      cases hw : now.toList.isEmpty with
      | true =>
        have hw2 : emB now = true := hw
        have HV := Lib.hid (st_bad (HE.out.trans (by rw [if_neg (by rw [hk]; simp), if_pos ⟨ho2, hw2⟩])) (by decide))
        clear ho2 hw2 hk
        clear HEM HY HTK HGY HGN HE HSL HSV
        have HB1 := Lib.hid (Below.refl w.heap.size w)
        go_enter Try.func60, Try.ntmps60
        go_wp2_with fail
        refine (HF.out w (H.out.below HB1.out)).mono ?_
        rintro e w1 ⟨rfl, hb1⟩
        have HB2 := Lib.hid (HB1.out.trans (hb1.mono HB1.out.size))
        clear hb1 HB1 
        go_wp2_with fail
        refine (HIN.out w1).mono ?_
        rintro e w' ⟨rfl, rfl⟩
        go_wp2_with fail
        go_ret2
        exact ⟨_, by first | (rw [HV.out.1]; done) | (rw [HV.out.1]; rfl), by rw [HV.out.2]; exact RV.nil _, HB2.out⟩
      | false =>
        have hw2 : emB now = false := hw
        cases hi : m.toList.isEmpty with
        | false =>
          have hi2 : emB m = false := hi
          have hne : (m.toList == old.toList) = false := by
            cases q : (m.toList == old.toList) with
            | false => rfl
            | true => have := emB_same q; rw [hi2, ho2] at this; cases this
          have HV := Lib.hid (st_bad (HE.out.trans (by rw [if_neg (by rw [hk]; simp), if_neg (fun q => by rw [hw2] at q; cases q.2), if_pos hne, if_pos ho2])) (by decide))
          clear ho2 hw2 hi2 hk
          clear HEM HY HTK HGY HGN HE HSL HSV
          have HB1 := Lib.hid (Below.refl w.heap.size w)
          go_enter Try.func60, Try.ntmps60
          go_wp2_with fail
          refine (HF.out w (H.out.below HB1.out)).mono ?_
          rintro e w1 ⟨rfl, hb1⟩
          have HB2 := Lib.hid (HB1.out.trans (hb1.mono HB1.out.size))
          clear hb1 HB1 
          go_wp2_with fail
          refine (HIN.out w1).mono ?_
          rintro e w' ⟨rfl, rfl⟩
          go_wp2_with fail
          go_ret2
          exact ⟨_, by first | (rw [HV.out.1]; done) | (rw [HV.out.1]; rfl), by rw [HV.out.2]; exact RV.nil _, HB2.out⟩
        | true =>
          have hi2 : emB m = true := hi
          have heq : (m.toList == old.toList) = true := emB_ext hi2 ho2
          have hmt : metR l (k, s, now) K = false := by have := HEM.out; rw [hi2] at this; simpa using this.symm
          by_cases h64 : 64 ≤ n
          · have d64 : decide ((64 : Int) ≤ (n : Int)) = true := decide_eq_true (by omega)
            have HV := Lib.hid (st_bad (HE.out.trans (by rw [if_neg (by rw [hk]; simp), if_neg (fun q => by rw [hw2] at q; cases q.2), if_neg (by rw [heq]; simp), if_pos ⟨ho2, by rw [L.out]; exact h64⟩])) (by decide))
            clear ho2 hw2 hi2 hk hmt
            clear HEM HY HTK HGY HGN HE HSL HSV
            have HB1 := Lib.hid (Below.refl w.heap.size w)
            go_enter Try.func60, Try.ntmps60
            go_wp2_with fail
            refine (HF.out w (H.out.below HB1.out)).mono ?_
            rintro e w1 ⟨rfl, hb1⟩
            have HB2 := Lib.hid (HB1.out.trans (hb1.mono HB1.out.size))
            clear hb1 HB1 
            go_wp2_with fail
            refine (HIN.out w1).mono ?_
            rintro e w' ⟨rfl, rfl⟩
            go_wp2_with fail
            go_ret2
            exact ⟨_, by first | (rw [HV.out.1]; done) | (rw [HV.out.1]; rfl), by rw [HV.out.2]; exact RV.nil _, HB2.out⟩
          · have d64 : decide ((64 : Int) ≤ (n : Int)) = false := decide_eq_false (by omega)
            have hz : stE l k s old now = 0 := HE.out.trans (by rw [if_neg (by rw [hk]; simp), if_neg (fun q => by rw [hw2] at q; cases q.2), if_neg (by rw [heq]; simp), if_neg (fun q => h64 (by rw [← L.out]; exact q.2))])
            have HV := Lib.hid (show stE l k s old now = 0 ∧ stV l k s old now = (l.take K ++ [(k, s, now)]) ++ l.drop K from ⟨hz, by rw [HSV.out hz, HSL.out, HTK.out, HGN.out hmt, if_neg (by rw [hw2]; simp)]⟩)
            clear ho2 hw2 hi2 hk hmt hz
            clear HEM HY HTK HGY HGN HE HSL HSV
            have HB1 := Lib.hid (Below.refl w.heap.size w)
            go_enter Try.func60, Try.ntmps60
            go_wp2_with fail
            refine (HF.out w (H.out.below HB1.out)).mono ?_
            rintro e w1 ⟨rfl, hb1⟩
            have HB2 := Lib.hid (HB1.out.trans (hb1.mono HB1.out.size))
            clear hb1 HB1 
            go_wp2_with fail
            refine (HIN.out w1).mono ?_
            rintro e w' ⟨rfl, rfl⟩
            go_wp2_with fail
            have hi0 : (0 : Int) ≤ (K : Int) := by omega
            have hi1 : (K : Int) ≤ (n : Int) := by omega
            have s1 := fun W => rfslice_to A n c K (by omega) W
            have s2 := fun W => rfslice_from A n c K (K : Int) (by omega) (by omega) W
            have HD1 := Lib.hid (H.out.take K (by omega))
            have HD2 := Lib.hid (H.out.drop (c := c) K (by omega) hc)
            generalize cutX 3 A c K = A2 at s2 HD2
            refine wp_region_quiet_below (by kernel_rfl) (by kernel_rfl) ?_
            repeat (any_goals (first | go_big_quiet_step (fail) | quiet_step (fail)))
            refine wpQuiet_nil ?_
            intro w2 hw2
            have hb2 := below_anyY hw2
            clear hw2 
            have HB3 := Lib.hid (HB2.out.trans (hb2.mono HB2.out.size))
            clear hb2 HB2 
            clear s1 s2
            have HRL := Lib.hid (fun (W : World) (hB : Below w2.heap.size w2 W) (hp : W.heap[w2.heap.size]? = some (.cells #[.int .i64 k, .string s, .string now] 97 (0, 0))) => show ∀ y ∈ ([⟨A, K, c, l.take K⟩, ⟨some ⟨w2.heap.size, 0, none⟩, 1, 1, [(k, s, now)]⟩, ⟨A2, n - K, c - K, l.drop K⟩] : List SlR), RdX rfC 3 W y.a y.n y.l from fun y hy => by
              have HBN := HB3.out.trans (hB.mono HB3.out.size)
              rcases List.mem_cons.1 hy with e | hy
              · subst e; exact HD1.out.below HBN
              rcases List.mem_cons.1 hy with e | hy
              · subst e; exact rd_blk (f := rfC) (s := 3) (fun _ => rfl) [(k, s, now)] hp rfl
              have e : y = ⟨A2, n - K, c - K, l.drop K⟩ := by simpa using hy
              subst e; exact HD2.out.below HBN)
            go_wp2_with fail
            refine (rfconcat_any (w2.heap.size + 1) 0 3 3 [⟨A, K, c, l.take K⟩, ⟨some ⟨w2.heap.size, 0, none⟩, 1, 1, [(k, s, now)]⟩, ⟨A2, n - K, c - K, l.drop K⟩] _ (rd_blk (f := slRC) (s := 1) (fun _ => rfl) [⟨A, K, c, l.take K⟩, ⟨some ⟨w2.heap.size, 0, none⟩, 1, 1, [(k, s, now)]⟩, ⟨A2, n - K, c - K, l.drop K⟩] (two_blk w2 _ _) rfl) (HRL.out _ (((Below.refl _ w2).alloc (Nat.le_refl _) _).alloc (by simp) _) (blk_alloc (blk_new w2 _) _)) (by omega) (by simp [totR]; omega)).mono ?_
            rintro e w9 ⟨v9, rfl, ho9, hb9⟩
            have HO9 := Lib.hid ho9
            have HBZ := Lib.hid (HB3.out.trans (((((Below.refl _ w2).alloc (Nat.le_refl _) _).alloc (by simp) _).trans (hb9.mono (by simp <;> omega))).mono HB3.out.size))
            have hv9 := ho9.one
            clear ho9 hb9
            go_wp2_with fail
            go_ret2
            refine ⟨v9, by first | (rw [HV.out.1]; done) | (rw [HV.out.1]; rfl), ?_, HBZ.out⟩
            rw [HV.out.2]
            have k9 := HO9.out
            simp only [List.flatMap_cons, List.flatMap_nil, List.append_nil] at k9
            rw [List.append_assoc]
            exact RV.own k9
    | false =>
      have ho2 : emB old = false := ho
      cases hi : m.toList.isEmpty with
      | true =>
        have hi2 : emB m = true := hi
        have hne : (m.toList == old.toList) = false := by
          cases q : (m.toList == old.toList) with
          | false => rfl
          | true => have := emB_same q; rw [hi2, ho2] at this; cases this
        have HV := Lib.hid (st_bad (HE.out.trans (by rw [if_neg (by rw [hk]; simp), if_neg (fun q => by rw [ho2] at q; cases q.1), if_pos hne, if_neg (by rw [ho2]; simp), if_pos hi2])) (by decide))
        clear ho2 hi2 hk
        clear HEM HY HTK HGY HGN HE HSL HSV
        have HB1 := Lib.hid (Below.refl w.heap.size w)
        go_enter Try.func60, Try.ntmps60
        go_wp2_with fail
        refine (HF.out w (H.out.below HB1.out)).mono ?_
        rintro e w1 ⟨rfl, hb1⟩
        have HB2 := Lib.hid (HB1.out.trans (hb1.mono HB1.out.size))
        clear hb1 HB1 
        go_wp2_with fail
        refine (HIN.out w1).mono ?_
        rintro e w' ⟨rfl, rfl⟩
        go_wp2_with fail
        go_ret2
        exact ⟨_, by first | (rw [HV.out.1]; done) | (rw [HV.out.1]; rfl), by rw [HV.out.2]; exact RV.nil _, HB2.out⟩
      | false =>
        have hi2 : emB m = false := hi
        cases he : (m.toList == old.toList) with
        | false =>
          have HV := Lib.hid (st_bad (HE.out.trans (by rw [if_neg (by rw [hk]; simp), if_neg (fun q => by rw [ho2] at q; cases q.1), if_pos he, if_neg (by rw [ho2]; simp), if_neg (by rw [hi2]; simp)])) (by decide))
          clear ho2 hi2 hk
          clear HEM HY HTK HGY HGN HE HSL HSV
          have HB1 := Lib.hid (Below.refl w.heap.size w)
          go_enter Try.func60, Try.ntmps60
          go_wp2_with fail
          refine (HF.out w (H.out.below HB1.out)).mono ?_
          rintro e w1 ⟨rfl, hb1⟩
          have HB2 := Lib.hid (HB1.out.trans (hb1.mono HB1.out.size))
          clear hb1 HB1 
          go_wp2_with fail
          refine (HIN.out w1).mono ?_
          rintro e w' ⟨rfl, rfl⟩
          go_wp2_with fail
          go_ret2
          exact ⟨_, by first | (rw [HV.out.1]; done) | (rw [HV.out.1]; rfl), by rw [HV.out.2]; exact RV.nil _, HB2.out⟩
        | true =>
          have hmt : metR l (k, s, now) K = true := by have := HEM.out; rw [hi2] at this; simpa using this.symm
          have hkl : K < n := by rw [← L.out]; exact (HY.out hmt).1
          have hz : stE l k s old now = 0 := HE.out.trans (by rw [if_neg (by rw [hk]; simp), if_neg (fun q => by rw [ho2] at q; cases q.1), if_neg (by rw [he]; simp), if_neg (fun q => by rw [ho2] at q; cases q.1)])
          cases hw : now.toList.isEmpty with
          | true =>
            have hw2 : emB now = true := hw
            have HV := Lib.hid (show stE l k s old now = 0 ∧ stV l k s old now = l.take K ++ l.drop (K + 1) from ⟨hz, by rw [HSV.out hz, HSL.out, HTK.out, HGY.out hmt, if_pos hw2, List.append_nil]⟩)
            clear ho2 hi2 hk hmt hz hw2
            clear HEM HY HTK HGY HGN HE HSL HSV
            have HB1 := Lib.hid (Below.refl w.heap.size w)
            go_enter Try.func60, Try.ntmps60
            go_wp2_with fail
            refine (HF.out w (H.out.below HB1.out)).mono ?_
            rintro e w1 ⟨rfl, hb1⟩
            have HB2 := Lib.hid (HB1.out.trans (hb1.mono HB1.out.size))
            clear hb1 HB1 
            go_wp2_with fail
            refine (HIN.out w1).mono ?_
            rintro e w' ⟨rfl, rfl⟩
            go_wp2_with fail
            have hi0 : (0 : Int) ≤ (K : Int) := by omega
            have hi1 : (K : Int) ≤ (n : Int) := by omega
            have s1 := fun W => rfslice_to A n c K (by omega) W
            have s2 := fun W => rfslice_from A n c K (K : Int) (by omega) (by omega) W
            have HD1 := Lib.hid (H.out.take K (by omega))
            have HD2 := Lib.hid (H.out.drop (c := c) K (by omega) hc)
            generalize cutX 3 A c K = A2 at s2 HD2
            refine wp_region_quiet_below (by kernel_rfl) (by kernel_rfl) ?_
            repeat (any_goals (first | go_big_quiet_step (fail) | quiet_step (fail)))
            refine wpQuiet_nil ?_
            intro w2 hw2
            have hb2 := below_anyY hw2
            clear hw2 
            have HB3 := Lib.hid (HB2.out.trans (hb2.mono HB2.out.size))
            clear hb2 HB2 
            clear s1 s2
            have s3 := fun W => rfslice_from A2 (n - K) (c - K) 1 1 (by omega) (by omega) W
            have HD3 := Lib.hid (HD2.out.drop (c := c - K) 1 (by omega) (by omega))
            rw [List.drop_drop] at HD3
            generalize cutX 3 A2 (c - K) 1 = A3 at s3 HD3
            have HRL := Lib.hid (fun (W : World) (hB : Below w2.heap.size w2 W) => show ∀ y ∈ ([⟨A, K, c, l.take K⟩, ⟨A3, n - K - 1, c - K - 1, l.drop (K + 1)⟩] : List SlR), RdX rfC 3 W y.a y.n y.l from fun y hy => by
              have HBN := HB3.out.trans (hB.mono HB3.out.size)
              rcases List.mem_cons.1 hy with e | hy
              · subst e; exact HD1.out.below HBN
              have e : y = ⟨A3, n - K - 1, c - K - 1, l.drop (K + 1)⟩ := by simpa using hy
              subst e; exact HD3.out.below HBN)
            go_wp2_with fail
            refine (rfconcat_any (w2.heap.size) 0 2 2 [⟨A, K, c, l.take K⟩, ⟨A3, n - K - 1, c - K - 1, l.drop (K + 1)⟩] _ (rd_blk (f := slRC) (s := 1) (fun _ => rfl) [⟨A, K, c, l.take K⟩, ⟨A3, n - K - 1, c - K - 1, l.drop (K + 1)⟩] (blk_new w2 _) rfl) (HRL.out _ ((Below.refl _ w2).alloc (Nat.le_refl _) _)) (by omega) (by simp [totR]; omega)).mono ?_
            rintro e w9 ⟨v9, rfl, ho9, hb9⟩
            have HO9 := Lib.hid ho9
            have HBZ := Lib.hid (HB3.out.trans ((((Below.refl _ w2).alloc (Nat.le_refl _) _).trans (hb9.mono (by simp <;> omega))).mono HB3.out.size))
            have hv9 := ho9.one
            clear ho9 hb9
            go_wp2_with fail
            go_ret2
            refine ⟨v9, by first | (rw [HV.out.1]; done) | (rw [HV.out.1]; rfl), ?_, HBZ.out⟩
            rw [HV.out.2]
            have k9 := HO9.out
            simp only [List.flatMap_cons, List.flatMap_nil, List.append_nil] at k9
            exact RV.own k9
          | false =>
            have hw2 : emB now = false := hw
            have HV := Lib.hid (show stE l k s old now = 0 ∧ stV l k s old now = (l.take K ++ [(k, s, now)]) ++ l.drop (K + 1) from ⟨hz, by rw [HSV.out hz, HSL.out, HTK.out, HGY.out hmt, if_neg (by rw [hw2]; simp)]⟩)
            clear ho2 hi2 hk hmt hz hw2
            clear HEM HY HTK HGY HGN HE HSL HSV
            have HB1 := Lib.hid (Below.refl w.heap.size w)
            go_enter Try.func60, Try.ntmps60
            go_wp2_with fail
            refine (HF.out w (H.out.below HB1.out)).mono ?_
            rintro e w1 ⟨rfl, hb1⟩
            have HB2 := Lib.hid (HB1.out.trans (hb1.mono HB1.out.size))
            clear hb1 HB1 
            go_wp2_with fail
            refine (HIN.out w1).mono ?_
            rintro e w' ⟨rfl, rfl⟩
            go_wp2_with fail
            have hi0 : (0 : Int) ≤ (K : Int) := by omega
            have hi1 : (K : Int) ≤ (n : Int) := by omega
            have s1 := fun W => rfslice_to A n c K (by omega) W
            have s2 := fun W => rfslice_from A n c K (K : Int) (by omega) (by omega) W
            have HD1 := Lib.hid (H.out.take K (by omega))
            have HD2 := Lib.hid (H.out.drop (c := c) K (by omega) hc)
            generalize cutX 3 A c K = A2 at s2 HD2
            refine wp_region_quiet_below (by kernel_rfl) (by kernel_rfl) ?_
            repeat (any_goals (first | go_big_quiet_step (fail) | quiet_step (fail)))
            refine wpQuiet_nil ?_
            intro w2 hw2
            have hb2 := below_anyY hw2
            clear hw2 
            have HB3 := Lib.hid (HB2.out.trans (hb2.mono HB2.out.size))
            clear hb2 HB2 
            clear s1 s2
            have s3 := fun W => rfslice_from A2 (n - K) (c - K) 1 1 (by omega) (by omega) W
            have HD3 := Lib.hid (HD2.out.drop (c := c - K) 1 (by omega) (by omega))
            rw [List.drop_drop] at HD3
            generalize cutX 3 A2 (c - K) 1 = A3 at s3 HD3
            have HRL := Lib.hid (fun (W : World) (hB : Below w2.heap.size w2 W) (hp : W.heap[w2.heap.size]? = some (.cells #[.int .i64 k, .string s, .string now] 97 (0, 0))) => show ∀ y ∈ ([⟨A, K, c, l.take K⟩, ⟨some ⟨w2.heap.size, 0, none⟩, 1, 1, [(k, s, now)]⟩, ⟨A3, n - K - 1, c - K - 1, l.drop (K + 1)⟩] : List SlR), RdX rfC 3 W y.a y.n y.l from fun y hy => by
              have HBN := HB3.out.trans (hB.mono HB3.out.size)
              rcases List.mem_cons.1 hy with e | hy
              · subst e; exact HD1.out.below HBN
              rcases List.mem_cons.1 hy with e | hy
              · subst e; exact rd_blk (f := rfC) (s := 3) (fun _ => rfl) [(k, s, now)] hp rfl
              have e : y = ⟨A3, n - K - 1, c - K - 1, l.drop (K + 1)⟩ := by simpa using hy
              subst e; exact HD3.out.below HBN)
            go_wp2_with fail
            refine (rfconcat_any (w2.heap.size + 1) 0 3 3 [⟨A, K, c, l.take K⟩, ⟨some ⟨w2.heap.size, 0, none⟩, 1, 1, [(k, s, now)]⟩, ⟨A3, n - K - 1, c - K - 1, l.drop (K + 1)⟩] _ (rd_blk (f := slRC) (s := 1) (fun _ => rfl) [⟨A, K, c, l.take K⟩, ⟨some ⟨w2.heap.size, 0, none⟩, 1, 1, [(k, s, now)]⟩, ⟨A3, n - K - 1, c - K - 1, l.drop (K + 1)⟩] (two_blk w2 _ _) rfl) (HRL.out _ (((Below.refl _ w2).alloc (Nat.le_refl _) _).alloc (by simp) _) (blk_alloc (blk_new w2 _) _)) (by omega) (by simp [totR]; omega)).mono ?_
            rintro e w9 ⟨v9, rfl, ho9, hb9⟩
            have HO9 := Lib.hid ho9
            have HBZ := Lib.hid (HB3.out.trans (((((Below.refl _ w2).alloc (Nat.le_refl _) _).alloc (by simp) _).trans (hb9.mono (by simp <;> omega))).mono HB3.out.size))
            have hv9 := ho9.one
            clear ho9 hb9
            go_wp2_with fail
            go_ret2
            refine ⟨v9, by first | (rw [HV.out.1]; done) | (rw [HV.out.1]; rfl), ?_, HBZ.out⟩
            rw [HV.out.2]
            have k9 := HO9.out
            simp only [List.flatMap_cons, List.flatMap_nil, List.append_nil] at k9
            rw [List.append_assoc]
            exact RV.own k9
end Go.Proofs.Ytbjngbacnkmjhaa

namespace Go.Proofs.Ytbjngbacnkmjhaa
open Go.RowKit Vi

theorem OwX.laterR {α : Type} {f : α → List Value} {s : Nat} {T : TypeId} {w w' : World} {B : Nat} {v : Value} {l : List α} (h : OwX f s T w B v l) (hb : Below w.heap.size w w') : OwX f s T w' B v l := h.kept hb
theorem filtR_take {α : Type} (p : α → Bool) (l : List α) (k : Nat) (h : k < l.length) : (l.take (k + 1)).filter p = (l.take k).filter p ++ (if p l[k] = true then [l[k]] else []) := by
  rw [List.take_succ_eq_append_getElem h, List.filter_append]
  congr 1
  cases hp : p l[k] <;> simp [hp]
theorem filtR_len {α : Type} (p : α → Bool) (l : List α) (k : Nat) : ((l.take k).filter p).length ≤ k := by
  have h1 := List.length_filter_le p (l.take k)
  rw [List.length_take] at h1
  omega
set_option maxRecDepth 100000 in
set_option maxHeartbeats 8000000 in
theorem rfdset_any (A : Option Addr) (n c : Nat) (l : List Rf) (k : Int) (s old now : ByteArray) (w : World) (h : RdX rfC 3 w A n l) (hn : n ≤ 100000) (hs : s.size ≤ maxLen) :
    Calls Try.prog 61 #[.slice A n c, .int .i64 k, .string s, .string old, .string now] w (RetRV w (stV l k s old now) (stE l k s old now)) := by
  have H := Lib.hid h
  have L := Lib.hid h.1
  have HG := Lib.hid (fun (W : World) (q : RdX rfC 3 W A n l) => rfdget_any A n c l k s now W q (by unfold maxLen; omega))
  have HIN := Lib.hid (fun W : World => refIs_any s W hs)
  have HE := Lib.hid (show stE l k s old now = if okN k s = false then 2 else if emB old = true ∧ emB now = true then 2
    else if ((isR l (k, s, now)).toList == old.toList) = false then (if emB old = true then 10 else if emB (isR l (k, s, now)) = true then 9 else 12)
    else if emB old = true ∧ 64 ≤ l.length then 5 else 0 from rfl)
  have HSL := Lib.hid (show stL l (k, s, now) = l.filter (fun a => lessR a (k, s, now)) ++ (if emB now = true then [] else [(k, s, now)]) ++ l.filter (fun a => lessR (k, s, now) a) from rfl)
  have HSV := Lib.hid (fun q : stE l k s old now = 0 => show stV l k s old now = stL l (k, s, now) by unfold stV; rw [if_pos q])
  clear h
  generalize isR l (k, s, now) = m at *
  by_cases q1 : k < 1
  · have d1 : decide (k < 1) = true := decide_eq_true q1
    have HV := Lib.hid (st_bad (HE.out.trans (if_pos (by unfold okN; rw [decide_eq_false (show ¬ k = 1 by omega), decide_eq_false (show ¬ k = 2 by omega)]; rfl))) (by decide))
    clear HE HSL HSV
    have HB1 := Lib.hid (Below.refl w.heap.size w)
    go_enter Try.func61, Try.ntmps61
    go_wp2_with fail
    go_ret2
    exact ⟨_, by first | (rw [HV.out.1]; done) | (rw [HV.out.1]; rfl), by rw [HV.out.2]; exact RV.nil _, HB1.out⟩
  have d1 : decide (k < 1) = false := decide_eq_false q1
  by_cases q2 : 2 < k
  · have d2 : decide (2 < k) = true := decide_eq_true q2
    have HV := Lib.hid (st_bad (HE.out.trans (if_pos (by unfold okN; rw [decide_eq_false (show ¬ k = 1 by omega), decide_eq_false (show ¬ k = 2 by omega)]; rfl))) (by decide))
    clear HE HSL HSV
    have HB1 := Lib.hid (Below.refl w.heap.size w)
    go_enter Try.func61, Try.ntmps61
    go_wp2_with fail
    go_ret2
    exact ⟨_, by first | (rw [HV.out.1]; done) | (rw [HV.out.1]; rfl), by rw [HV.out.2]; exact RV.nil _, HB1.out⟩
  have d2 : decide (2 < k) = false := decide_eq_false q2
  have HKK := Lib.hid (show (decide (k = 1) || decide (k = 2)) = true by
    rcases (show k = 1 ∨ k = 2 by omega) with e | e
    · rw [decide_eq_true e]; rfl
    · rw [decide_eq_true e]; simp)
  clear q1 q2
  cases hk : nm s with
  | false =>
    rw [hk] at HIN
    have HV := Lib.hid (st_bad (HE.out.trans (if_pos (by unfold okN; rw [hk, Bool.and_false]))) (by decide))
    clear hk
    clear HE HSL HSV
    have HB1 := Lib.hid (Below.refl w.heap.size w)
    go_enter Try.func61, Try.ntmps61
    go_wp2_with fail
    refine (HIN.out w).mono ?_
    rintro e w' ⟨rfl, rfl⟩
    go_wp2_with fail
    go_ret2
    exact ⟨_, by first | (rw [HV.out.1]; done) | (rw [HV.out.1]; rfl), by rw [HV.out.2]; exact RV.nil _, HB1.out⟩
  | true =>
    have HOK := Lib.hid (show okN k s = true by unfold okN; rw [HKK.out, hk]; rfl)
    rw [hk] at HIN
    clear hk
    cases ho : old.toList.isEmpty with
    | true =>
      have ho2 : emB old = true := ho
      cases hw : now.toList.isEmpty with
      | true =>
        have hw2 : emB now = true := hw
        have HV := Lib.hid (st_bad (HE.out.trans (by rw [if_neg (by rw [HOK.out]; simp), if_pos ⟨ho2, hw2⟩])) (by decide))
        clear ho2 hw2
        clear HE HSL HSV
        have HB1 := Lib.hid (Below.refl w.heap.size w)
        go_enter Try.func61, Try.ntmps61
        go_wp2_with fail
        refine (HIN.out w).mono ?_
        rintro e w' ⟨rfl, rfl⟩
        go_wp2_with fail
        go_ret2
        exact ⟨_, by first | (rw [HV.out.1]; done) | (rw [HV.out.1]; rfl), by rw [HV.out.2]; exact RV.nil _, HB1.out⟩
      | false =>
        have hw2 : emB now = false := hw
        cases heq : (m.toList == old.toList) with
        | false =>
          have HV := Lib.hid (st_bad (HE.out.trans (by rw [if_neg (by rw [HOK.out]; simp), if_neg (fun q => by rw [hw2] at q; cases q.2), if_pos heq, if_pos ho2])) (by decide))
          clear ho2 hw2
          clear HE HSL HSV
          have HB1 := Lib.hid (Below.refl w.heap.size w)
          go_enter Try.func61, Try.ntmps61
          go_wp2_with fail
          refine (HIN.out w).mono ?_
          rintro e w' ⟨rfl, rfl⟩
          go_wp2_with fail
          refine (HG.out w (H.out.below HB1.out)).mono ?_
          rintro e w1 ⟨rfl, hb1⟩
          have HB2 := Lib.hid (HB1.out.trans (hb1.mono HB1.out.size))
          clear hb1 HB1 
          go_wp2_with fail
          go_ret2
          exact ⟨_, by first | (rw [HV.out.1]; done) | (rw [HV.out.1]; rfl), by rw [HV.out.2]; exact RV.nil _, HB2.out⟩
        | true =>
          by_cases h64 : 64 ≤ n
          · have d64 : decide ((64 : Int) ≤ (n : Int)) = true := decide_eq_true (by omega)
            have HV := Lib.hid (st_bad (HE.out.trans (by rw [if_neg (by rw [HOK.out]; simp), if_neg (fun q => by rw [hw2] at q; cases q.2), if_neg (by rw [heq]; simp), if_pos ⟨ho2, by rw [L.out]; exact h64⟩])) (by decide))
            clear ho2 hw2
            clear HE HSL HSV
            have HB1 := Lib.hid (Below.refl w.heap.size w)
            go_enter Try.func61, Try.ntmps61
            go_wp2_with fail
            refine (HIN.out w).mono ?_
            rintro e w' ⟨rfl, rfl⟩
            go_wp2_with fail
            refine (HG.out w (H.out.below HB1.out)).mono ?_
            rintro e w1 ⟨rfl, hb1⟩
            have HB2 := Lib.hid (HB1.out.trans (hb1.mono HB1.out.size))
            clear hb1 HB1 
            go_wp2_with fail
            go_ret2
            exact ⟨_, by first | (rw [HV.out.1]; done) | (rw [HV.out.1]; rfl), by rw [HV.out.2]; exact RV.nil _, HB2.out⟩
          · have d64 : decide ((64 : Int) ≤ (n : Int)) = false := decide_eq_false (by omega)
            have hz : stE l k s old now = 0 := HE.out.trans (by rw [if_neg (by rw [HOK.out]; simp), if_neg (fun q => by rw [hw2] at q; cases q.2), if_neg (by rw [heq]; simp), if_neg (fun q => h64 (by rw [← L.out]; exact q.2))])
            have HV := Lib.hid (show stE l k s old now = 0 ∧ stV l k s old now = (l.filter (fun a => lessR a (k, s, now)) ++ [(k, s, now)]) ++ l.filter (fun a => lessR (k, s, now) a) from ⟨hz, by rw [HSV.out hz, HSL.out, if_neg (by rw [hw2]; simp)]⟩)
            clear ho2 hw2 hz h64
            clear HE HSL HSV
            have HB1 := Lib.hid (Below.refl w.heap.size w)
            go_enter Try.func61, Try.ntmps61
            go_wp2_with fail
            refine (HIN.out w).mono ?_
            rintro e w' ⟨rfl, rfl⟩
            go_wp2_with fail
            refine (HG.out w (H.out.below HB1.out)).mono ?_
            rintro e w1 ⟨rfl, hb1⟩
            have HB2 := Lib.hid (HB1.out.trans (hb1.mono HB1.out.size))
            clear hb1 HB1 
            have hw1 : w.heap.size ≤ w1.heap.size := HB2.out.size
            have HF3 := Lib.hid (blk_new w1 (.cells #[.int .i64 k, .string s, .string now] 97 (0, 0)))
            have HB4 := Lib.hid (HB2.out.alloc HB2.out.size (.cells #[.int .i64 k, .string s, .string now] 97 (0, 0)))
            clear HB2
            go_wp2_with fail
            go_loopw [14, 62] (fun vv i wr => ∃ (k9 : Nat) (v : Value) (M : List Rf), v = vv ∧ i = .int .i64 (k9 : Int) ∧ k9 ≤ n ∧ M = (l.take k9).filter (fun a => lessR a (k, s, now)) ∧ OwX rfC 3 97 wr (w1.heap.size + 1) v M ∧ wr.heap[w1.heap.size]? = some (.cells #[.int .i64 k, .string s, .string now] 97 (0, 0)) ∧ Below w.heap.size w wr) (fun _ i _ => n - (intOf i).toNat)
            case atStart => exact ⟨0, _, [], rfl, rfl, Nat.zero_le _, rfl, OwX.nil _, HF3.out, HB4.out⟩
            case round =>
              obtain ⟨k9, v, M, rfl, rfl, hk, hM, how, hbx, hb⟩ := hrel
              have HM := Lib.hid hM
              have HO := Lib.hid how
              have HBX := Lib.hid hbx
              have HB := Lib.hid hb
              have hv := how.one
              have hCw := lt_of_block hbx
              clear hM how hbx hb
              by_cases hlt : k9 < n
              · have hd1 : decide ((k9 : Int) < (n : Int)) = true := decide_eq_true (by omega)
                obtain ⟨b, off, hl, rfl, hbb, _⟩ := (H.out.below HB.out).at hlt
                have HFT := Lib.hid (filtR_take (fun a => lessR a (k, s, now)) l k9 hl)
                have hfl := filtR_len (fun a => lessR a (k, s, now)) l k9
                obtain ⟨y, hy⟩ : ∃ y, l[k9] = y := ⟨_, rfl⟩
                have HX := Lib.hid (show l[k9]? = some y by rw [List.getElem?_eq_getElem hl, hy])
                rw [hy] at HFT
                obtain ⟨y1, y2, y3⟩ := y
                have hi0 : (0 : Int) ≤ (k9 : Int) := by omega
                clear hy
                have HF := Lib.hid (fun W : World => rfless_any y1 y2 y3 k s now W)
                cases hq : lessR (y1, y2, y3) (k, s, now) with
                | true =>
                  rw [hq] at HF
                  have HR := Lib.hid (show M ++ [(y1, y2, y3)] = (l.take (k9 + 1)).filter (fun a => lessR a (k, s, now)) by rw [HFT.out, if_pos hq, HM.out])
                  have hML : M.length ≤ 200002 := by rw [HM.out]; omega
                  clear hq
                  have hc101 : wr.cell? ⟨b, off + k9 * 3, none⟩ = some (.int .i64 y1) := (H.out.below HB.out).cellAt HX.out hlt 0 _ rfl
                  have hc102 : wr.cell? ⟨b, off + k9 * 3 + 1, none⟩ = some (.string y2) := (H.out.below HB.out).cellAt HX.out hlt 1 _ rfl
                  have hc103 : wr.cell? ⟨b, off + k9 * 3 + 2, none⟩ = some (.string y3) := (H.out.below HB.out).cellAt HX.out hlt 2 _ rfl
                  have HF104 := Lib.hid (blk_alloc HBX.out (.cells #[.int .i64 y1, .string y2, .string y3] 97 (0, 0)))
                  have HF105 := Lib.hid (blk_new wr (.cells #[.int .i64 y1, .string y2, .string y3] 97 (0, 0)))
                  have HB106 := Lib.hid (HB.out.alloc HB.out.size (.cells #[.int .i64 y1, .string y2, .string y3] 97 (0, 0)))
                  clear HB
                  have hc107 : (wr.alloc (.cells #[.int .i64 y1, .string y2, .string y3] 97 (0, 0))).cell? ⟨wr.heap.size, 0, none⟩ = some (.int .i64 y1) := by rw [cell_of_row _ _ _ _ _ _ HF105.out]; rfl
                  have hc108 : (wr.alloc (.cells #[.int .i64 y1, .string y2, .string y3] 97 (0, 0))).cell? ⟨wr.heap.size, 1, none⟩ = some (.string y2) := by rw [cell_of_row _ _ _ _ _ _ HF105.out]; rfl
                  have hc109 : (wr.alloc (.cells #[.int .i64 y1, .string y2, .string y3] 97 (0, 0))).cell? ⟨wr.heap.size, 2, none⟩ = some (.string y3) := by rw [cell_of_row _ _ _ _ _ _ HF105.out]; rfl
                  have hc110 : (wr.alloc (.cells #[.int .i64 y1, .string y2, .string y3] 97 (0, 0))).cell? ⟨w1.heap.size, 0, none⟩ = some (.int .i64 k) := by rw [cell_of_row _ _ _ _ _ _ HF104.out]; rfl
                  have hc111 : wr.cell? ⟨w1.heap.size, 0, none⟩ = some (.int .i64 k) := by rw [cell_of_row _ _ _ _ _ _ HBX.out]; rfl
                  have hc112 : (wr.alloc (.cells #[.int .i64 y1, .string y2, .string y3] 97 (0, 0))).cell? ⟨w1.heap.size, 1, none⟩ = some (.string s) := by rw [cell_of_row _ _ _ _ _ _ HF104.out]; rfl
                  have hc113 : wr.cell? ⟨w1.heap.size, 1, none⟩ = some (.string s) := by rw [cell_of_row _ _ _ _ _ _ HBX.out]; rfl
                  have hc114 : (wr.alloc (.cells #[.int .i64 y1, .string y2, .string y3] 97 (0, 0))).cell? ⟨w1.heap.size, 2, none⟩ = some (.string now) := by rw [cell_of_row _ _ _ _ _ _ HF104.out]; rfl
                  have hc115 : wr.cell? ⟨w1.heap.size, 2, none⟩ = some (.string now) := by rw [cell_of_row _ _ _ _ _ _ HBX.out]; rfl
                  have hl116 : w1.heap.size < wr.heap.size := lt_of_block HBX.out
                  have hl117 : ¬ w1.heap.size = wr.heap.size := by omega
                  have HO1 := Lib.hid (HO.out.alloc (.cells #[.int .i64 y1, .string y2, .string y3] 97 (0, 0)))
                  go_wp2_with fail
                  refine (HF.out (wr.alloc (.cells #[.int .i64 y1, .string y2, .string y3] 97 (0, 0)))).mono ?_
                  rintro e w11 ⟨rfl, hb11⟩
                  clear hc101 hc102 hc103 hc107 hc108 hc109 hc110 hc111 hc112 hc113 hc114 hc115 hl116 hl117
                  have HF118 := Lib.hid (blk_below HF104.out hb11)
                  have HF119 := Lib.hid (blk_below HF105.out hb11)
                  have HB120 := Lib.hid (HB106.out.trans (hb11.mono HB106.out.size))
                  have HQ121 := Lib.hid (HO1.out.laterR hb11)
                  clear HO1
                  clear hb11 HB106 HF104 HBX HF105
                  have hc122 : w11.cell? ⟨wr.heap.size, 0, none⟩ = some (.int .i64 y1) := by rw [cell_of_row _ _ _ _ _ _ HF119.out]; rfl
                  have hc123 : w11.cell? ⟨wr.heap.size, 1, none⟩ = some (.string y2) := by rw [cell_of_row _ _ _ _ _ _ HF119.out]; rfl
                  have hc124 : w11.cell? ⟨wr.heap.size, 2, none⟩ = some (.string y3) := by rw [cell_of_row _ _ _ _ _ _ HF119.out]; rfl
                  have hz1 : w1.heap.size + 1 ≤ w11.heap.size := by have := lt_of_block HF118.out; omega
                  have HRa := Lib.hid (Below.refl (w1.heap.size + 1) w11)
                  go_wp2_with (at_builtin; refine wpList_appX rfl (.tmp 69) (.tmp 71) 93 97 _ 40 rfl Try.underlying93 info_rfB rfl (by omega) (by omega) rfC_len rfC_one (w1.heap.size + 1) w11 (HRa.out.alloc hz1 _) (by simp; omega) v _ rfl (HQ121.out.alloc _) w11.heap.size 1 (y1, y2, y3) #[.int .i64 y1, .string y2, .string y3] 97 (0, 0) rfl (heap_alloc_new w11 _) rfl (by omega) ?_)
                  intro v7 w7 HO7 HB7 HZ7 HG7
                  clear hc122 hc123 hc124
                  have HX7 := Lib.hid ((HB7.out.block (w1.heap.size) (by omega)).trans HF118.out)
                  have HL7 := Lib.hid (HB120.out.trans (HB7.out.mono (by omega)))
                  have hv7 := HO7.out.one
                  go_wp2_with fail
                  go_roundw
                  case rel => exact ⟨k9 + 1, v7, _, rfl, by go_num, by omega, HR.out, HO7.out, HX7.out, HL7.out⟩
                  case measure => simp [intOf] <;> omega
                | false =>
                  rw [hq] at HF
                  have HR := Lib.hid (show M = (l.take (k9 + 1)).filter (fun a => lessR a (k, s, now)) by rw [HFT.out, if_neg (by rw [hq]; simp), List.append_nil, HM.out])
                  clear hq
                  have hc101 : wr.cell? ⟨b, off + k9 * 3, none⟩ = some (.int .i64 y1) := (H.out.below HB.out).cellAt HX.out hlt 0 _ rfl
                  have hc102 : wr.cell? ⟨b, off + k9 * 3 + 1, none⟩ = some (.string y2) := (H.out.below HB.out).cellAt HX.out hlt 1 _ rfl
                  have hc103 : wr.cell? ⟨b, off + k9 * 3 + 2, none⟩ = some (.string y3) := (H.out.below HB.out).cellAt HX.out hlt 2 _ rfl
                  have HF104 := Lib.hid (blk_alloc HBX.out (.cells #[.int .i64 y1, .string y2, .string y3] 97 (0, 0)))
                  have HF105 := Lib.hid (blk_new wr (.cells #[.int .i64 y1, .string y2, .string y3] 97 (0, 0)))
                  have HB106 := Lib.hid (HB.out.alloc HB.out.size (.cells #[.int .i64 y1, .string y2, .string y3] 97 (0, 0)))
                  clear HB
                  have hc107 : (wr.alloc (.cells #[.int .i64 y1, .string y2, .string y3] 97 (0, 0))).cell? ⟨wr.heap.size, 0, none⟩ = some (.int .i64 y1) := by rw [cell_of_row _ _ _ _ _ _ HF105.out]; rfl
                  have hc108 : (wr.alloc (.cells #[.int .i64 y1, .string y2, .string y3] 97 (0, 0))).cell? ⟨wr.heap.size, 1, none⟩ = some (.string y2) := by rw [cell_of_row _ _ _ _ _ _ HF105.out]; rfl
                  have hc109 : (wr.alloc (.cells #[.int .i64 y1, .string y2, .string y3] 97 (0, 0))).cell? ⟨wr.heap.size, 2, none⟩ = some (.string y3) := by rw [cell_of_row _ _ _ _ _ _ HF105.out]; rfl
                  have hc110 : (wr.alloc (.cells #[.int .i64 y1, .string y2, .string y3] 97 (0, 0))).cell? ⟨w1.heap.size, 0, none⟩ = some (.int .i64 k) := by rw [cell_of_row _ _ _ _ _ _ HF104.out]; rfl
                  have hc111 : wr.cell? ⟨w1.heap.size, 0, none⟩ = some (.int .i64 k) := by rw [cell_of_row _ _ _ _ _ _ HBX.out]; rfl
                  have hc112 : (wr.alloc (.cells #[.int .i64 y1, .string y2, .string y3] 97 (0, 0))).cell? ⟨w1.heap.size, 1, none⟩ = some (.string s) := by rw [cell_of_row _ _ _ _ _ _ HF104.out]; rfl
                  have hc113 : wr.cell? ⟨w1.heap.size, 1, none⟩ = some (.string s) := by rw [cell_of_row _ _ _ _ _ _ HBX.out]; rfl
                  have hc114 : (wr.alloc (.cells #[.int .i64 y1, .string y2, .string y3] 97 (0, 0))).cell? ⟨w1.heap.size, 2, none⟩ = some (.string now) := by rw [cell_of_row _ _ _ _ _ _ HF104.out]; rfl
                  have hc115 : wr.cell? ⟨w1.heap.size, 2, none⟩ = some (.string now) := by rw [cell_of_row _ _ _ _ _ _ HBX.out]; rfl
                  have hl116 : w1.heap.size < wr.heap.size := lt_of_block HBX.out
                  have hl117 : ¬ w1.heap.size = wr.heap.size := by omega
                  have HO1 := Lib.hid (HO.out.alloc (.cells #[.int .i64 y1, .string y2, .string y3] 97 (0, 0)))
                  go_wp2_with fail
                  refine (HF.out (wr.alloc (.cells #[.int .i64 y1, .string y2, .string y3] 97 (0, 0)))).mono ?_
                  rintro e w11 ⟨rfl, hb11⟩
                  clear hc101 hc102 hc103 hc107 hc108 hc109 hc110 hc111 hc112 hc113 hc114 hc115 hl116 hl117
                  have HF118 := Lib.hid (blk_below HF104.out hb11)
                  have HF119 := Lib.hid (blk_below HF105.out hb11)
                  have HB120 := Lib.hid (HB106.out.trans (hb11.mono HB106.out.size))
                  have HQ121 := Lib.hid (HO1.out.laterR hb11)
                  clear HO1
                  clear hb11 HB106 HF104 HBX HF105
                  go_wp2_with fail
                  go_roundw
                  case rel => exact ⟨k9 + 1, v, M, rfl, by go_num, by omega, HR.out, HQ121.out, HF118.out, HB120.out⟩
                  case measure => simp [intOf] <;> omega
              · have hd1 : decide ((k9 : Int) < (n : Int)) = false := decide_eq_false (by omega)
                have HEE := Lib.hid (show l.take k9 = l from List.take_of_length_le (by rw [L.out]; omega))
                have HM1 := Lib.hid (show M = l.filter (fun a => lessR a (k, s, now)) by rw [HM.out, HEE.out])
                have HFL := Lib.hid (show (l.filter (fun a => lessR a (k, s, now))).length ≤ 100000 by have := List.length_filter_le (fun a => lessR a (k, s, now)) l; have := L.out; omega)
                have hc101 : wr.cell? ⟨w1.heap.size, 0, none⟩ = some (.int .i64 k) := by rw [cell_of_row _ _ _ _ _ _ HBX.out]; rfl
                have hc102 : wr.cell? ⟨w1.heap.size, 1, none⟩ = some (.string s) := by rw [cell_of_row _ _ _ _ _ _ HBX.out]; rfl
                have hc103 : wr.cell? ⟨w1.heap.size, 2, none⟩ = some (.string now) := by rw [cell_of_row _ _ _ _ _ _ HBX.out]; rfl
                have hz1 : w1.heap.size + 1 ≤ wr.heap.size := by omega
                have HRa := Lib.hid (Below.refl (w1.heap.size + 1) wr)
                go_wp2_with (at_builtin; refine wpList_appX rfl (.tmp 76) (.tmp 78) 93 97 _ 40 rfl Try.underlying93 info_rfB rfl (by omega) (by omega) rfC_len rfC_one (w1.heap.size + 1) wr (HRa.out.alloc hz1 _) (by simp; omega) v _ rfl (HO.out.alloc _) wr.heap.size 1 (k, s, now) #[.int .i64 k, .string s, .string now] 97 (0, 0) rfl (heap_alloc_new wr _) rfl (by rw [HM1.out]; have := HFL.out; omega) ?_)
                intro v7 w7 HO7 HB7 HZ7 HG7
                clear hc101 hc102 hc103
                have HX7 := Lib.hid ((HB7.out.block (w1.heap.size) (by omega)).trans HBX.out)
                have HL7 := Lib.hid (HB.out.trans (HB7.out.mono (by omega)))
                have hv7 := HO7.out.one
                rw [HM1.out] at HO7
                clear hd1
                go_wp2_with fail
                clear HB HO HBX hv hCw HM HEE
                go_loopw [14, 82] (fun vv i wr => ∃ (j9 : Nat) (v : Value) (M : List Rf), v = vv ∧ i = .int .i64 (j9 : Int) ∧ j9 ≤ n ∧ M = (l.filter (fun a => lessR a (k, s, now)) ++ [(k, s, now)]) ++ (l.take j9).filter (fun a => lessR (k, s, now) a) ∧ OwX rfC 3 97 wr (w1.heap.size + 1) v M ∧ wr.heap[w1.heap.size]? = some (.cells #[.int .i64 k, .string s, .string now] 97 (0, 0)) ∧ Below w.heap.size w wr) (fun _ i _ => n - (intOf i).toNat)
                case atStart => exact ⟨0, v7, _, rfl, rfl, Nat.zero_le _, by rw [List.take_zero, List.filter_nil, List.append_nil], HO7.out, HX7.out, HL7.out⟩
                case round =>
                  obtain ⟨j9, v, M, rfl, rfl, hk, hM, how, hbx, hb⟩ := hrel
                  have HM := Lib.hid hM
                  have HO := Lib.hid how
                  have HBX := Lib.hid hbx
                  have HB := Lib.hid hb
                  have hv := how.one
                  have hCw := lt_of_block hbx
                  clear hM how hbx hb
                  by_cases hlt : j9 < n
                  · have hd1 : decide ((j9 : Int) < (n : Int)) = true := decide_eq_true (by omega)
                    obtain ⟨b, off, hl, rfl, hbb, _⟩ := (H.out.below HB.out).at hlt
                    have HFT := Lib.hid (filtR_take (fun a => lessR (k, s, now) a) l j9 hl)
                    have hfl := filtR_len (fun a => lessR (k, s, now) a) l j9
                    obtain ⟨y, hy⟩ : ∃ y, l[j9] = y := ⟨_, rfl⟩
                    have HX := Lib.hid (show l[j9]? = some y by rw [List.getElem?_eq_getElem hl, hy])
                    rw [hy] at HFT
                    obtain ⟨y1, y2, y3⟩ := y
                    have hi0 : (0 : Int) ≤ (j9 : Int) := by omega
                    clear hy
                    have HF := Lib.hid (fun W : World => rfless_any k s now y1 y2 y3 W)
                    cases hq : lessR (k, s, now) (y1, y2, y3) with
                    | true =>
                      rw [hq] at HF
                      have HR := Lib.hid (show M ++ [(y1, y2, y3)] = (l.filter (fun a => lessR a (k, s, now)) ++ [(k, s, now)]) ++ (l.take (j9 + 1)).filter (fun a => lessR (k, s, now) a) by rw [HFT.out, if_pos hq, ← List.append_assoc, HM.out])
                      have hML : M.length ≤ 200002 := by rw [HM.out]; simp only [List.length_append, List.length_cons, List.length_nil]; have := HFL.out; omega
                      clear hq
                      have hc101 : wr.cell? ⟨b, off + j9 * 3, none⟩ = some (.int .i64 y1) := (H.out.below HB.out).cellAt HX.out hlt 0 _ rfl
                      have hc102 : wr.cell? ⟨b, off + j9 * 3 + 1, none⟩ = some (.string y2) := (H.out.below HB.out).cellAt HX.out hlt 1 _ rfl
                      have hc103 : wr.cell? ⟨b, off + j9 * 3 + 2, none⟩ = some (.string y3) := (H.out.below HB.out).cellAt HX.out hlt 2 _ rfl
                      have HF104 := Lib.hid (blk_alloc HBX.out (.cells #[.int .i64 y1, .string y2, .string y3] 97 (0, 0)))
                      have HF105 := Lib.hid (blk_new wr (.cells #[.int .i64 y1, .string y2, .string y3] 97 (0, 0)))
                      have HB106 := Lib.hid (HB.out.alloc HB.out.size (.cells #[.int .i64 y1, .string y2, .string y3] 97 (0, 0)))
                      clear HB
                      have hc107 : (wr.alloc (.cells #[.int .i64 y1, .string y2, .string y3] 97 (0, 0))).cell? ⟨wr.heap.size, 0, none⟩ = some (.int .i64 y1) := by rw [cell_of_row _ _ _ _ _ _ HF105.out]; rfl
                      have hc108 : (wr.alloc (.cells #[.int .i64 y1, .string y2, .string y3] 97 (0, 0))).cell? ⟨wr.heap.size, 1, none⟩ = some (.string y2) := by rw [cell_of_row _ _ _ _ _ _ HF105.out]; rfl
                      have hc109 : (wr.alloc (.cells #[.int .i64 y1, .string y2, .string y3] 97 (0, 0))).cell? ⟨wr.heap.size, 2, none⟩ = some (.string y3) := by rw [cell_of_row _ _ _ _ _ _ HF105.out]; rfl
                      have hc110 : (wr.alloc (.cells #[.int .i64 y1, .string y2, .string y3] 97 (0, 0))).cell? ⟨w1.heap.size, 0, none⟩ = some (.int .i64 k) := by rw [cell_of_row _ _ _ _ _ _ HF104.out]; rfl
                      have hc111 : wr.cell? ⟨w1.heap.size, 0, none⟩ = some (.int .i64 k) := by rw [cell_of_row _ _ _ _ _ _ HBX.out]; rfl
                      have hc112 : (wr.alloc (.cells #[.int .i64 y1, .string y2, .string y3] 97 (0, 0))).cell? ⟨w1.heap.size, 1, none⟩ = some (.string s) := by rw [cell_of_row _ _ _ _ _ _ HF104.out]; rfl
                      have hc113 : wr.cell? ⟨w1.heap.size, 1, none⟩ = some (.string s) := by rw [cell_of_row _ _ _ _ _ _ HBX.out]; rfl
                      have hc114 : (wr.alloc (.cells #[.int .i64 y1, .string y2, .string y3] 97 (0, 0))).cell? ⟨w1.heap.size, 2, none⟩ = some (.string now) := by rw [cell_of_row _ _ _ _ _ _ HF104.out]; rfl
                      have hc115 : wr.cell? ⟨w1.heap.size, 2, none⟩ = some (.string now) := by rw [cell_of_row _ _ _ _ _ _ HBX.out]; rfl
                      have hl116 : w1.heap.size < wr.heap.size := lt_of_block HBX.out
                      have hl117 : ¬ w1.heap.size = wr.heap.size := by omega
                      have HO1 := Lib.hid (HO.out.alloc (.cells #[.int .i64 y1, .string y2, .string y3] 97 (0, 0)))
                      go_wp2_with fail
                      refine (HF.out (wr.alloc (.cells #[.int .i64 y1, .string y2, .string y3] 97 (0, 0)))).mono ?_
                      rintro e w11 ⟨rfl, hb11⟩
                      clear hc101 hc102 hc103 hc107 hc108 hc109 hc110 hc111 hc112 hc113 hc114 hc115 hl116 hl117
                      have HF118 := Lib.hid (blk_below HF104.out hb11)
                      have HF119 := Lib.hid (blk_below HF105.out hb11)
                      have HB120 := Lib.hid (HB106.out.trans (hb11.mono HB106.out.size))
                      have HQ121 := Lib.hid (HO1.out.laterR hb11)
                      clear HO1
                      clear hb11 HB106 HF104 HBX HF105
                      have hc122 : w11.cell? ⟨wr.heap.size, 0, none⟩ = some (.int .i64 y1) := by rw [cell_of_row _ _ _ _ _ _ HF119.out]; rfl
                      have hc123 : w11.cell? ⟨wr.heap.size, 1, none⟩ = some (.string y2) := by rw [cell_of_row _ _ _ _ _ _ HF119.out]; rfl
                      have hc124 : w11.cell? ⟨wr.heap.size, 2, none⟩ = some (.string y3) := by rw [cell_of_row _ _ _ _ _ _ HF119.out]; rfl
                      have hz1 : w1.heap.size + 1 ≤ w11.heap.size := by have := lt_of_block HF118.out; omega
                      have HRa := Lib.hid (Below.refl (w1.heap.size + 1) w11)
                      go_wp2_with (at_builtin; refine wpList_appX rfl (.tmp 89) (.tmp 91) 93 97 _ 40 rfl Try.underlying93 info_rfB rfl (by omega) (by omega) rfC_len rfC_one (w1.heap.size + 1) w11 (HRa.out.alloc hz1 _) (by simp; omega) v _ rfl (HQ121.out.alloc _) w11.heap.size 1 (y1, y2, y3) #[.int .i64 y1, .string y2, .string y3] 97 (0, 0) rfl (heap_alloc_new w11 _) rfl (by omega) ?_)
                      intro v7 w7 HO7 HB7 HZ7 HG7
                      clear hc122 hc123 hc124
                      have HX7 := Lib.hid ((HB7.out.block (w1.heap.size) (by omega)).trans HF118.out)
                      have HL7 := Lib.hid (HB120.out.trans (HB7.out.mono (by omega)))
                      have hv7 := HO7.out.one
                      go_wp2_with fail
                      go_roundw
                      case rel => exact ⟨j9 + 1, v7, _, rfl, by go_num, by omega, HR.out, HO7.out, HX7.out, HL7.out⟩
                      case measure => simp [intOf] <;> omega
                    | false =>
                      rw [hq] at HF
                      have HR := Lib.hid (show M = (l.filter (fun a => lessR a (k, s, now)) ++ [(k, s, now)]) ++ (l.take (j9 + 1)).filter (fun a => lessR (k, s, now) a) by rw [HFT.out, if_neg (by rw [hq]; simp), List.append_nil, HM.out])
                      clear hq
                      have hc101 : wr.cell? ⟨b, off + j9 * 3, none⟩ = some (.int .i64 y1) := (H.out.below HB.out).cellAt HX.out hlt 0 _ rfl
                      have hc102 : wr.cell? ⟨b, off + j9 * 3 + 1, none⟩ = some (.string y2) := (H.out.below HB.out).cellAt HX.out hlt 1 _ rfl
                      have hc103 : wr.cell? ⟨b, off + j9 * 3 + 2, none⟩ = some (.string y3) := (H.out.below HB.out).cellAt HX.out hlt 2 _ rfl
                      have HF104 := Lib.hid (blk_alloc HBX.out (.cells #[.int .i64 y1, .string y2, .string y3] 97 (0, 0)))
                      have HF105 := Lib.hid (blk_new wr (.cells #[.int .i64 y1, .string y2, .string y3] 97 (0, 0)))
                      have HB106 := Lib.hid (HB.out.alloc HB.out.size (.cells #[.int .i64 y1, .string y2, .string y3] 97 (0, 0)))
                      clear HB
                      have hc107 : (wr.alloc (.cells #[.int .i64 y1, .string y2, .string y3] 97 (0, 0))).cell? ⟨wr.heap.size, 0, none⟩ = some (.int .i64 y1) := by rw [cell_of_row _ _ _ _ _ _ HF105.out]; rfl
                      have hc108 : (wr.alloc (.cells #[.int .i64 y1, .string y2, .string y3] 97 (0, 0))).cell? ⟨wr.heap.size, 1, none⟩ = some (.string y2) := by rw [cell_of_row _ _ _ _ _ _ HF105.out]; rfl
                      have hc109 : (wr.alloc (.cells #[.int .i64 y1, .string y2, .string y3] 97 (0, 0))).cell? ⟨wr.heap.size, 2, none⟩ = some (.string y3) := by rw [cell_of_row _ _ _ _ _ _ HF105.out]; rfl
                      have hc110 : (wr.alloc (.cells #[.int .i64 y1, .string y2, .string y3] 97 (0, 0))).cell? ⟨w1.heap.size, 0, none⟩ = some (.int .i64 k) := by rw [cell_of_row _ _ _ _ _ _ HF104.out]; rfl
                      have hc111 : wr.cell? ⟨w1.heap.size, 0, none⟩ = some (.int .i64 k) := by rw [cell_of_row _ _ _ _ _ _ HBX.out]; rfl
                      have hc112 : (wr.alloc (.cells #[.int .i64 y1, .string y2, .string y3] 97 (0, 0))).cell? ⟨w1.heap.size, 1, none⟩ = some (.string s) := by rw [cell_of_row _ _ _ _ _ _ HF104.out]; rfl
                      have hc113 : wr.cell? ⟨w1.heap.size, 1, none⟩ = some (.string s) := by rw [cell_of_row _ _ _ _ _ _ HBX.out]; rfl
                      have hc114 : (wr.alloc (.cells #[.int .i64 y1, .string y2, .string y3] 97 (0, 0))).cell? ⟨w1.heap.size, 2, none⟩ = some (.string now) := by rw [cell_of_row _ _ _ _ _ _ HF104.out]; rfl
                      have hc115 : wr.cell? ⟨w1.heap.size, 2, none⟩ = some (.string now) := by rw [cell_of_row _ _ _ _ _ _ HBX.out]; rfl
                      have hl116 : w1.heap.size < wr.heap.size := lt_of_block HBX.out
                      have hl117 : ¬ w1.heap.size = wr.heap.size := by omega
                      have HO1 := Lib.hid (HO.out.alloc (.cells #[.int .i64 y1, .string y2, .string y3] 97 (0, 0)))
                      go_wp2_with fail
                      refine (HF.out (wr.alloc (.cells #[.int .i64 y1, .string y2, .string y3] 97 (0, 0)))).mono ?_
                      rintro e w11 ⟨rfl, hb11⟩
                      clear hc101 hc102 hc103 hc107 hc108 hc109 hc110 hc111 hc112 hc113 hc114 hc115 hl116 hl117
                      have HF118 := Lib.hid (blk_below HF104.out hb11)
                      have HF119 := Lib.hid (blk_below HF105.out hb11)
                      have HB120 := Lib.hid (HB106.out.trans (hb11.mono HB106.out.size))
                      have HQ121 := Lib.hid (HO1.out.laterR hb11)
                      clear HO1
                      clear hb11 HB106 HF104 HBX HF105
                      go_wp2_with fail
                      go_roundw
                      case rel => exact ⟨j9 + 1, v, M, rfl, by go_num, by omega, HR.out, HQ121.out, HF118.out, HB120.out⟩
                      case measure => simp [intOf] <;> omega
                  · have hd1 : decide ((j9 : Int) < (n : Int)) = false := decide_eq_false (by omega)
                    have HEE := Lib.hid (show l.take j9 = l from List.take_of_length_le (by rw [L.out]; omega))
                    go_wp2_with fail
                    go_ret2
                    refine ⟨v, by first | (rw [HV.out.1]; done) | (rw [HV.out.1]; rfl), ?_, HB.out⟩
                    rw [HV.out.2]
                    have k9 := HO.out
                    rw [HM.out, HEE.out] at k9
                    exact RV.own k9
    | false =>
      have ho2 : emB old = false := ho
      cases heq : (m.toList == old.toList) with
      | false =>
        cases hi : m.toList.isEmpty with
        | true =>
          have hi2 : emB m = true := hi
          have HV := Lib.hid (st_bad (HE.out.trans (by rw [if_neg (by rw [HOK.out]; simp), if_neg (fun q => by rw [ho2] at q; cases q.1), if_pos heq, if_neg (by rw [ho2]; simp), if_pos hi2])) (by decide))
          clear ho2 hi2
          clear HE HSL HSV
          have HB1 := Lib.hid (Below.refl w.heap.size w)
          go_enter Try.func61, Try.ntmps61
          go_wp2_with fail
          refine (HIN.out w).mono ?_
          rintro e w' ⟨rfl, rfl⟩
          go_wp2_with fail
          refine (HG.out w (H.out.below HB1.out)).mono ?_
          rintro e w1 ⟨rfl, hb1⟩
          have HB2 := Lib.hid (HB1.out.trans (hb1.mono HB1.out.size))
          clear hb1 HB1 
          go_wp2_with fail
          go_ret2
          exact ⟨_, by first | (rw [HV.out.1]; done) | (rw [HV.out.1]; rfl), by rw [HV.out.2]; exact RV.nil _, HB2.out⟩
        | false =>
          have hi2 : emB m = false := hi
          have HV := Lib.hid (st_bad (HE.out.trans (by rw [if_neg (by rw [HOK.out]; simp), if_neg (fun q => by rw [ho2] at q; cases q.1), if_pos heq, if_neg (by rw [ho2]; simp), if_neg (by rw [hi2]; simp)])) (by decide))
          clear ho2 hi2
          clear HE HSL HSV
          have HB1 := Lib.hid (Below.refl w.heap.size w)
          go_enter Try.func61, Try.ntmps61
          go_wp2_with fail
          refine (HIN.out w).mono ?_
          rintro e w' ⟨rfl, rfl⟩
          go_wp2_with fail
          refine (HG.out w (H.out.below HB1.out)).mono ?_
          rintro e w1 ⟨rfl, hb1⟩
          have HB2 := Lib.hid (HB1.out.trans (hb1.mono HB1.out.size))
          clear hb1 HB1 
          go_wp2_with fail
          go_ret2
          exact ⟨_, by first | (rw [HV.out.1]; done) | (rw [HV.out.1]; rfl), by rw [HV.out.2]; exact RV.nil _, HB2.out⟩
      | true =>
        have hz : stE l k s old now = 0 := HE.out.trans (by rw [if_neg (by rw [HOK.out]; simp), if_neg (fun q => by rw [ho2] at q; cases q.1), if_neg (by rw [heq]; simp), if_neg (fun q => by rw [ho2] at q; cases q.1)])
        cases hw : now.toList.isEmpty with
        | true =>
          have hw2 : emB now = true := hw
          have HV := Lib.hid (show stE l k s old now = 0 ∧ stV l k s old now = l.filter (fun a => lessR a (k, s, now)) ++ l.filter (fun a => lessR (k, s, now) a) from ⟨hz, by rw [HSV.out hz, HSL.out, if_pos hw2, List.append_nil]⟩)
          clear ho2 hw2 hz
          clear HE HSL HSV
          have HB1 := Lib.hid (Below.refl w.heap.size w)
          go_enter Try.func61, Try.ntmps61
          go_wp2_with fail
          refine (HIN.out w).mono ?_
          rintro e w' ⟨rfl, rfl⟩
          go_wp2_with fail
          refine (HG.out w (H.out.below HB1.out)).mono ?_
          rintro e w1 ⟨rfl, hb1⟩
          have HB2 := Lib.hid (HB1.out.trans (hb1.mono HB1.out.size))
          clear hb1 HB1 
          have hw1 : w.heap.size ≤ w1.heap.size := HB2.out.size
          have HF3 := Lib.hid (blk_new w1 (.cells #[.int .i64 k, .string s, .string now] 97 (0, 0)))
          have HB4 := Lib.hid (HB2.out.alloc HB2.out.size (.cells #[.int .i64 k, .string s, .string now] 97 (0, 0)))
          clear HB2
          go_wp2_with fail
          go_loopw [14, 62] (fun vv i wr => ∃ (k9 : Nat) (v : Value) (M : List Rf), v = vv ∧ i = .int .i64 (k9 : Int) ∧ k9 ≤ n ∧ M = (l.take k9).filter (fun a => lessR a (k, s, now)) ∧ OwX rfC 3 97 wr (w1.heap.size + 1) v M ∧ wr.heap[w1.heap.size]? = some (.cells #[.int .i64 k, .string s, .string now] 97 (0, 0)) ∧ Below w.heap.size w wr) (fun _ i _ => n - (intOf i).toNat)
          case atStart => exact ⟨0, _, [], rfl, rfl, Nat.zero_le _, rfl, OwX.nil _, HF3.out, HB4.out⟩
          case round =>
            obtain ⟨k9, v, M, rfl, rfl, hk, hM, how, hbx, hb⟩ := hrel
            have HM := Lib.hid hM
            have HO := Lib.hid how
            have HBX := Lib.hid hbx
            have HB := Lib.hid hb
            have hv := how.one
            have hCw := lt_of_block hbx
            clear hM how hbx hb
            by_cases hlt : k9 < n
            · have hd1 : decide ((k9 : Int) < (n : Int)) = true := decide_eq_true (by omega)
              obtain ⟨b, off, hl, rfl, hbb, _⟩ := (H.out.below HB.out).at hlt
              have HFT := Lib.hid (filtR_take (fun a => lessR a (k, s, now)) l k9 hl)
              have hfl := filtR_len (fun a => lessR a (k, s, now)) l k9
              obtain ⟨y, hy⟩ : ∃ y, l[k9] = y := ⟨_, rfl⟩
              have HX := Lib.hid (show l[k9]? = some y by rw [List.getElem?_eq_getElem hl, hy])
              rw [hy] at HFT
              obtain ⟨y1, y2, y3⟩ := y
              have hi0 : (0 : Int) ≤ (k9 : Int) := by omega
              clear hy
              have HF := Lib.hid (fun W : World => rfless_any y1 y2 y3 k s now W)
              cases hq : lessR (y1, y2, y3) (k, s, now) with
              | true =>
                rw [hq] at HF
                have HR := Lib.hid (show M ++ [(y1, y2, y3)] = (l.take (k9 + 1)).filter (fun a => lessR a (k, s, now)) by rw [HFT.out, if_pos hq, HM.out])
                have hML : M.length ≤ 200002 := by rw [HM.out]; omega
                clear hq
                have hc101 : wr.cell? ⟨b, off + k9 * 3, none⟩ = some (.int .i64 y1) := (H.out.below HB.out).cellAt HX.out hlt 0 _ rfl
                have hc102 : wr.cell? ⟨b, off + k9 * 3 + 1, none⟩ = some (.string y2) := (H.out.below HB.out).cellAt HX.out hlt 1 _ rfl
                have hc103 : wr.cell? ⟨b, off + k9 * 3 + 2, none⟩ = some (.string y3) := (H.out.below HB.out).cellAt HX.out hlt 2 _ rfl
                have HF104 := Lib.hid (blk_alloc HBX.out (.cells #[.int .i64 y1, .string y2, .string y3] 97 (0, 0)))
                have HF105 := Lib.hid (blk_new wr (.cells #[.int .i64 y1, .string y2, .string y3] 97 (0, 0)))
                have HB106 := Lib.hid (HB.out.alloc HB.out.size (.cells #[.int .i64 y1, .string y2, .string y3] 97 (0, 0)))
                clear HB
                have hc107 : (wr.alloc (.cells #[.int .i64 y1, .string y2, .string y3] 97 (0, 0))).cell? ⟨wr.heap.size, 0, none⟩ = some (.int .i64 y1) := by rw [cell_of_row _ _ _ _ _ _ HF105.out]; rfl
                have hc108 : (wr.alloc (.cells #[.int .i64 y1, .string y2, .string y3] 97 (0, 0))).cell? ⟨wr.heap.size, 1, none⟩ = some (.string y2) := by rw [cell_of_row _ _ _ _ _ _ HF105.out]; rfl
                have hc109 : (wr.alloc (.cells #[.int .i64 y1, .string y2, .string y3] 97 (0, 0))).cell? ⟨wr.heap.size, 2, none⟩ = some (.string y3) := by rw [cell_of_row _ _ _ _ _ _ HF105.out]; rfl
                have hc110 : (wr.alloc (.cells #[.int .i64 y1, .string y2, .string y3] 97 (0, 0))).cell? ⟨w1.heap.size, 0, none⟩ = some (.int .i64 k) := by rw [cell_of_row _ _ _ _ _ _ HF104.out]; rfl
                have hc111 : wr.cell? ⟨w1.heap.size, 0, none⟩ = some (.int .i64 k) := by rw [cell_of_row _ _ _ _ _ _ HBX.out]; rfl
                have hc112 : (wr.alloc (.cells #[.int .i64 y1, .string y2, .string y3] 97 (0, 0))).cell? ⟨w1.heap.size, 1, none⟩ = some (.string s) := by rw [cell_of_row _ _ _ _ _ _ HF104.out]; rfl
                have hc113 : wr.cell? ⟨w1.heap.size, 1, none⟩ = some (.string s) := by rw [cell_of_row _ _ _ _ _ _ HBX.out]; rfl
                have hc114 : (wr.alloc (.cells #[.int .i64 y1, .string y2, .string y3] 97 (0, 0))).cell? ⟨w1.heap.size, 2, none⟩ = some (.string now) := by rw [cell_of_row _ _ _ _ _ _ HF104.out]; rfl
                have hc115 : wr.cell? ⟨w1.heap.size, 2, none⟩ = some (.string now) := by rw [cell_of_row _ _ _ _ _ _ HBX.out]; rfl
                have hl116 : w1.heap.size < wr.heap.size := lt_of_block HBX.out
                have hl117 : ¬ w1.heap.size = wr.heap.size := by omega
                have HO1 := Lib.hid (HO.out.alloc (.cells #[.int .i64 y1, .string y2, .string y3] 97 (0, 0)))
                go_wp2_with fail
                refine (HF.out (wr.alloc (.cells #[.int .i64 y1, .string y2, .string y3] 97 (0, 0)))).mono ?_
                rintro e w11 ⟨rfl, hb11⟩
                clear hc101 hc102 hc103 hc107 hc108 hc109 hc110 hc111 hc112 hc113 hc114 hc115 hl116 hl117
                have HF118 := Lib.hid (blk_below HF104.out hb11)
                have HF119 := Lib.hid (blk_below HF105.out hb11)
                have HB120 := Lib.hid (HB106.out.trans (hb11.mono HB106.out.size))
                have HQ121 := Lib.hid (HO1.out.laterR hb11)
                clear HO1
                clear hb11 HB106 HF104 HBX HF105
                have hc122 : w11.cell? ⟨wr.heap.size, 0, none⟩ = some (.int .i64 y1) := by rw [cell_of_row _ _ _ _ _ _ HF119.out]; rfl
                have hc123 : w11.cell? ⟨wr.heap.size, 1, none⟩ = some (.string y2) := by rw [cell_of_row _ _ _ _ _ _ HF119.out]; rfl
                have hc124 : w11.cell? ⟨wr.heap.size, 2, none⟩ = some (.string y3) := by rw [cell_of_row _ _ _ _ _ _ HF119.out]; rfl
                have hz1 : w1.heap.size + 1 ≤ w11.heap.size := by have := lt_of_block HF118.out; omega
                have HRa := Lib.hid (Below.refl (w1.heap.size + 1) w11)
                go_wp2_with (at_builtin; refine wpList_appX rfl (.tmp 69) (.tmp 71) 93 97 _ 40 rfl Try.underlying93 info_rfB rfl (by omega) (by omega) rfC_len rfC_one (w1.heap.size + 1) w11 (HRa.out.alloc hz1 _) (by simp; omega) v _ rfl (HQ121.out.alloc _) w11.heap.size 1 (y1, y2, y3) #[.int .i64 y1, .string y2, .string y3] 97 (0, 0) rfl (heap_alloc_new w11 _) rfl (by omega) ?_)
                intro v7 w7 HO7 HB7 HZ7 HG7
                clear hc122 hc123 hc124
                have HX7 := Lib.hid ((HB7.out.block (w1.heap.size) (by omega)).trans HF118.out)
                have HL7 := Lib.hid (HB120.out.trans (HB7.out.mono (by omega)))
                have hv7 := HO7.out.one
                go_wp2_with fail
                go_roundw
                case rel => exact ⟨k9 + 1, v7, _, rfl, by go_num, by omega, HR.out, HO7.out, HX7.out, HL7.out⟩
                case measure => simp [intOf] <;> omega
              | false =>
                rw [hq] at HF
                have HR := Lib.hid (show M = (l.take (k9 + 1)).filter (fun a => lessR a (k, s, now)) by rw [HFT.out, if_neg (by rw [hq]; simp), List.append_nil, HM.out])
                clear hq
                have hc101 : wr.cell? ⟨b, off + k9 * 3, none⟩ = some (.int .i64 y1) := (H.out.below HB.out).cellAt HX.out hlt 0 _ rfl
                have hc102 : wr.cell? ⟨b, off + k9 * 3 + 1, none⟩ = some (.string y2) := (H.out.below HB.out).cellAt HX.out hlt 1 _ rfl
                have hc103 : wr.cell? ⟨b, off + k9 * 3 + 2, none⟩ = some (.string y3) := (H.out.below HB.out).cellAt HX.out hlt 2 _ rfl
                have HF104 := Lib.hid (blk_alloc HBX.out (.cells #[.int .i64 y1, .string y2, .string y3] 97 (0, 0)))
                have HF105 := Lib.hid (blk_new wr (.cells #[.int .i64 y1, .string y2, .string y3] 97 (0, 0)))
                have HB106 := Lib.hid (HB.out.alloc HB.out.size (.cells #[.int .i64 y1, .string y2, .string y3] 97 (0, 0)))
                clear HB
                have hc107 : (wr.alloc (.cells #[.int .i64 y1, .string y2, .string y3] 97 (0, 0))).cell? ⟨wr.heap.size, 0, none⟩ = some (.int .i64 y1) := by rw [cell_of_row _ _ _ _ _ _ HF105.out]; rfl
                have hc108 : (wr.alloc (.cells #[.int .i64 y1, .string y2, .string y3] 97 (0, 0))).cell? ⟨wr.heap.size, 1, none⟩ = some (.string y2) := by rw [cell_of_row _ _ _ _ _ _ HF105.out]; rfl
                have hc109 : (wr.alloc (.cells #[.int .i64 y1, .string y2, .string y3] 97 (0, 0))).cell? ⟨wr.heap.size, 2, none⟩ = some (.string y3) := by rw [cell_of_row _ _ _ _ _ _ HF105.out]; rfl
                have hc110 : (wr.alloc (.cells #[.int .i64 y1, .string y2, .string y3] 97 (0, 0))).cell? ⟨w1.heap.size, 0, none⟩ = some (.int .i64 k) := by rw [cell_of_row _ _ _ _ _ _ HF104.out]; rfl
                have hc111 : wr.cell? ⟨w1.heap.size, 0, none⟩ = some (.int .i64 k) := by rw [cell_of_row _ _ _ _ _ _ HBX.out]; rfl
                have hc112 : (wr.alloc (.cells #[.int .i64 y1, .string y2, .string y3] 97 (0, 0))).cell? ⟨w1.heap.size, 1, none⟩ = some (.string s) := by rw [cell_of_row _ _ _ _ _ _ HF104.out]; rfl
                have hc113 : wr.cell? ⟨w1.heap.size, 1, none⟩ = some (.string s) := by rw [cell_of_row _ _ _ _ _ _ HBX.out]; rfl
                have hc114 : (wr.alloc (.cells #[.int .i64 y1, .string y2, .string y3] 97 (0, 0))).cell? ⟨w1.heap.size, 2, none⟩ = some (.string now) := by rw [cell_of_row _ _ _ _ _ _ HF104.out]; rfl
                have hc115 : wr.cell? ⟨w1.heap.size, 2, none⟩ = some (.string now) := by rw [cell_of_row _ _ _ _ _ _ HBX.out]; rfl
                have hl116 : w1.heap.size < wr.heap.size := lt_of_block HBX.out
                have hl117 : ¬ w1.heap.size = wr.heap.size := by omega
                have HO1 := Lib.hid (HO.out.alloc (.cells #[.int .i64 y1, .string y2, .string y3] 97 (0, 0)))
                go_wp2_with fail
                refine (HF.out (wr.alloc (.cells #[.int .i64 y1, .string y2, .string y3] 97 (0, 0)))).mono ?_
                rintro e w11 ⟨rfl, hb11⟩
                clear hc101 hc102 hc103 hc107 hc108 hc109 hc110 hc111 hc112 hc113 hc114 hc115 hl116 hl117
                have HF118 := Lib.hid (blk_below HF104.out hb11)
                have HF119 := Lib.hid (blk_below HF105.out hb11)
                have HB120 := Lib.hid (HB106.out.trans (hb11.mono HB106.out.size))
                have HQ121 := Lib.hid (HO1.out.laterR hb11)
                clear HO1
                clear hb11 HB106 HF104 HBX HF105
                go_wp2_with fail
                go_roundw
                case rel => exact ⟨k9 + 1, v, M, rfl, by go_num, by omega, HR.out, HQ121.out, HF118.out, HB120.out⟩
                case measure => simp [intOf] <;> omega
            · have hd1 : decide ((k9 : Int) < (n : Int)) = false := decide_eq_false (by omega)
              have HEE := Lib.hid (show l.take k9 = l from List.take_of_length_le (by rw [L.out]; omega))
              have HM1 := Lib.hid (show M = l.filter (fun a => lessR a (k, s, now)) by rw [HM.out, HEE.out])
              have HFL := Lib.hid (show (l.filter (fun a => lessR a (k, s, now))).length ≤ 100000 by have := List.length_filter_le (fun a => lessR a (k, s, now)) l; have := L.out; omega)
              rw [HM1.out] at HO
              have HO7 := HO
              have HX7 := HBX
              have HL7 := HB
              obtain ⟨v7, hv7e⟩ : ∃ v7, v7 = v := ⟨_, rfl⟩
              subst hv7e
              have hv7 := hv
              go_wp2_with fail
              clear hd1
              clear HB HO HBX hv hCw HM HEE
              go_loopw [14, 82] (fun vv i wr => ∃ (j9 : Nat) (v : Value) (M : List Rf), v = vv ∧ i = .int .i64 (j9 : Int) ∧ j9 ≤ n ∧ M = l.filter (fun a => lessR a (k, s, now)) ++ (l.take j9).filter (fun a => lessR (k, s, now) a) ∧ OwX rfC 3 97 wr (w1.heap.size + 1) v M ∧ wr.heap[w1.heap.size]? = some (.cells #[.int .i64 k, .string s, .string now] 97 (0, 0)) ∧ Below w.heap.size w wr) (fun _ i _ => n - (intOf i).toNat)
              case atStart => exact ⟨0, v7, _, rfl, rfl, Nat.zero_le _, by rw [List.take_zero, List.filter_nil, List.append_nil], HO7.out, HX7.out, HL7.out⟩
              case round =>
                obtain ⟨j9, v, M, rfl, rfl, hk, hM, how, hbx, hb⟩ := hrel
                have HM := Lib.hid hM
                have HO := Lib.hid how
                have HBX := Lib.hid hbx
                have HB := Lib.hid hb
                have hv := how.one
                have hCw := lt_of_block hbx
                clear hM how hbx hb
                by_cases hlt : j9 < n
                · have hd1 : decide ((j9 : Int) < (n : Int)) = true := decide_eq_true (by omega)
                  obtain ⟨b, off, hl, rfl, hbb, _⟩ := (H.out.below HB.out).at hlt
                  have HFT := Lib.hid (filtR_take (fun a => lessR (k, s, now) a) l j9 hl)
                  have hfl := filtR_len (fun a => lessR (k, s, now) a) l j9
                  obtain ⟨y, hy⟩ : ∃ y, l[j9] = y := ⟨_, rfl⟩
                  have HX := Lib.hid (show l[j9]? = some y by rw [List.getElem?_eq_getElem hl, hy])
                  rw [hy] at HFT
                  obtain ⟨y1, y2, y3⟩ := y
                  have hi0 : (0 : Int) ≤ (j9 : Int) := by omega
                  clear hy
                  have HF := Lib.hid (fun W : World => rfless_any k s now y1 y2 y3 W)
                  cases hq : lessR (k, s, now) (y1, y2, y3) with
                  | true =>
                    rw [hq] at HF
                    have HR := Lib.hid (show M ++ [(y1, y2, y3)] = l.filter (fun a => lessR a (k, s, now)) ++ (l.take (j9 + 1)).filter (fun a => lessR (k, s, now) a) by rw [HFT.out, if_pos hq, ← List.append_assoc, HM.out])
                    have hML : M.length ≤ 200002 := by rw [HM.out]; simp only [List.length_append]; have := HFL.out; omega
                    clear hq
                    have hc101 : wr.cell? ⟨b, off + j9 * 3, none⟩ = some (.int .i64 y1) := (H.out.below HB.out).cellAt HX.out hlt 0 _ rfl
                    have hc102 : wr.cell? ⟨b, off + j9 * 3 + 1, none⟩ = some (.string y2) := (H.out.below HB.out).cellAt HX.out hlt 1 _ rfl
                    have hc103 : wr.cell? ⟨b, off + j9 * 3 + 2, none⟩ = some (.string y3) := (H.out.below HB.out).cellAt HX.out hlt 2 _ rfl
                    have HF104 := Lib.hid (blk_alloc HBX.out (.cells #[.int .i64 y1, .string y2, .string y3] 97 (0, 0)))
                    have HF105 := Lib.hid (blk_new wr (.cells #[.int .i64 y1, .string y2, .string y3] 97 (0, 0)))
                    have HB106 := Lib.hid (HB.out.alloc HB.out.size (.cells #[.int .i64 y1, .string y2, .string y3] 97 (0, 0)))
                    clear HB
                    have hc107 : (wr.alloc (.cells #[.int .i64 y1, .string y2, .string y3] 97 (0, 0))).cell? ⟨wr.heap.size, 0, none⟩ = some (.int .i64 y1) := by rw [cell_of_row _ _ _ _ _ _ HF105.out]; rfl
                    have hc108 : (wr.alloc (.cells #[.int .i64 y1, .string y2, .string y3] 97 (0, 0))).cell? ⟨wr.heap.size, 1, none⟩ = some (.string y2) := by rw [cell_of_row _ _ _ _ _ _ HF105.out]; rfl
                    have hc109 : (wr.alloc (.cells #[.int .i64 y1, .string y2, .string y3] 97 (0, 0))).cell? ⟨wr.heap.size, 2, none⟩ = some (.string y3) := by rw [cell_of_row _ _ _ _ _ _ HF105.out]; rfl
                    have hc110 : (wr.alloc (.cells #[.int .i64 y1, .string y2, .string y3] 97 (0, 0))).cell? ⟨w1.heap.size, 0, none⟩ = some (.int .i64 k) := by rw [cell_of_row _ _ _ _ _ _ HF104.out]; rfl
                    have hc111 : wr.cell? ⟨w1.heap.size, 0, none⟩ = some (.int .i64 k) := by rw [cell_of_row _ _ _ _ _ _ HBX.out]; rfl
                    have hc112 : (wr.alloc (.cells #[.int .i64 y1, .string y2, .string y3] 97 (0, 0))).cell? ⟨w1.heap.size, 1, none⟩ = some (.string s) := by rw [cell_of_row _ _ _ _ _ _ HF104.out]; rfl
                    have hc113 : wr.cell? ⟨w1.heap.size, 1, none⟩ = some (.string s) := by rw [cell_of_row _ _ _ _ _ _ HBX.out]; rfl
                    have hc114 : (wr.alloc (.cells #[.int .i64 y1, .string y2, .string y3] 97 (0, 0))).cell? ⟨w1.heap.size, 2, none⟩ = some (.string now) := by rw [cell_of_row _ _ _ _ _ _ HF104.out]; rfl
                    have hc115 : wr.cell? ⟨w1.heap.size, 2, none⟩ = some (.string now) := by rw [cell_of_row _ _ _ _ _ _ HBX.out]; rfl
                    have hl116 : w1.heap.size < wr.heap.size := lt_of_block HBX.out
                    have hl117 : ¬ w1.heap.size = wr.heap.size := by omega
                    have HO1 := Lib.hid (HO.out.alloc (.cells #[.int .i64 y1, .string y2, .string y3] 97 (0, 0)))
                    go_wp2_with fail
                    refine (HF.out (wr.alloc (.cells #[.int .i64 y1, .string y2, .string y3] 97 (0, 0)))).mono ?_
                    rintro e w11 ⟨rfl, hb11⟩
                    clear hc101 hc102 hc103 hc107 hc108 hc109 hc110 hc111 hc112 hc113 hc114 hc115 hl116 hl117
                    have HF118 := Lib.hid (blk_below HF104.out hb11)
                    have HF119 := Lib.hid (blk_below HF105.out hb11)
                    have HB120 := Lib.hid (HB106.out.trans (hb11.mono HB106.out.size))
                    have HQ121 := Lib.hid (HO1.out.laterR hb11)
                    clear HO1
                    clear hb11 HB106 HF104 HBX HF105
                    have hc122 : w11.cell? ⟨wr.heap.size, 0, none⟩ = some (.int .i64 y1) := by rw [cell_of_row _ _ _ _ _ _ HF119.out]; rfl
                    have hc123 : w11.cell? ⟨wr.heap.size, 1, none⟩ = some (.string y2) := by rw [cell_of_row _ _ _ _ _ _ HF119.out]; rfl
                    have hc124 : w11.cell? ⟨wr.heap.size, 2, none⟩ = some (.string y3) := by rw [cell_of_row _ _ _ _ _ _ HF119.out]; rfl
                    have hz1 : w1.heap.size + 1 ≤ w11.heap.size := by have := lt_of_block HF118.out; omega
                    have HRa := Lib.hid (Below.refl (w1.heap.size + 1) w11)
                    go_wp2_with (at_builtin; refine wpList_appX rfl (.tmp 89) (.tmp 91) 93 97 _ 40 rfl Try.underlying93 info_rfB rfl (by omega) (by omega) rfC_len rfC_one (w1.heap.size + 1) w11 (HRa.out.alloc hz1 _) (by simp; omega) v _ rfl (HQ121.out.alloc _) w11.heap.size 1 (y1, y2, y3) #[.int .i64 y1, .string y2, .string y3] 97 (0, 0) rfl (heap_alloc_new w11 _) rfl (by omega) ?_)
                    intro v7 w7 HO7 HB7 HZ7 HG7
                    clear hc122 hc123 hc124
                    have HX7 := Lib.hid ((HB7.out.block (w1.heap.size) (by omega)).trans HF118.out)
                    have HL7 := Lib.hid (HB120.out.trans (HB7.out.mono (by omega)))
                    have hv7 := HO7.out.one
                    go_wp2_with fail
                    go_roundw
                    case rel => exact ⟨j9 + 1, v7, _, rfl, by go_num, by omega, HR.out, HO7.out, HX7.out, HL7.out⟩
                    case measure => simp [intOf] <;> omega
                  | false =>
                    rw [hq] at HF
                    have HR := Lib.hid (show M = l.filter (fun a => lessR a (k, s, now)) ++ (l.take (j9 + 1)).filter (fun a => lessR (k, s, now) a) by rw [HFT.out, if_neg (by rw [hq]; simp), List.append_nil, HM.out])
                    clear hq
                    have hc101 : wr.cell? ⟨b, off + j9 * 3, none⟩ = some (.int .i64 y1) := (H.out.below HB.out).cellAt HX.out hlt 0 _ rfl
                    have hc102 : wr.cell? ⟨b, off + j9 * 3 + 1, none⟩ = some (.string y2) := (H.out.below HB.out).cellAt HX.out hlt 1 _ rfl
                    have hc103 : wr.cell? ⟨b, off + j9 * 3 + 2, none⟩ = some (.string y3) := (H.out.below HB.out).cellAt HX.out hlt 2 _ rfl
                    have HF104 := Lib.hid (blk_alloc HBX.out (.cells #[.int .i64 y1, .string y2, .string y3] 97 (0, 0)))
                    have HF105 := Lib.hid (blk_new wr (.cells #[.int .i64 y1, .string y2, .string y3] 97 (0, 0)))
                    have HB106 := Lib.hid (HB.out.alloc HB.out.size (.cells #[.int .i64 y1, .string y2, .string y3] 97 (0, 0)))
                    clear HB
                    have hc107 : (wr.alloc (.cells #[.int .i64 y1, .string y2, .string y3] 97 (0, 0))).cell? ⟨wr.heap.size, 0, none⟩ = some (.int .i64 y1) := by rw [cell_of_row _ _ _ _ _ _ HF105.out]; rfl
                    have hc108 : (wr.alloc (.cells #[.int .i64 y1, .string y2, .string y3] 97 (0, 0))).cell? ⟨wr.heap.size, 1, none⟩ = some (.string y2) := by rw [cell_of_row _ _ _ _ _ _ HF105.out]; rfl
                    have hc109 : (wr.alloc (.cells #[.int .i64 y1, .string y2, .string y3] 97 (0, 0))).cell? ⟨wr.heap.size, 2, none⟩ = some (.string y3) := by rw [cell_of_row _ _ _ _ _ _ HF105.out]; rfl
                    have hc110 : (wr.alloc (.cells #[.int .i64 y1, .string y2, .string y3] 97 (0, 0))).cell? ⟨w1.heap.size, 0, none⟩ = some (.int .i64 k) := by rw [cell_of_row _ _ _ _ _ _ HF104.out]; rfl
                    have hc111 : wr.cell? ⟨w1.heap.size, 0, none⟩ = some (.int .i64 k) := by rw [cell_of_row _ _ _ _ _ _ HBX.out]; rfl
                    have hc112 : (wr.alloc (.cells #[.int .i64 y1, .string y2, .string y3] 97 (0, 0))).cell? ⟨w1.heap.size, 1, none⟩ = some (.string s) := by rw [cell_of_row _ _ _ _ _ _ HF104.out]; rfl
                    have hc113 : wr.cell? ⟨w1.heap.size, 1, none⟩ = some (.string s) := by rw [cell_of_row _ _ _ _ _ _ HBX.out]; rfl
                    have hc114 : (wr.alloc (.cells #[.int .i64 y1, .string y2, .string y3] 97 (0, 0))).cell? ⟨w1.heap.size, 2, none⟩ = some (.string now) := by rw [cell_of_row _ _ _ _ _ _ HF104.out]; rfl
                    have hc115 : wr.cell? ⟨w1.heap.size, 2, none⟩ = some (.string now) := by rw [cell_of_row _ _ _ _ _ _ HBX.out]; rfl
                    have hl116 : w1.heap.size < wr.heap.size := lt_of_block HBX.out
                    have hl117 : ¬ w1.heap.size = wr.heap.size := by omega
                    have HO1 := Lib.hid (HO.out.alloc (.cells #[.int .i64 y1, .string y2, .string y3] 97 (0, 0)))
                    go_wp2_with fail
                    refine (HF.out (wr.alloc (.cells #[.int .i64 y1, .string y2, .string y3] 97 (0, 0)))).mono ?_
                    rintro e w11 ⟨rfl, hb11⟩
                    clear hc101 hc102 hc103 hc107 hc108 hc109 hc110 hc111 hc112 hc113 hc114 hc115 hl116 hl117
                    have HF118 := Lib.hid (blk_below HF104.out hb11)
                    have HF119 := Lib.hid (blk_below HF105.out hb11)
                    have HB120 := Lib.hid (HB106.out.trans (hb11.mono HB106.out.size))
                    have HQ121 := Lib.hid (HO1.out.laterR hb11)
                    clear HO1
                    clear hb11 HB106 HF104 HBX HF105
                    go_wp2_with fail
                    go_roundw
                    case rel => exact ⟨j9 + 1, v, M, rfl, by go_num, by omega, HR.out, HQ121.out, HF118.out, HB120.out⟩
                    case measure => simp [intOf] <;> omega
                · have hd1 : decide ((j9 : Int) < (n : Int)) = false := decide_eq_false (by omega)
                  have HEE := Lib.hid (show l.take j9 = l from List.take_of_length_le (by rw [L.out]; omega))
                  go_wp2_with fail
                  go_ret2
                  refine ⟨v, by first | (rw [HV.out.1]; done) | (rw [HV.out.1]; rfl), ?_, HB.out⟩
                  rw [HV.out.2]
                  have k9 := HO.out
                  rw [HM.out, HEE.out] at k9
                  exact RV.own k9
        | false =>
          have hw2 : emB now = false := hw
          have HV := Lib.hid (show stE l k s old now = 0 ∧ stV l k s old now = (l.filter (fun a => lessR a (k, s, now)) ++ [(k, s, now)]) ++ l.filter (fun a => lessR (k, s, now) a) from ⟨hz, by rw [HSV.out hz, HSL.out, if_neg (by rw [hw2]; simp)]⟩)
          clear ho2 hw2 hz
          clear HE HSL HSV
          have HB1 := Lib.hid (Below.refl w.heap.size w)
          go_enter Try.func61, Try.ntmps61
          go_wp2_with fail
          refine (HIN.out w).mono ?_
          rintro e w' ⟨rfl, rfl⟩
          go_wp2_with fail
          refine (HG.out w (H.out.below HB1.out)).mono ?_
          rintro e w1 ⟨rfl, hb1⟩
          have HB2 := Lib.hid (HB1.out.trans (hb1.mono HB1.out.size))
          clear hb1 HB1 
          have hw1 : w.heap.size ≤ w1.heap.size := HB2.out.size
          have HF3 := Lib.hid (blk_new w1 (.cells #[.int .i64 k, .string s, .string now] 97 (0, 0)))
          have HB4 := Lib.hid (HB2.out.alloc HB2.out.size (.cells #[.int .i64 k, .string s, .string now] 97 (0, 0)))
          clear HB2
          go_wp2_with fail
          go_loopw [14, 62] (fun vv i wr => ∃ (k9 : Nat) (v : Value) (M : List Rf), v = vv ∧ i = .int .i64 (k9 : Int) ∧ k9 ≤ n ∧ M = (l.take k9).filter (fun a => lessR a (k, s, now)) ∧ OwX rfC 3 97 wr (w1.heap.size + 1) v M ∧ wr.heap[w1.heap.size]? = some (.cells #[.int .i64 k, .string s, .string now] 97 (0, 0)) ∧ Below w.heap.size w wr) (fun _ i _ => n - (intOf i).toNat)
          case atStart => exact ⟨0, _, [], rfl, rfl, Nat.zero_le _, rfl, OwX.nil _, HF3.out, HB4.out⟩
          case round =>
            obtain ⟨k9, v, M, rfl, rfl, hk, hM, how, hbx, hb⟩ := hrel
            have HM := Lib.hid hM
            have HO := Lib.hid how
            have HBX := Lib.hid hbx
            have HB := Lib.hid hb
            have hv := how.one
            have hCw := lt_of_block hbx
            clear hM how hbx hb
            by_cases hlt : k9 < n
            · have hd1 : decide ((k9 : Int) < (n : Int)) = true := decide_eq_true (by omega)
              obtain ⟨b, off, hl, rfl, hbb, _⟩ := (H.out.below HB.out).at hlt
              have HFT := Lib.hid (filtR_take (fun a => lessR a (k, s, now)) l k9 hl)
              have hfl := filtR_len (fun a => lessR a (k, s, now)) l k9
              obtain ⟨y, hy⟩ : ∃ y, l[k9] = y := ⟨_, rfl⟩
              have HX := Lib.hid (show l[k9]? = some y by rw [List.getElem?_eq_getElem hl, hy])
              rw [hy] at HFT
              obtain ⟨y1, y2, y3⟩ := y
              have hi0 : (0 : Int) ≤ (k9 : Int) := by omega
              clear hy
              have HF := Lib.hid (fun W : World => rfless_any y1 y2 y3 k s now W)
              cases hq : lessR (y1, y2, y3) (k, s, now) with
              | true =>
                rw [hq] at HF
                have HR := Lib.hid (show M ++ [(y1, y2, y3)] = (l.take (k9 + 1)).filter (fun a => lessR a (k, s, now)) by rw [HFT.out, if_pos hq, HM.out])
                have hML : M.length ≤ 200002 := by rw [HM.out]; omega
                clear hq
                have hc101 : wr.cell? ⟨b, off + k9 * 3, none⟩ = some (.int .i64 y1) := (H.out.below HB.out).cellAt HX.out hlt 0 _ rfl
                have hc102 : wr.cell? ⟨b, off + k9 * 3 + 1, none⟩ = some (.string y2) := (H.out.below HB.out).cellAt HX.out hlt 1 _ rfl
                have hc103 : wr.cell? ⟨b, off + k9 * 3 + 2, none⟩ = some (.string y3) := (H.out.below HB.out).cellAt HX.out hlt 2 _ rfl
                have HF104 := Lib.hid (blk_alloc HBX.out (.cells #[.int .i64 y1, .string y2, .string y3] 97 (0, 0)))
                have HF105 := Lib.hid (blk_new wr (.cells #[.int .i64 y1, .string y2, .string y3] 97 (0, 0)))
                have HB106 := Lib.hid (HB.out.alloc HB.out.size (.cells #[.int .i64 y1, .string y2, .string y3] 97 (0, 0)))
                clear HB
                have hc107 : (wr.alloc (.cells #[.int .i64 y1, .string y2, .string y3] 97 (0, 0))).cell? ⟨wr.heap.size, 0, none⟩ = some (.int .i64 y1) := by rw [cell_of_row _ _ _ _ _ _ HF105.out]; rfl
                have hc108 : (wr.alloc (.cells #[.int .i64 y1, .string y2, .string y3] 97 (0, 0))).cell? ⟨wr.heap.size, 1, none⟩ = some (.string y2) := by rw [cell_of_row _ _ _ _ _ _ HF105.out]; rfl
                have hc109 : (wr.alloc (.cells #[.int .i64 y1, .string y2, .string y3] 97 (0, 0))).cell? ⟨wr.heap.size, 2, none⟩ = some (.string y3) := by rw [cell_of_row _ _ _ _ _ _ HF105.out]; rfl
                have hc110 : (wr.alloc (.cells #[.int .i64 y1, .string y2, .string y3] 97 (0, 0))).cell? ⟨w1.heap.size, 0, none⟩ = some (.int .i64 k) := by rw [cell_of_row _ _ _ _ _ _ HF104.out]; rfl
                have hc111 : wr.cell? ⟨w1.heap.size, 0, none⟩ = some (.int .i64 k) := by rw [cell_of_row _ _ _ _ _ _ HBX.out]; rfl
                have hc112 : (wr.alloc (.cells #[.int .i64 y1, .string y2, .string y3] 97 (0, 0))).cell? ⟨w1.heap.size, 1, none⟩ = some (.string s) := by rw [cell_of_row _ _ _ _ _ _ HF104.out]; rfl
                have hc113 : wr.cell? ⟨w1.heap.size, 1, none⟩ = some (.string s) := by rw [cell_of_row _ _ _ _ _ _ HBX.out]; rfl
                have hc114 : (wr.alloc (.cells #[.int .i64 y1, .string y2, .string y3] 97 (0, 0))).cell? ⟨w1.heap.size, 2, none⟩ = some (.string now) := by rw [cell_of_row _ _ _ _ _ _ HF104.out]; rfl
                have hc115 : wr.cell? ⟨w1.heap.size, 2, none⟩ = some (.string now) := by rw [cell_of_row _ _ _ _ _ _ HBX.out]; rfl
                have hl116 : w1.heap.size < wr.heap.size := lt_of_block HBX.out
                have hl117 : ¬ w1.heap.size = wr.heap.size := by omega
                have HO1 := Lib.hid (HO.out.alloc (.cells #[.int .i64 y1, .string y2, .string y3] 97 (0, 0)))
                go_wp2_with fail
                refine (HF.out (wr.alloc (.cells #[.int .i64 y1, .string y2, .string y3] 97 (0, 0)))).mono ?_
                rintro e w11 ⟨rfl, hb11⟩
                clear hc101 hc102 hc103 hc107 hc108 hc109 hc110 hc111 hc112 hc113 hc114 hc115 hl116 hl117
                have HF118 := Lib.hid (blk_below HF104.out hb11)
                have HF119 := Lib.hid (blk_below HF105.out hb11)
                have HB120 := Lib.hid (HB106.out.trans (hb11.mono HB106.out.size))
                have HQ121 := Lib.hid (HO1.out.laterR hb11)
                clear HO1
                clear hb11 HB106 HF104 HBX HF105
                have hc122 : w11.cell? ⟨wr.heap.size, 0, none⟩ = some (.int .i64 y1) := by rw [cell_of_row _ _ _ _ _ _ HF119.out]; rfl
                have hc123 : w11.cell? ⟨wr.heap.size, 1, none⟩ = some (.string y2) := by rw [cell_of_row _ _ _ _ _ _ HF119.out]; rfl
                have hc124 : w11.cell? ⟨wr.heap.size, 2, none⟩ = some (.string y3) := by rw [cell_of_row _ _ _ _ _ _ HF119.out]; rfl
                have hz1 : w1.heap.size + 1 ≤ w11.heap.size := by have := lt_of_block HF118.out; omega
                have HRa := Lib.hid (Below.refl (w1.heap.size + 1) w11)
                go_wp2_with (at_builtin; refine wpList_appX rfl (.tmp 69) (.tmp 71) 93 97 _ 40 rfl Try.underlying93 info_rfB rfl (by omega) (by omega) rfC_len rfC_one (w1.heap.size + 1) w11 (HRa.out.alloc hz1 _) (by simp; omega) v _ rfl (HQ121.out.alloc _) w11.heap.size 1 (y1, y2, y3) #[.int .i64 y1, .string y2, .string y3] 97 (0, 0) rfl (heap_alloc_new w11 _) rfl (by omega) ?_)
                intro v7 w7 HO7 HB7 HZ7 HG7
                clear hc122 hc123 hc124
                have HX7 := Lib.hid ((HB7.out.block (w1.heap.size) (by omega)).trans HF118.out)
                have HL7 := Lib.hid (HB120.out.trans (HB7.out.mono (by omega)))
                have hv7 := HO7.out.one
                go_wp2_with fail
                go_roundw
                case rel => exact ⟨k9 + 1, v7, _, rfl, by go_num, by omega, HR.out, HO7.out, HX7.out, HL7.out⟩
                case measure => simp [intOf] <;> omega
              | false =>
                rw [hq] at HF
                have HR := Lib.hid (show M = (l.take (k9 + 1)).filter (fun a => lessR a (k, s, now)) by rw [HFT.out, if_neg (by rw [hq]; simp), List.append_nil, HM.out])
                clear hq
                have hc101 : wr.cell? ⟨b, off + k9 * 3, none⟩ = some (.int .i64 y1) := (H.out.below HB.out).cellAt HX.out hlt 0 _ rfl
                have hc102 : wr.cell? ⟨b, off + k9 * 3 + 1, none⟩ = some (.string y2) := (H.out.below HB.out).cellAt HX.out hlt 1 _ rfl
                have hc103 : wr.cell? ⟨b, off + k9 * 3 + 2, none⟩ = some (.string y3) := (H.out.below HB.out).cellAt HX.out hlt 2 _ rfl
                have HF104 := Lib.hid (blk_alloc HBX.out (.cells #[.int .i64 y1, .string y2, .string y3] 97 (0, 0)))
                have HF105 := Lib.hid (blk_new wr (.cells #[.int .i64 y1, .string y2, .string y3] 97 (0, 0)))
                have HB106 := Lib.hid (HB.out.alloc HB.out.size (.cells #[.int .i64 y1, .string y2, .string y3] 97 (0, 0)))
                clear HB
                have hc107 : (wr.alloc (.cells #[.int .i64 y1, .string y2, .string y3] 97 (0, 0))).cell? ⟨wr.heap.size, 0, none⟩ = some (.int .i64 y1) := by rw [cell_of_row _ _ _ _ _ _ HF105.out]; rfl
                have hc108 : (wr.alloc (.cells #[.int .i64 y1, .string y2, .string y3] 97 (0, 0))).cell? ⟨wr.heap.size, 1, none⟩ = some (.string y2) := by rw [cell_of_row _ _ _ _ _ _ HF105.out]; rfl
                have hc109 : (wr.alloc (.cells #[.int .i64 y1, .string y2, .string y3] 97 (0, 0))).cell? ⟨wr.heap.size, 2, none⟩ = some (.string y3) := by rw [cell_of_row _ _ _ _ _ _ HF105.out]; rfl
                have hc110 : (wr.alloc (.cells #[.int .i64 y1, .string y2, .string y3] 97 (0, 0))).cell? ⟨w1.heap.size, 0, none⟩ = some (.int .i64 k) := by rw [cell_of_row _ _ _ _ _ _ HF104.out]; rfl
                have hc111 : wr.cell? ⟨w1.heap.size, 0, none⟩ = some (.int .i64 k) := by rw [cell_of_row _ _ _ _ _ _ HBX.out]; rfl
                have hc112 : (wr.alloc (.cells #[.int .i64 y1, .string y2, .string y3] 97 (0, 0))).cell? ⟨w1.heap.size, 1, none⟩ = some (.string s) := by rw [cell_of_row _ _ _ _ _ _ HF104.out]; rfl
                have hc113 : wr.cell? ⟨w1.heap.size, 1, none⟩ = some (.string s) := by rw [cell_of_row _ _ _ _ _ _ HBX.out]; rfl
                have hc114 : (wr.alloc (.cells #[.int .i64 y1, .string y2, .string y3] 97 (0, 0))).cell? ⟨w1.heap.size, 2, none⟩ = some (.string now) := by rw [cell_of_row _ _ _ _ _ _ HF104.out]; rfl
                have hc115 : wr.cell? ⟨w1.heap.size, 2, none⟩ = some (.string now) := by rw [cell_of_row _ _ _ _ _ _ HBX.out]; rfl
                have hl116 : w1.heap.size < wr.heap.size := lt_of_block HBX.out
                have hl117 : ¬ w1.heap.size = wr.heap.size := by omega
                have HO1 := Lib.hid (HO.out.alloc (.cells #[.int .i64 y1, .string y2, .string y3] 97 (0, 0)))
                go_wp2_with fail
                refine (HF.out (wr.alloc (.cells #[.int .i64 y1, .string y2, .string y3] 97 (0, 0)))).mono ?_
                rintro e w11 ⟨rfl, hb11⟩
                clear hc101 hc102 hc103 hc107 hc108 hc109 hc110 hc111 hc112 hc113 hc114 hc115 hl116 hl117
                have HF118 := Lib.hid (blk_below HF104.out hb11)
                have HF119 := Lib.hid (blk_below HF105.out hb11)
                have HB120 := Lib.hid (HB106.out.trans (hb11.mono HB106.out.size))
                have HQ121 := Lib.hid (HO1.out.laterR hb11)
                clear HO1
                clear hb11 HB106 HF104 HBX HF105
                go_wp2_with fail
                go_roundw
                case rel => exact ⟨k9 + 1, v, M, rfl, by go_num, by omega, HR.out, HQ121.out, HF118.out, HB120.out⟩
                case measure => simp [intOf] <;> omega
            · have hd1 : decide ((k9 : Int) < (n : Int)) = false := decide_eq_false (by omega)
              have HEE := Lib.hid (show l.take k9 = l from List.take_of_length_le (by rw [L.out]; omega))
              have HM1 := Lib.hid (show M = l.filter (fun a => lessR a (k, s, now)) by rw [HM.out, HEE.out])
              have HFL := Lib.hid (show (l.filter (fun a => lessR a (k, s, now))).length ≤ 100000 by have := List.length_filter_le (fun a => lessR a (k, s, now)) l; have := L.out; omega)
              have hc101 : wr.cell? ⟨w1.heap.size, 0, none⟩ = some (.int .i64 k) := by rw [cell_of_row _ _ _ _ _ _ HBX.out]; rfl
              have hc102 : wr.cell? ⟨w1.heap.size, 1, none⟩ = some (.string s) := by rw [cell_of_row _ _ _ _ _ _ HBX.out]; rfl
              have hc103 : wr.cell? ⟨w1.heap.size, 2, none⟩ = some (.string now) := by rw [cell_of_row _ _ _ _ _ _ HBX.out]; rfl
              have hz1 : w1.heap.size + 1 ≤ wr.heap.size := by omega
              have HRa := Lib.hid (Below.refl (w1.heap.size + 1) wr)
              go_wp2_with (at_builtin; refine wpList_appX rfl (.tmp 76) (.tmp 78) 93 97 _ 40 rfl Try.underlying93 info_rfB rfl (by omega) (by omega) rfC_len rfC_one (w1.heap.size + 1) wr (HRa.out.alloc hz1 _) (by simp; omega) v _ rfl (HO.out.alloc _) wr.heap.size 1 (k, s, now) #[.int .i64 k, .string s, .string now] 97 (0, 0) rfl (heap_alloc_new wr _) rfl (by rw [HM1.out]; have := HFL.out; omega) ?_)
              intro v7 w7 HO7 HB7 HZ7 HG7
              clear hc101 hc102 hc103
              have HX7 := Lib.hid ((HB7.out.block (w1.heap.size) (by omega)).trans HBX.out)
              have HL7 := Lib.hid (HB.out.trans (HB7.out.mono (by omega)))
              have hv7 := HO7.out.one
              rw [HM1.out] at HO7
              clear hd1
              go_wp2_with fail
              clear HB HO HBX hv hCw HM HEE
              go_loopw [14, 82] (fun vv i wr => ∃ (j9 : Nat) (v : Value) (M : List Rf), v = vv ∧ i = .int .i64 (j9 : Int) ∧ j9 ≤ n ∧ M = (l.filter (fun a => lessR a (k, s, now)) ++ [(k, s, now)]) ++ (l.take j9).filter (fun a => lessR (k, s, now) a) ∧ OwX rfC 3 97 wr (w1.heap.size + 1) v M ∧ wr.heap[w1.heap.size]? = some (.cells #[.int .i64 k, .string s, .string now] 97 (0, 0)) ∧ Below w.heap.size w wr) (fun _ i _ => n - (intOf i).toNat)
              case atStart => exact ⟨0, v7, _, rfl, rfl, Nat.zero_le _, by rw [List.take_zero, List.filter_nil, List.append_nil], HO7.out, HX7.out, HL7.out⟩
              case round =>
                obtain ⟨j9, v, M, rfl, rfl, hk, hM, how, hbx, hb⟩ := hrel
                have HM := Lib.hid hM
                have HO := Lib.hid how
                have HBX := Lib.hid hbx
                have HB := Lib.hid hb
                have hv := how.one
                have hCw := lt_of_block hbx
                clear hM how hbx hb
                by_cases hlt : j9 < n
                · have hd1 : decide ((j9 : Int) < (n : Int)) = true := decide_eq_true (by omega)
                  obtain ⟨b, off, hl, rfl, hbb, _⟩ := (H.out.below HB.out).at hlt
                  have HFT := Lib.hid (filtR_take (fun a => lessR (k, s, now) a) l j9 hl)
                  have hfl := filtR_len (fun a => lessR (k, s, now) a) l j9
                  obtain ⟨y, hy⟩ : ∃ y, l[j9] = y := ⟨_, rfl⟩
                  have HX := Lib.hid (show l[j9]? = some y by rw [List.getElem?_eq_getElem hl, hy])
                  rw [hy] at HFT
                  obtain ⟨y1, y2, y3⟩ := y
                  have hi0 : (0 : Int) ≤ (j9 : Int) := by omega
                  clear hy
                  have HF := Lib.hid (fun W : World => rfless_any k s now y1 y2 y3 W)
                  cases hq : lessR (k, s, now) (y1, y2, y3) with
                  | true =>
                    rw [hq] at HF
                    have HR := Lib.hid (show M ++ [(y1, y2, y3)] = (l.filter (fun a => lessR a (k, s, now)) ++ [(k, s, now)]) ++ (l.take (j9 + 1)).filter (fun a => lessR (k, s, now) a) by rw [HFT.out, if_pos hq, ← List.append_assoc, HM.out])
                    have hML : M.length ≤ 200002 := by rw [HM.out]; simp only [List.length_append, List.length_cons, List.length_nil]; have := HFL.out; omega
                    clear hq
                    have hc101 : wr.cell? ⟨b, off + j9 * 3, none⟩ = some (.int .i64 y1) := (H.out.below HB.out).cellAt HX.out hlt 0 _ rfl
                    have hc102 : wr.cell? ⟨b, off + j9 * 3 + 1, none⟩ = some (.string y2) := (H.out.below HB.out).cellAt HX.out hlt 1 _ rfl
                    have hc103 : wr.cell? ⟨b, off + j9 * 3 + 2, none⟩ = some (.string y3) := (H.out.below HB.out).cellAt HX.out hlt 2 _ rfl
                    have HF104 := Lib.hid (blk_alloc HBX.out (.cells #[.int .i64 y1, .string y2, .string y3] 97 (0, 0)))
                    have HF105 := Lib.hid (blk_new wr (.cells #[.int .i64 y1, .string y2, .string y3] 97 (0, 0)))
                    have HB106 := Lib.hid (HB.out.alloc HB.out.size (.cells #[.int .i64 y1, .string y2, .string y3] 97 (0, 0)))
                    clear HB
                    have hc107 : (wr.alloc (.cells #[.int .i64 y1, .string y2, .string y3] 97 (0, 0))).cell? ⟨wr.heap.size, 0, none⟩ = some (.int .i64 y1) := by rw [cell_of_row _ _ _ _ _ _ HF105.out]; rfl
                    have hc108 : (wr.alloc (.cells #[.int .i64 y1, .string y2, .string y3] 97 (0, 0))).cell? ⟨wr.heap.size, 1, none⟩ = some (.string y2) := by rw [cell_of_row _ _ _ _ _ _ HF105.out]; rfl
                    have hc109 : (wr.alloc (.cells #[.int .i64 y1, .string y2, .string y3] 97 (0, 0))).cell? ⟨wr.heap.size, 2, none⟩ = some (.string y3) := by rw [cell_of_row _ _ _ _ _ _ HF105.out]; rfl
                    have hc110 : (wr.alloc (.cells #[.int .i64 y1, .string y2, .string y3] 97 (0, 0))).cell? ⟨w1.heap.size, 0, none⟩ = some (.int .i64 k) := by rw [cell_of_row _ _ _ _ _ _ HF104.out]; rfl
                    have hc111 : wr.cell? ⟨w1.heap.size, 0, none⟩ = some (.int .i64 k) := by rw [cell_of_row _ _ _ _ _ _ HBX.out]; rfl
                    have hc112 : (wr.alloc (.cells #[.int .i64 y1, .string y2, .string y3] 97 (0, 0))).cell? ⟨w1.heap.size, 1, none⟩ = some (.string s) := by rw [cell_of_row _ _ _ _ _ _ HF104.out]; rfl
                    have hc113 : wr.cell? ⟨w1.heap.size, 1, none⟩ = some (.string s) := by rw [cell_of_row _ _ _ _ _ _ HBX.out]; rfl
                    have hc114 : (wr.alloc (.cells #[.int .i64 y1, .string y2, .string y3] 97 (0, 0))).cell? ⟨w1.heap.size, 2, none⟩ = some (.string now) := by rw [cell_of_row _ _ _ _ _ _ HF104.out]; rfl
                    have hc115 : wr.cell? ⟨w1.heap.size, 2, none⟩ = some (.string now) := by rw [cell_of_row _ _ _ _ _ _ HBX.out]; rfl
                    have hl116 : w1.heap.size < wr.heap.size := lt_of_block HBX.out
                    have hl117 : ¬ w1.heap.size = wr.heap.size := by omega
                    have HO1 := Lib.hid (HO.out.alloc (.cells #[.int .i64 y1, .string y2, .string y3] 97 (0, 0)))
                    go_wp2_with fail
                    refine (HF.out (wr.alloc (.cells #[.int .i64 y1, .string y2, .string y3] 97 (0, 0)))).mono ?_
                    rintro e w11 ⟨rfl, hb11⟩
                    clear hc101 hc102 hc103 hc107 hc108 hc109 hc110 hc111 hc112 hc113 hc114 hc115 hl116 hl117
                    have HF118 := Lib.hid (blk_below HF104.out hb11)
                    have HF119 := Lib.hid (blk_below HF105.out hb11)
                    have HB120 := Lib.hid (HB106.out.trans (hb11.mono HB106.out.size))
                    have HQ121 := Lib.hid (HO1.out.laterR hb11)
                    clear HO1
                    clear hb11 HB106 HF104 HBX HF105
                    have hc122 : w11.cell? ⟨wr.heap.size, 0, none⟩ = some (.int .i64 y1) := by rw [cell_of_row _ _ _ _ _ _ HF119.out]; rfl
                    have hc123 : w11.cell? ⟨wr.heap.size, 1, none⟩ = some (.string y2) := by rw [cell_of_row _ _ _ _ _ _ HF119.out]; rfl
                    have hc124 : w11.cell? ⟨wr.heap.size, 2, none⟩ = some (.string y3) := by rw [cell_of_row _ _ _ _ _ _ HF119.out]; rfl
                    have hz1 : w1.heap.size + 1 ≤ w11.heap.size := by have := lt_of_block HF118.out; omega
                    have HRa := Lib.hid (Below.refl (w1.heap.size + 1) w11)
                    go_wp2_with (at_builtin; refine wpList_appX rfl (.tmp 89) (.tmp 91) 93 97 _ 40 rfl Try.underlying93 info_rfB rfl (by omega) (by omega) rfC_len rfC_one (w1.heap.size + 1) w11 (HRa.out.alloc hz1 _) (by simp; omega) v _ rfl (HQ121.out.alloc _) w11.heap.size 1 (y1, y2, y3) #[.int .i64 y1, .string y2, .string y3] 97 (0, 0) rfl (heap_alloc_new w11 _) rfl (by omega) ?_)
                    intro v7 w7 HO7 HB7 HZ7 HG7
                    clear hc122 hc123 hc124
                    have HX7 := Lib.hid ((HB7.out.block (w1.heap.size) (by omega)).trans HF118.out)
                    have HL7 := Lib.hid (HB120.out.trans (HB7.out.mono (by omega)))
                    have hv7 := HO7.out.one
                    go_wp2_with fail
                    go_roundw
                    case rel => exact ⟨j9 + 1, v7, _, rfl, by go_num, by omega, HR.out, HO7.out, HX7.out, HL7.out⟩
                    case measure => simp [intOf] <;> omega
                  | false =>
                    rw [hq] at HF
                    have HR := Lib.hid (show M = (l.filter (fun a => lessR a (k, s, now)) ++ [(k, s, now)]) ++ (l.take (j9 + 1)).filter (fun a => lessR (k, s, now) a) by rw [HFT.out, if_neg (by rw [hq]; simp), List.append_nil, HM.out])
                    clear hq
                    have hc101 : wr.cell? ⟨b, off + j9 * 3, none⟩ = some (.int .i64 y1) := (H.out.below HB.out).cellAt HX.out hlt 0 _ rfl
                    have hc102 : wr.cell? ⟨b, off + j9 * 3 + 1, none⟩ = some (.string y2) := (H.out.below HB.out).cellAt HX.out hlt 1 _ rfl
                    have hc103 : wr.cell? ⟨b, off + j9 * 3 + 2, none⟩ = some (.string y3) := (H.out.below HB.out).cellAt HX.out hlt 2 _ rfl
                    have HF104 := Lib.hid (blk_alloc HBX.out (.cells #[.int .i64 y1, .string y2, .string y3] 97 (0, 0)))
                    have HF105 := Lib.hid (blk_new wr (.cells #[.int .i64 y1, .string y2, .string y3] 97 (0, 0)))
                    have HB106 := Lib.hid (HB.out.alloc HB.out.size (.cells #[.int .i64 y1, .string y2, .string y3] 97 (0, 0)))
                    clear HB
                    have hc107 : (wr.alloc (.cells #[.int .i64 y1, .string y2, .string y3] 97 (0, 0))).cell? ⟨wr.heap.size, 0, none⟩ = some (.int .i64 y1) := by rw [cell_of_row _ _ _ _ _ _ HF105.out]; rfl
                    have hc108 : (wr.alloc (.cells #[.int .i64 y1, .string y2, .string y3] 97 (0, 0))).cell? ⟨wr.heap.size, 1, none⟩ = some (.string y2) := by rw [cell_of_row _ _ _ _ _ _ HF105.out]; rfl
                    have hc109 : (wr.alloc (.cells #[.int .i64 y1, .string y2, .string y3] 97 (0, 0))).cell? ⟨wr.heap.size, 2, none⟩ = some (.string y3) := by rw [cell_of_row _ _ _ _ _ _ HF105.out]; rfl
                    have hc110 : (wr.alloc (.cells #[.int .i64 y1, .string y2, .string y3] 97 (0, 0))).cell? ⟨w1.heap.size, 0, none⟩ = some (.int .i64 k) := by rw [cell_of_row _ _ _ _ _ _ HF104.out]; rfl
                    have hc111 : wr.cell? ⟨w1.heap.size, 0, none⟩ = some (.int .i64 k) := by rw [cell_of_row _ _ _ _ _ _ HBX.out]; rfl
                    have hc112 : (wr.alloc (.cells #[.int .i64 y1, .string y2, .string y3] 97 (0, 0))).cell? ⟨w1.heap.size, 1, none⟩ = some (.string s) := by rw [cell_of_row _ _ _ _ _ _ HF104.out]; rfl
                    have hc113 : wr.cell? ⟨w1.heap.size, 1, none⟩ = some (.string s) := by rw [cell_of_row _ _ _ _ _ _ HBX.out]; rfl
                    have hc114 : (wr.alloc (.cells #[.int .i64 y1, .string y2, .string y3] 97 (0, 0))).cell? ⟨w1.heap.size, 2, none⟩ = some (.string now) := by rw [cell_of_row _ _ _ _ _ _ HF104.out]; rfl
                    have hc115 : wr.cell? ⟨w1.heap.size, 2, none⟩ = some (.string now) := by rw [cell_of_row _ _ _ _ _ _ HBX.out]; rfl
                    have hl116 : w1.heap.size < wr.heap.size := lt_of_block HBX.out
                    have hl117 : ¬ w1.heap.size = wr.heap.size := by omega
                    have HO1 := Lib.hid (HO.out.alloc (.cells #[.int .i64 y1, .string y2, .string y3] 97 (0, 0)))
                    go_wp2_with fail
                    refine (HF.out (wr.alloc (.cells #[.int .i64 y1, .string y2, .string y3] 97 (0, 0)))).mono ?_
                    rintro e w11 ⟨rfl, hb11⟩
                    clear hc101 hc102 hc103 hc107 hc108 hc109 hc110 hc111 hc112 hc113 hc114 hc115 hl116 hl117
                    have HF118 := Lib.hid (blk_below HF104.out hb11)
                    have HF119 := Lib.hid (blk_below HF105.out hb11)
                    have HB120 := Lib.hid (HB106.out.trans (hb11.mono HB106.out.size))
                    have HQ121 := Lib.hid (HO1.out.laterR hb11)
                    clear HO1
                    clear hb11 HB106 HF104 HBX HF105
                    go_wp2_with fail
                    go_roundw
                    case rel => exact ⟨j9 + 1, v, M, rfl, by go_num, by omega, HR.out, HQ121.out, HF118.out, HB120.out⟩
                    case measure => simp [intOf] <;> omega
                · have hd1 : decide ((j9 : Int) < (n : Int)) = false := decide_eq_false (by omega)
                  have HEE := Lib.hid (show l.take j9 = l from List.take_of_length_le (by rw [L.out]; omega))
                  go_wp2_with fail
                  go_ret2
                  refine ⟨v, by first | (rw [HV.out.1]; done) | (rw [HV.out.1]; rfl), ?_, HB.out⟩
                  rw [HV.out.2]
                  have k9 := HO.out
                  rw [HM.out, HEE.out] at k9
                  exact RV.own k9
end Go.Proofs.Ytbjngbacnkmjhaa

namespace Go.Proofs.Ytbjngbacnkmjhaa
open Go.RowKit Vi

set_option maxRecDepth 100000 in
theorem run_neq_rf (p1 q1 : Int) (p2 q2 p3 q3 : ByteArray) (h : ¬ (p1 = q1 ∧ p2 = q2 ∧ p3 = q3)) (W : World) :
    (binOp .neq 97 (.agg #[.int .i64 p1, .string p2, .string p3]) (.agg #[.int .i64 q1, .string q2, .string q3])).run Try.prog W = .ok (.bool true) W := by
  have hx : ∀ a b : ByteArray, a ≠ b → (a.toList == b.toList) = false := fun a b hab => by
    rw [beq_eq_false_iff_ne]; exact fun e => hab (ba_ext e)
  by_cases h1 : p1 = q1
  · subst h1
    by_cases h2 : p2 = q2
    · subst h2
      have h3 := hx p3 q3 (fun e => h ⟨rfl, rfl, e⟩)
      simp [go_sem, h3]
    · have h3 := hx p2 q2 h2
      simp [go_sem, h3]
  · have h4 : (p1 == q1) = false := by rw [beq_eq_false_iff_ne]; exact h1
    simp [go_sem, h4]
set_option maxRecDepth 100000 in
theorem run_neq_rf_no (p1 : Int) (p2 p3 : ByteArray) (W : World) :
    (binOp .neq 97 (.agg #[.int .i64 p1, .string p2, .string p3]) (.agg #[.int .i64 p1, .string p2, .string p3])).run Try.prog W = .ok (.bool false) W := by
  simp [go_sem]
def sameR (l m : List Rf) : Bool := decide (l = m)
set_option maxRecDepth 100000 in
set_option maxHeartbeats 2000000 in
theorem rfsame_any (A : Option Addr) (n c : Nat) (l : List Rf) (A2 : Option Addr) (n2 c2 : Nat) (m : List Rf) (w : World) (h : RdX rfC 3 w A n l) (h2 : RdX rfC 3 w A2 n2 m) (hn : n ≤ maxLen) :
    Calls Try.prog 62 #[.slice A n c, .slice A2 n2 c2] w fun e w' => e = .returned (.bool (sameR l m)) ∧ Below w.heap.size w w' := by
  have H := Lib.hid h
  have H2 := Lib.hid h2
  have L := Lib.hid h.1
  have L2 := Lib.hid h2.1
  have HB1 := Lib.hid (Below.refl w.heap.size w)
  unfold maxLen at hn
  clear h h2
  by_cases hq : n = n2
  rotate_left
  · have d1 : ((n : Int) != (n2 : Int)) = true := by simp; omega
    have HR := Lib.hid (show sameR l m = false from decide_eq_false (fun e => hq (by rw [← L.out, ← L2.out, e])))
    clear hq
    go_enter Try.func62, Try.ntmps62
    go_wp2_with fail
    go_ret
    exact ⟨by first | (rw [HR.out]; done) | (rw [HR.out]; rfl), HB1.out⟩
  subst hq
  have d1 : ((n : Int) != (n : Int)) = false := by simp
  go_enter Try.func62, Try.ntmps62
  go_wp2_with fail
  clear d1
  go_loopw [13] (fun i wr => ∃ k : Nat, i = .int .i64 (k : Int) ∧ k ≤ n ∧ l.take k = m.take k ∧ Below w.heap.size w wr) (fun i _ => n - (intOf i).toNat)
  case atStart => exact ⟨0, rfl, Nat.zero_le _, rfl, HB1.out⟩
  case round =>
    clear HB1
    obtain ⟨k, rfl, hk, hs, hb⟩ := hrel
    have HS := Lib.hid hs
    have HB := Lib.hid hb
    clear hs hb
    by_cases hlt : k < n
    · have hd1 : decide ((k : Int) < (n : Int)) = true := decide_eq_true (by omega)
      have hl : k < l.length := by rw [L.out]; exact hlt
      have hl2 : k < m.length := by rw [L2.out]; exact hlt
      obtain ⟨b, off, _, rfl, hbb, _⟩ := (H.out.below HB.out).at hlt
      obtain ⟨b2, off2, _, rfl, hbb2, _⟩ := (H2.out.below HB.out).at hlt
      obtain ⟨x, hx⟩ : ∃ x, l[k] = x := ⟨_, rfl⟩
      obtain ⟨y, hy⟩ : ∃ y, m[k] = y := ⟨_, rfl⟩
      have HX := Lib.hid (show l[k]? = some x by rw [List.getElem?_eq_getElem hl, hx])
      have HY := Lib.hid (show m[k]? = some y by rw [List.getElem?_eq_getElem hl2, hy])
      have HT := Lib.hid (show l.take (k + 1) = l.take k ++ [x] by rw [List.take_succ_eq_append_getElem hl, hx])
      have HT2 := Lib.hid (show m.take (k + 1) = m.take k ++ [y] by rw [List.take_succ_eq_append_getElem hl2, hy])
      clear hx hy
      obtain ⟨x1, x2, x3⟩ := x
      obtain ⟨y1, y2, y3⟩ := y
      have hi0 : (0 : Int) ≤ (k : Int) := by omega
      by_cases hp : x1 = y1 ∧ x2 = y2 ∧ x3 = y3
      · obtain ⟨rfl, rfl, rfl⟩ := hp
        have HR := Lib.hid (show l.take (k + 1) = m.take (k + 1) by rw [HT.out, HT2.out, HS.out])
        have hnq := fun W => run_neq_rf_no x1 x2 x3 W
        have hc101 : wr.cell? ⟨b, off + k * 3, none⟩ = some (.int .i64 x1) := (H.out.below HB.out).cellAt HX.out hlt 0 _ rfl
        have hc102 : wr.cell? ⟨b, off + k * 3 + 1, none⟩ = some (.string x2) := (H.out.below HB.out).cellAt HX.out hlt 1 _ rfl
        have hc103 : wr.cell? ⟨b, off + k * 3 + 2, none⟩ = some (.string x3) := (H.out.below HB.out).cellAt HX.out hlt 2 _ rfl
        have hc104 : wr.cell? ⟨b2, off2 + k * 3, none⟩ = some (.int .i64 x1) := (H2.out.below HB.out).cellAt HY.out hlt 0 _ rfl
        have hc105 : wr.cell? ⟨b2, off2 + k * 3 + 1, none⟩ = some (.string x2) := (H2.out.below HB.out).cellAt HY.out hlt 1 _ rfl
        have hc106 : wr.cell? ⟨b2, off2 + k * 3 + 2, none⟩ = some (.string x3) := (H2.out.below HB.out).cellAt HY.out hlt 2 _ rfl
        go_wp2_with fail
        have hr107 := fun d os => cell_regrown hc101 d os
        have hr108 := fun d os => cell_regrown hc102 d os
        have hr109 := fun d os => cell_regrown hc103 d os
        have hr110 := fun d os => cell_regrown hc104 d os
        have hr111 := fun d os => cell_regrown hc105 d os
        have hr112 := fun d os => cell_regrown hc106 d os
        refine wp_region_quiet_below (by kernel_rfl) (by kernel_rfl) ?_
        repeat (any_goals (first | go_big_quiet_step (fail) | quiet_step (fail)))
        refine wpQuiet_nil ?_
        intro w11 hw11
        have hb11 := below_anyY hw11
        clear hw11 hr107 hr108 hr109 hr110 hr111 hr112
        clear hc101 hc102 hc103 hc104 hc105 hc106
        have HB113 := Lib.hid (HB.out.trans (hb11.mono HB.out.size))
        clear hb11 HB 
        go_wp2_with fail
        go_roundw
        case rel => exact ⟨k + 1, by go_num, by omega, HR.out, HB113.out⟩
        case measure => simp [intOf] <;> omega
      · have HR := Lib.hid (show sameR l m = false from decide_eq_false (fun e => hp (by
          have h1 := HX.out
          rw [e, HY.out] at h1
          injection h1 with h1
          injection h1 with a1 a2
          injection a2 with a2 a3
          exact ⟨a1.symm, a2.symm, a3.symm⟩)))
        have hnq := fun W => run_neq_rf x1 y1 x2 y2 x3 y3 hp W
        clear hp
        have hc101 : wr.cell? ⟨b, off + k * 3, none⟩ = some (.int .i64 x1) := (H.out.below HB.out).cellAt HX.out hlt 0 _ rfl
        have hc102 : wr.cell? ⟨b, off + k * 3 + 1, none⟩ = some (.string x2) := (H.out.below HB.out).cellAt HX.out hlt 1 _ rfl
        have hc103 : wr.cell? ⟨b, off + k * 3 + 2, none⟩ = some (.string x3) := (H.out.below HB.out).cellAt HX.out hlt 2 _ rfl
        have hc104 : wr.cell? ⟨b2, off2 + k * 3, none⟩ = some (.int .i64 y1) := (H2.out.below HB.out).cellAt HY.out hlt 0 _ rfl
        have hc105 : wr.cell? ⟨b2, off2 + k * 3 + 1, none⟩ = some (.string y2) := (H2.out.below HB.out).cellAt HY.out hlt 1 _ rfl
        have hc106 : wr.cell? ⟨b2, off2 + k * 3 + 2, none⟩ = some (.string y3) := (H2.out.below HB.out).cellAt HY.out hlt 2 _ rfl
        go_wp2_with fail
        have hr107 := fun d os => cell_regrown hc101 d os
        have hr108 := fun d os => cell_regrown hc102 d os
        have hr109 := fun d os => cell_regrown hc103 d os
        have hr110 := fun d os => cell_regrown hc104 d os
        have hr111 := fun d os => cell_regrown hc105 d os
        have hr112 := fun d os => cell_regrown hc106 d os
        refine wp_region_quiet_below (by kernel_rfl) (by kernel_rfl) ?_
        repeat (any_goals (first | go_big_quiet_step (fail) | quiet_step (fail)))
        refine wpQuiet_nil ?_
        intro w11 hw11
        have hb11 := below_anyY hw11
        clear hw11 hr107 hr108 hr109 hr110 hr111 hr112
        clear hc101 hc102 hc103 hc104 hc105 hc106
        have HB113 := Lib.hid (HB.out.trans (hb11.mono HB.out.size))
        clear hb11 HB 
        go_wp2_with fail
        go_ret
        exact ⟨by first | (rw [HR.out]; done) | (rw [HR.out]; rfl), HB113.out⟩
    · have hd1 : decide ((k : Int) < (n : Int)) = false := decide_eq_false (by omega)
      have HR := Lib.hid (show sameR l m = true from decide_eq_true (by
        have h1 := HS.out
        rw [List.take_of_length_le (by rw [L.out]; omega), List.take_of_length_le (by rw [L2.out]; omega)] at h1
        exact h1))
      go_wp2_with fail
      go_ret
      exact ⟨by first | (rw [HR.out]; done) | (rw [HR.out]; rfl), HB.out⟩
def RetBR (p : Prop) (w : World) (e : Ending) (w' : World) : Prop := ∃ b : Bool, e = .returned (.bool b) ∧ (b = true → p) ∧ Below w.heap.size w w'
set_option maxRecDepth 100000 in
set_option maxHeartbeats 4000000 in
theorem rffew_any (A : Option Addr) (n c : Nat) (l : List Rf) (w : World) (h : RdX rfC 3 w A n l) (hn : n ≤ maxLen) :
    Calls Try.prog 54 #[.slice A n c] w (RetBR (n ≤ 70) w) := by
  have H := Lib.hid h
  have LL := Lib.hid h.1
  have HB1 := Lib.hid (Below.refl w.heap.size w)
  unfold maxLen at hn
  clear h
  go_enter Try.func54, Try.ntmps54
  go_wp2_with fail
  go_loopw [3, 4] (fun s i wr => ∃ k m : Nat, s = .int .i64 (m : Int) ∧ i = .int .i64 (k : Int) ∧ k ≤ n ∧ k ≤ 71 ∧ m ≤ 10000 * k ∧ Below w.heap.size w wr) (fun _ i _ => n - (intOf i).toNat)
  case atStart => exact ⟨0, 0, rfl, rfl, Nat.zero_le _, by omega, by omega, HB1.out⟩
  case round =>
    clear HB1
    obtain ⟨k, m, rfl, rfl, hk, hk71, hm, hb⟩ := hrel
    have HB := Lib.hid hb
    clear hb
    have HTL : Hid (∀ W : World, Below w.heap.size w W → True) := Lib.hid (fun _ _ => trivial)
    clear HTL
    by_cases hlt : k < n ∧ k ≤ 70
    · have hlt1 := hlt.1
      have hlt2 := hlt.2
      have hd1 : decide ((k : Int) < (n : Int)) = true := decide_eq_true (by omega)
      have hd2 : decide ((k : Int) ≤ 70) = true := decide_eq_true (by omega)
      have hl : k < l.length := by rw [LL.out]; exact hlt.1
      obtain ⟨b, off, _, rfl, hbb, _⟩ := (H.out.below HB.out).at hlt1
      obtain ⟨x, hx⟩ : ∃ x, l[k] = x := ⟨_, rfl⟩
      have HX := Lib.hid (show l[k]? = some x by rw [List.getElem?_eq_getElem hl, hx])
      clear hx
      obtain ⟨x1, x2, x3⟩ := x
      have hi0 : (0 : Int) ≤ (k : Int) := by omega
      have hv0 : IntKind.i64.wrap ((m : Int) + min (x2.size : Int) 5000) = (m : Int) + min (x2.size : Int) 5000 := IntWalk.i64_in _ (by omega)
      have hv1 : IntKind.i64.wrap (((m : Int) + min (x2.size : Int) 5000) + min (x3.size : Int) 5000) = ((m : Int) + min (x2.size : Int) 5000) + min (x3.size : Int) 5000 := IntWalk.i64_in _ (by omega)
      have hc101 : wr.cell? ⟨b, off + k * 3 + 1, none⟩ = some (.string x2) := (H.out.below HB.out).cellAt HX.out hlt1 1 _ rfl
      have hc102 : wr.cell? ⟨b, off + k * 3 + 2, none⟩ = some (.string x3) := (H.out.below HB.out).cellAt HX.out hlt1 2 _ rfl
      clear hlt
      go_wp2_with fail
      have Rhc101 := fun d os => cell_regrown hc101 d os
      have Rhc102 := fun d os => cell_regrown hc102 d os
      refine wp_region_quiet_below (by kernel_rfl) (by kernel_rfl) ?_
      repeat (any_goals (first | go_big_quiet_step (fail) | quiet_step (fail) | (refine wpQuiet_step (fun K hK => ?_); go_simp; refine hK _ ?_; clear hK K)))
      refine wpQuiet_nil ?_
      intro w11 hw11
      have hb11 := below_anyY hw11
      clear hw11 Rhc101 Rhc102
      clear hc101 hc102
      have HB2 := Lib.hid (HB.out.trans (hb11.mono HB.out.size))
      clear hb11
      clear hv0 hv1
      go_wp2_with fail
      go_roundw
      case rel => exact ⟨k + 1, m + min x2.size 5000 + min x3.size 5000, by congr 1; omega, by go_num, by omega, by omega, by omega, HB2.out⟩
      case measure => simp [intOf] <;> omega
    · rcases Nat.lt_or_ge k n with q | q
      · have hd1 : decide ((k : Int) < (n : Int)) = true := decide_eq_true (by omega)
        have hd2 : decide ((k : Int) ≤ 70) = false := decide_eq_false (by omega)
        have hd3 : decide ((n : Int) ≤ 70) = false := decide_eq_false (by omega)
        go_wp2_with fail
        go_ret
        exact ⟨false, rfl, (fun q => by cases q), HB.out⟩
      · have hd1 : decide ((k : Int) < (n : Int)) = false := decide_eq_false (by omega)
        by_cases h70 : n ≤ 70
        · have hd3 : decide ((n : Int) ≤ 70) = true := decide_eq_true (by omega)
          go_wp2_with fail
          go_ret
          exact ⟨_, rfl, (fun _ => h70), HB.out⟩
        · have hd3 : decide ((n : Int) ≤ 70) = false := decide_eq_false (by omega)
          go_wp2_with fail
          go_ret
          exact ⟨false, rfl, (fun q => by cases q), HB.out⟩
def raT : ByteArray := ⟨#[97]⟩
def rxT : ByteArray := ⟨#[120]⟩
def ryT : ByteArray := ⟨#[121]⟩
theorem em_cons (b : UInt8) (l : List UInt8) : emB ⟨⟨b :: l⟩⟩ = false := by unfold emB; rw [ByteArray.toList_eq]; rfl
theorem em_nil : emB ⟨#[]⟩ = true := by unfold emB; rw [ByteArray.toList_eq]; rfl
theorem okN_a : okN 1 ⟨#[97]⟩ = true := by rfl
theorem st_first : stE [] 1 ⟨#[97]⟩ ⟨#[]⟩ ⟨#[120]⟩ = 0 ∧ stV [] 1 ⟨#[97]⟩ ⟨#[]⟩ ⟨#[120]⟩ = [(1, ⟨#[97]⟩, ⟨#[120]⟩)] := by
  have h : stE [] 1 ⟨#[97]⟩ ⟨#[]⟩ ⟨#[120]⟩ = 0 := by
    unfold stE
    rw [if_neg (by rw [okN_a]; simp), if_neg (by intro q; have := q.2; rw [show emB ⟨#[120]⟩ = false from em_cons _ _] at this; cases this), if_neg (by simp [isR]), if_neg (by simp)]
  refine ⟨h, ?_⟩
  unfold stV stL
  rw [if_pos h, if_neg (by simp only; rw [show emB ⟨#[120]⟩ = false from em_cons _ _]; simp)]
  rfl
theorem st_second : stE [(1, ⟨#[97]⟩, ⟨#[120]⟩)] 1 ⟨#[97]⟩ ⟨#[]⟩ ⟨#[121]⟩ = 10 := by
  have hi : isR [(1, ⟨#[97]⟩, ⟨#[120]⟩)] (1, ⟨#[97]⟩, ⟨#[121]⟩) = ⟨#[120]⟩ := by
    unfold isR
    rw [List.find?_cons_of_pos (p := fun r => sameK r (1, ⟨#[97]⟩, ⟨#[121]⟩)) (by unfold sameK; simp)]
  unfold stE
  rw [if_neg (by rw [okN_a]; simp), if_neg (by intro q; have := q.2; rw [show emB ⟨#[121]⟩ = false from em_cons _ _] at this; cases this), hi,
    if_pos (by rw [beq_eq_false_iff_ne, ByteArray.toList_eq, ByteArray.toList_eq]; decide), if_pos em_nil]
set_option maxRecDepth 100000 in
set_option maxHeartbeats 1000000 in
theorem awake37 (w : World) : Calls Try.prog 55 #[] w fun e w' => e = .returned (.bool true) ∧ Below w.heap.size w w' := by
  have HF1 := Lib.hid (fun W : World => rfset_any none 0 0 [] 1 ⟨#[97]⟩ ⟨#[]⟩ ⟨#[120]⟩ W RdX.nil (Nat.le_refl _) OkL.nil (by decide))
  have HO := Lib.hid (st_ok (l := []) (k := 1) (s := ⟨#[97]⟩) (old := ⟨#[]⟩) (now := ⟨#[120]⟩) OkL.nil)
  rw [st_first.1, st_first.2] at HF1
  rw [st_first.2] at HO
  have HF2 := Lib.hid (fun (A : Option Addr) (c : Nat) (W : World) (q : RdX rfC 3 W A 1 [(1, ⟨#[97]⟩, ⟨#[120]⟩)]) (hc : 1 ≤ c) => rfset_any A 1 c [(1, ⟨#[97]⟩, ⟨#[120]⟩)] 1 ⟨#[97]⟩ ⟨#[]⟩ ⟨#[121]⟩ W q hc HO.out (by decide))
  rw [st_second] at HF2
  clear HO
  go_enter Try.func55, Try.ntmps55
  go_wp2_with fail
  refine (HF1.out _).mono ?_
  rintro e w1 ⟨v1, rfl, hr1, hb1⟩
  obtain ⟨A1, c1, rfl, hx1, hc1, -⟩ := hr1
  have HB1 := Lib.hid hb1
  have HX1 := Lib.hid hx1
  have HC1 := Lib.hid hc1
  clear hb1 hx1 hc1
  go_wp2_with fail
  refine (HF2.out A1 c1 _ HX1.out HC1.out).mono ?_
  rintro e w2 ⟨v2, rfl, hr2, hb2⟩
  have hv2 := hr2.one
  have HB2 := Lib.hid (HB1.out.trans (hb2.mono HB1.out.size))
  clear hr2 hb2
  go_wp2_with fail
  go_ret
  exact ⟨rfl, HB2.out⟩
end Go.Proofs.Ytbjngbacnkmjhaa

namespace Go.Proofs.Ytbjngbacnkmjhaa
open Go.RowKit Vi

abbrev Rc := Int × Int × Int × ByteArray × ByteArray × ByteArray × Int × Int
def rcC (r : Rc) : List Value := [.int .i64 r.1, .int .i64 r.2.1, .int .i64 r.2.2.1, .string r.2.2.2.1, .string r.2.2.2.2.1, .string r.2.2.2.2.2.1, .int .i64 r.2.2.2.2.2.2.1, .int .i64 r.2.2.2.2.2.2.2]
theorem rcC_len (r : Rc) : (rcC r).length = 8 := rfl
theorem rcC_one (r : Rc) : ∀ u ∈ rcC r, u.oneCell' = true := by
  intro u hu
  simp only [rcC, List.mem_cons, List.not_mem_nil, or_false] at hu
  rcases hu with h | h | h | h | h | h | h | h <;> (subst h; rfl)
def playR : List Rf → List Rc → List Rf × Int
  | L, [] => (L, 0)
  | L, r :: rs => if stE L r.2.2.1 r.2.2.2.1 r.2.2.2.2.1 r.2.2.2.2.2.1 = 0 then playR (stV L r.2.2.1 r.2.2.2.1 r.2.2.2.2.1 r.2.2.2.2.2.1) rs else ([], stE L r.2.2.1 r.2.2.2.1 r.2.2.2.2.1 r.2.2.2.2.2.1)
theorem play_at (L : List Rf) (rs : List Rc) (k : Nat) (h : k < rs.length) {q1 q2 kd q3 q4 : Int} {s old now : ByteArray} (hx : rs[k] = (q1, q2, kd, s, old, now, q3, q4)) :
    playR L (rs.drop k) = if stE L kd s old now = 0 then playR (stV L kd s old now) (rs.drop (k + 1)) else ([], stE L kd s old now) := by
  rw [List.drop_eq_getElem_cons h, hx]; rfl
theorem play_ok : ∀ (rs : List Rc) (L : List Rf), OkL L → OkL (playR L rs).1
  | [], _, h => h
  | r :: rs, L, h => by
    unfold playR
    split
    · exact play_ok rs _ (st_ok h)
    · exact OkL.nil
set_option maxRecDepth 100000 in
set_option maxHeartbeats 4000000 in
theorem rfplay_any (A : Option Addr) (n c : Nat) (l : List Rf) (A2 : Option Addr) (n2 c2 : Nat) (rs : List Rc) (w : World) (h : RdX rfC 3 w A n l) (h2 : RdX rcC 8 w A2 n2 rs) (hn2 : n2 ≤ maxLen) (hok : OkL l) (hz : ∀ r ∈ rs, r.2.2.2.1.size ≤ maxLen) :
    Calls Try.prog 65 #[.slice A n c, .slice A2 n2 c2] w (RetRV w (playR l rs).1 (playR l rs).2) := by
  have H := Lib.hid h
  have H2 := Lib.hid h2
  have L2 := Lib.hid h2.1
  have HZ := Lib.hid hz
  have HLn := Lib.hid h.1
  have HOK := Lib.hid hok
  have hn : n ≤ 64 := by rw [← h.1]; exact hok.len
  unfold maxLen at hn2
  have HB1 := Lib.hid (Below.refl w.heap.size w)
  clear h h2 hz hok
  go_enter Try.func65, Try.ntmps65
  go_wp2_with fail
  refine (rfclone_any A n c l w H.out (by omega)).mono ?_
  rintro e w1 ⟨v1, rfl, ho1, hb1⟩
  have HRV := Lib.hid (RV.own ho1)
  have HBS := Lib.hid hb1
  have hv1 := ho1.one
  clear ho1 hb1
  go_wp2_with fail
  go_loopw [6, 14] (fun vv i wr => ∃ (j : Nat) (v : Value) (L : List Rf), v = vv ∧ i = .int .i64 (j : Int) ∧ j ≤ n2 ∧ RV wr v L ∧ OkL L ∧ playR L (rs.drop j) = playR l rs ∧ Below w.heap.size w wr) (fun _ i _ => n2 - (intOf i).toNat)
  case atStart => exact ⟨0, _, l, rfl, rfl, Nat.zero_le _, HRV.out, HOK.out, rfl, HBS.out⟩
  case round =>
    clear HRV HBS HB1
    obtain ⟨j, v, L, rfl, rfl, hj, hrv, hokL, hpl, hb⟩ := hrel
    obtain ⟨A1, c1, rfl, hx1, hc1, hm1⟩ := hrv
    have HRL := Lib.hid hx1
    have HRV := Lib.hid (show RV wr (.slice A1 L.length c1) L from ⟨A1, c1, rfl, hx1, hc1, hm1⟩)
    have HKL := Lib.hid hokL
    have HPL := Lib.hid hpl
    have HB := Lib.hid hb
    have HC1 := Lib.hid hc1
    clear hx1 hokL hpl hb hc1 hm1
    by_cases hlt : j < n2
    · have hd1 : decide ((j : Int) < (n2 : Int)) = true := decide_eq_true (by omega)
      have hl : j < rs.length := by rw [L2.out]; exact hlt
      obtain ⟨b, off, _, rfl, hbb, _⟩ := (H2.out.below HB.out).at hlt
      have HZK := Lib.hid (HZ.out _ (List.getElem_mem hl))
      have HAT := Lib.hid (fun (q1 q2 kd q3 q4 : Int) (s old now : ByteArray) (hx : rs[j] = (q1, q2, kd, s, old, now, q3, q4)) => play_at L rs j hl hx)
      obtain ⟨x, hx⟩ : ∃ x, rs[j] = x := ⟨_, rfl⟩
      have HX := Lib.hid (show rs[j]? = some x by rw [List.getElem?_eq_getElem hl, hx])
      rw [hx] at HZK HAT
      obtain ⟨q1, q2, kd, s, old, now, q3, q4⟩ := x
      have HAT := Lib.hid (HAT.out _ _ _ _ _ _ _ _ rfl)
      have hsz : s.size ≤ maxLen := HZK.out
      have hi0 : (0 : Int) ≤ (j : Int) := by omega
      clear hx
      have HS := Lib.hid (fun (W : World) (q : RdX rfC 3 W A1 L.length L) => rfset_any A1 L.length c1 L kd s old now W q HC1.out HKL.out hsz)
      have HVK := Lib.hid (st_ok (k := kd) (s := s) (old := old) (now := now) HKL.out)
      generalize stV L kd s old now = V at *
      generalize stE L kd s old now = z at *
      by_cases hz0 : z = 0
      · have e0 : (z != 0) = false := by simpa using hz0
        have HR := Lib.hid (show playR V (rs.drop (j + 1)) = playR l rs by rw [← HPL.out, HAT.out, if_pos hz0])
        clear hz0
        have hc101 : wr.cell? ⟨b, off + j * 8, none⟩ = some (.int .i64 q1) := (H2.out.below HB.out).cellAt HX.out hlt 0 _ rfl
        have hc102 : wr.cell? ⟨b, off + j * 8 + 1, none⟩ = some (.int .i64 q2) := (H2.out.below HB.out).cellAt HX.out hlt 1 _ rfl
        have hc103 : wr.cell? ⟨b, off + j * 8 + 2, none⟩ = some (.int .i64 kd) := (H2.out.below HB.out).cellAt HX.out hlt 2 _ rfl
        have hc104 : wr.cell? ⟨b, off + j * 8 + 3, none⟩ = some (.string s) := (H2.out.below HB.out).cellAt HX.out hlt 3 _ rfl
        have hc105 : wr.cell? ⟨b, off + j * 8 + 4, none⟩ = some (.string old) := (H2.out.below HB.out).cellAt HX.out hlt 4 _ rfl
        have hc106 : wr.cell? ⟨b, off + j * 8 + 5, none⟩ = some (.string now) := (H2.out.below HB.out).cellAt HX.out hlt 5 _ rfl
        have hc107 : wr.cell? ⟨b, off + j * 8 + 6, none⟩ = some (.int .i64 q3) := (H2.out.below HB.out).cellAt HX.out hlt 6 _ rfl
        have hc108 : wr.cell? ⟨b, off + j * 8 + 7, none⟩ = some (.int .i64 q4) := (H2.out.below HB.out).cellAt HX.out hlt 7 _ rfl
        have HF109 := Lib.hid (blk_new wr (.cells #[.int .i64 q1, .int .i64 q2, .int .i64 kd, .string s, .string old, .string now, .int .i64 q3, .int .i64 q4] 110 (0, 0)))
        have HB110 := Lib.hid (HB.out.alloc HB.out.size (.cells #[.int .i64 q1, .int .i64 q2, .int .i64 kd, .string s, .string old, .string now, .int .i64 q3, .int .i64 q4] 110 (0, 0)))
        clear HB
        have hc111 : (wr.alloc (.cells #[.int .i64 q1, .int .i64 q2, .int .i64 kd, .string s, .string old, .string now, .int .i64 q3, .int .i64 q4] 110 (0, 0))).cell? ⟨wr.heap.size, 2, none⟩ = some (.int .i64 kd) := by rw [cell_of_row _ _ _ _ _ _ HF109.out]; rfl
        have hc112 : (wr.alloc (.cells #[.int .i64 q1, .int .i64 q2, .int .i64 kd, .string s, .string old, .string now, .int .i64 q3, .int .i64 q4] 110 (0, 0))).cell? ⟨wr.heap.size, 3, none⟩ = some (.string s) := by rw [cell_of_row _ _ _ _ _ _ HF109.out]; rfl
        have hc113 : (wr.alloc (.cells #[.int .i64 q1, .int .i64 q2, .int .i64 kd, .string s, .string old, .string now, .int .i64 q3, .int .i64 q4] 110 (0, 0))).cell? ⟨wr.heap.size, 4, none⟩ = some (.string old) := by rw [cell_of_row _ _ _ _ _ _ HF109.out]; rfl
        have hc114 : (wr.alloc (.cells #[.int .i64 q1, .int .i64 q2, .int .i64 kd, .string s, .string old, .string now, .int .i64 q3, .int .i64 q4] 110 (0, 0))).cell? ⟨wr.heap.size, 5, none⟩ = some (.string now) := by rw [cell_of_row _ _ _ _ _ _ HF109.out]; rfl
        go_wp2_with fail
        refine (HS.out (wr.alloc (.cells #[.int .i64 q1, .int .i64 q2, .int .i64 kd, .string s, .string old, .string now, .int .i64 q3, .int .i64 q4] 110 (0, 0))) (HRL.out.alloc _)).mono ?_
        rintro e w11 ⟨v4, rfl, hr4, hb11⟩
        clear hc101 hc102 hc103 hc104 hc105 hc106 hc107 hc108 hc111 hc112 hc113 hc114
        have HF115 := Lib.hid (blk_below HF109.out hb11)
        have HB116 := Lib.hid (HB110.out.trans (hb11.mono (by have := HB110.out.size; simp at this ⊢ <;> omega)))
        clear hb11 HB110 HF109
        have hv4 := hr4.one
        have HR4 := Lib.hid hr4
        clear hr4
        go_wp2_with fail
        go_roundw
        case rel => exact ⟨j + 1, v4, V, rfl, by go_num, by omega, HR4.out, HVK.out, HR.out, HB116.out⟩
        case measure => simp [intOf] <;> omega
      · have e0 : (z != 0) = true := by simpa using hz0
        have HR := Lib.hid (show playR l rs = ([], z) by rw [← HPL.out, HAT.out, if_neg hz0])
        clear hz0
        have hc101 : wr.cell? ⟨b, off + j * 8, none⟩ = some (.int .i64 q1) := (H2.out.below HB.out).cellAt HX.out hlt 0 _ rfl
        have hc102 : wr.cell? ⟨b, off + j * 8 + 1, none⟩ = some (.int .i64 q2) := (H2.out.below HB.out).cellAt HX.out hlt 1 _ rfl
        have hc103 : wr.cell? ⟨b, off + j * 8 + 2, none⟩ = some (.int .i64 kd) := (H2.out.below HB.out).cellAt HX.out hlt 2 _ rfl
        have hc104 : wr.cell? ⟨b, off + j * 8 + 3, none⟩ = some (.string s) := (H2.out.below HB.out).cellAt HX.out hlt 3 _ rfl
        have hc105 : wr.cell? ⟨b, off + j * 8 + 4, none⟩ = some (.string old) := (H2.out.below HB.out).cellAt HX.out hlt 4 _ rfl
        have hc106 : wr.cell? ⟨b, off + j * 8 + 5, none⟩ = some (.string now) := (H2.out.below HB.out).cellAt HX.out hlt 5 _ rfl
        have hc107 : wr.cell? ⟨b, off + j * 8 + 6, none⟩ = some (.int .i64 q3) := (H2.out.below HB.out).cellAt HX.out hlt 6 _ rfl
        have hc108 : wr.cell? ⟨b, off + j * 8 + 7, none⟩ = some (.int .i64 q4) := (H2.out.below HB.out).cellAt HX.out hlt 7 _ rfl
        have HF109 := Lib.hid (blk_new wr (.cells #[.int .i64 q1, .int .i64 q2, .int .i64 kd, .string s, .string old, .string now, .int .i64 q3, .int .i64 q4] 110 (0, 0)))
        have HB110 := Lib.hid (HB.out.alloc HB.out.size (.cells #[.int .i64 q1, .int .i64 q2, .int .i64 kd, .string s, .string old, .string now, .int .i64 q3, .int .i64 q4] 110 (0, 0)))
        clear HB
        have hc111 : (wr.alloc (.cells #[.int .i64 q1, .int .i64 q2, .int .i64 kd, .string s, .string old, .string now, .int .i64 q3, .int .i64 q4] 110 (0, 0))).cell? ⟨wr.heap.size, 2, none⟩ = some (.int .i64 kd) := by rw [cell_of_row _ _ _ _ _ _ HF109.out]; rfl
        have hc112 : (wr.alloc (.cells #[.int .i64 q1, .int .i64 q2, .int .i64 kd, .string s, .string old, .string now, .int .i64 q3, .int .i64 q4] 110 (0, 0))).cell? ⟨wr.heap.size, 3, none⟩ = some (.string s) := by rw [cell_of_row _ _ _ _ _ _ HF109.out]; rfl
        have hc113 : (wr.alloc (.cells #[.int .i64 q1, .int .i64 q2, .int .i64 kd, .string s, .string old, .string now, .int .i64 q3, .int .i64 q4] 110 (0, 0))).cell? ⟨wr.heap.size, 4, none⟩ = some (.string old) := by rw [cell_of_row _ _ _ _ _ _ HF109.out]; rfl
        have hc114 : (wr.alloc (.cells #[.int .i64 q1, .int .i64 q2, .int .i64 kd, .string s, .string old, .string now, .int .i64 q3, .int .i64 q4] 110 (0, 0))).cell? ⟨wr.heap.size, 5, none⟩ = some (.string now) := by rw [cell_of_row _ _ _ _ _ _ HF109.out]; rfl
        go_wp2_with fail
        refine (HS.out (wr.alloc (.cells #[.int .i64 q1, .int .i64 q2, .int .i64 kd, .string s, .string old, .string now, .int .i64 q3, .int .i64 q4] 110 (0, 0))) (HRL.out.alloc _)).mono ?_
        rintro e w11 ⟨v4, rfl, hr4, hb11⟩
        clear hc101 hc102 hc103 hc104 hc105 hc106 hc107 hc108 hc111 hc112 hc113 hc114
        have HF115 := Lib.hid (blk_below HF109.out hb11)
        have HB116 := Lib.hid (HB110.out.trans (hb11.mono (by have := HB110.out.size; simp at this ⊢ <;> omega)))
        clear hb11 HB110 HF109
        have hv4 := hr4.one
        have HR4 := Lib.hid hr4
        clear hr4
        go_wp2_with fail
        go_ret2
        exact ⟨_, by first | (rw [HR.out]; done) | (rw [HR.out]; rfl), by rw [HR.out]; exact RV.nil _, HB116.out⟩
    · have hd1 : decide ((j : Int) < (n2 : Int)) = false := decide_eq_false (by omega)
      have HR := Lib.hid (show playR l rs = (L, 0) by rw [← HPL.out, List.drop_eq_nil_of_le (by rw [L2.out]; omega)]; rfl)
      go_wp2_with fail
      go_ret2
      exact ⟨_, by first | (rw [HR.out]; done) | (rw [HR.out]; rfl), by rw [HR.out]; exact HRV.out, HB.out⟩
set_option maxRecDepth 100000 in
set_option maxHeartbeats 4000000 in
theorem rfdplay_any (A : Option Addr) (n c : Nat) (l : List Rf) (A2 : Option Addr) (n2 c2 : Nat) (rs : List Rc) (w : World) (h : RdX rfC 3 w A n l) (h2 : RdX rcC 8 w A2 n2 rs) (hnc : n ≤ c) (hcm : c ≤ maxLen) (hn2 : n2 ≤ maxLen) (hok : OkL l) (hz : ∀ r ∈ rs, r.2.2.2.1.size ≤ maxLen) :
    Calls Try.prog 66 #[.slice A n c, .slice A2 n2 c2] w (RetRV w (playR l rs).1 (playR l rs).2) := by
  have H := Lib.hid h
  have H2 := Lib.hid h2
  have L2 := Lib.hid h2.1
  have HZ := Lib.hid hz
  have HLn := Lib.hid h.1
  have HOK := Lib.hid hok
  have hn : n ≤ 64 := by rw [← h.1]; exact hok.len
  unfold maxLen at hn2
  have HB1 := Lib.hid (Below.refl w.heap.size w)
  clear h h2 hz hok
  go_enter Try.func66, Try.ntmps66
  go_wp2_with fail
  have HRV := Lib.hid (show RV w (.slice A n c) l from ⟨A, c, by rw [HLn.out], by rw [HLn.out]; exact H.out, by rw [HLn.out]; exact hnc, hcm⟩)
  have HBS := HB1
  go_loopw [0, 12] (fun vv i wr => ∃ (j : Nat) (v : Value) (L : List Rf), v = vv ∧ i = .int .i64 (j : Int) ∧ j ≤ n2 ∧ RV wr v L ∧ OkL L ∧ playR L (rs.drop j) = playR l rs ∧ Below w.heap.size w wr) (fun _ i _ => n2 - (intOf i).toNat)
  case atStart => exact ⟨0, _, l, rfl, rfl, Nat.zero_le _, HRV.out, HOK.out, rfl, HBS.out⟩
  case round =>
    clear HRV HBS HB1
    obtain ⟨j, v, L, rfl, rfl, hj, hrv, hokL, hpl, hb⟩ := hrel
    obtain ⟨A1, c1, rfl, hx1, hc1, hm1⟩ := hrv
    have HRL := Lib.hid hx1
    have HRV := Lib.hid (show RV wr (.slice A1 L.length c1) L from ⟨A1, c1, rfl, hx1, hc1, hm1⟩)
    have HKL := Lib.hid hokL
    have HPL := Lib.hid hpl
    have HB := Lib.hid hb
    have HC1 := Lib.hid hc1
    clear hx1 hokL hpl hb hc1 hm1
    by_cases hlt : j < n2
    · have hd1 : decide ((j : Int) < (n2 : Int)) = true := decide_eq_true (by omega)
      have hl : j < rs.length := by rw [L2.out]; exact hlt
      obtain ⟨b, off, _, rfl, hbb, _⟩ := (H2.out.below HB.out).at hlt
      have HZK := Lib.hid (HZ.out _ (List.getElem_mem hl))
      have HAT := Lib.hid (fun (q1 q2 kd q3 q4 : Int) (s old now : ByteArray) (hx : rs[j] = (q1, q2, kd, s, old, now, q3, q4)) => play_at L rs j hl hx)
      obtain ⟨x, hx⟩ : ∃ x, rs[j] = x := ⟨_, rfl⟩
      have HX := Lib.hid (show rs[j]? = some x by rw [List.getElem?_eq_getElem hl, hx])
      rw [hx] at HZK HAT
      obtain ⟨q1, q2, kd, s, old, now, q3, q4⟩ := x
      have HAT := Lib.hid (HAT.out _ _ _ _ _ _ _ _ rfl)
      have hsz : s.size ≤ maxLen := HZK.out
      have hi0 : (0 : Int) ≤ (j : Int) := by omega
      clear hx
      have HS := Lib.hid (fun (W : World) (q : RdX rfC 3 W A1 L.length L) => rfdset_any A1 L.length c1 L kd s old now W q (by have := HKL.out.len; omega) hsz)
      have HVK := Lib.hid (st_ok (k := kd) (s := s) (old := old) (now := now) HKL.out)
      generalize stV L kd s old now = V at *
      generalize stE L kd s old now = z at *
      by_cases hz0 : z = 0
      · have e0 : (z != 0) = false := by simpa using hz0
        have HR := Lib.hid (show playR V (rs.drop (j + 1)) = playR l rs by rw [← HPL.out, HAT.out, if_pos hz0])
        clear hz0
        have hc101 : wr.cell? ⟨b, off + j * 8, none⟩ = some (.int .i64 q1) := (H2.out.below HB.out).cellAt HX.out hlt 0 _ rfl
        have hc102 : wr.cell? ⟨b, off + j * 8 + 1, none⟩ = some (.int .i64 q2) := (H2.out.below HB.out).cellAt HX.out hlt 1 _ rfl
        have hc103 : wr.cell? ⟨b, off + j * 8 + 2, none⟩ = some (.int .i64 kd) := (H2.out.below HB.out).cellAt HX.out hlt 2 _ rfl
        have hc104 : wr.cell? ⟨b, off + j * 8 + 3, none⟩ = some (.string s) := (H2.out.below HB.out).cellAt HX.out hlt 3 _ rfl
        have hc105 : wr.cell? ⟨b, off + j * 8 + 4, none⟩ = some (.string old) := (H2.out.below HB.out).cellAt HX.out hlt 4 _ rfl
        have hc106 : wr.cell? ⟨b, off + j * 8 + 5, none⟩ = some (.string now) := (H2.out.below HB.out).cellAt HX.out hlt 5 _ rfl
        have hc107 : wr.cell? ⟨b, off + j * 8 + 6, none⟩ = some (.int .i64 q3) := (H2.out.below HB.out).cellAt HX.out hlt 6 _ rfl
        have hc108 : wr.cell? ⟨b, off + j * 8 + 7, none⟩ = some (.int .i64 q4) := (H2.out.below HB.out).cellAt HX.out hlt 7 _ rfl
        have HF109 := Lib.hid (blk_new wr (.cells #[.int .i64 q1, .int .i64 q2, .int .i64 kd, .string s, .string old, .string now, .int .i64 q3, .int .i64 q4] 110 (0, 0)))
        have HB110 := Lib.hid (HB.out.alloc HB.out.size (.cells #[.int .i64 q1, .int .i64 q2, .int .i64 kd, .string s, .string old, .string now, .int .i64 q3, .int .i64 q4] 110 (0, 0)))
        clear HB
        have hc111 : (wr.alloc (.cells #[.int .i64 q1, .int .i64 q2, .int .i64 kd, .string s, .string old, .string now, .int .i64 q3, .int .i64 q4] 110 (0, 0))).cell? ⟨wr.heap.size, 2, none⟩ = some (.int .i64 kd) := by rw [cell_of_row _ _ _ _ _ _ HF109.out]; rfl
        have hc112 : (wr.alloc (.cells #[.int .i64 q1, .int .i64 q2, .int .i64 kd, .string s, .string old, .string now, .int .i64 q3, .int .i64 q4] 110 (0, 0))).cell? ⟨wr.heap.size, 3, none⟩ = some (.string s) := by rw [cell_of_row _ _ _ _ _ _ HF109.out]; rfl
        have hc113 : (wr.alloc (.cells #[.int .i64 q1, .int .i64 q2, .int .i64 kd, .string s, .string old, .string now, .int .i64 q3, .int .i64 q4] 110 (0, 0))).cell? ⟨wr.heap.size, 4, none⟩ = some (.string old) := by rw [cell_of_row _ _ _ _ _ _ HF109.out]; rfl
        have hc114 : (wr.alloc (.cells #[.int .i64 q1, .int .i64 q2, .int .i64 kd, .string s, .string old, .string now, .int .i64 q3, .int .i64 q4] 110 (0, 0))).cell? ⟨wr.heap.size, 5, none⟩ = some (.string now) := by rw [cell_of_row _ _ _ _ _ _ HF109.out]; rfl
        go_wp2_with fail
        refine (HS.out (wr.alloc (.cells #[.int .i64 q1, .int .i64 q2, .int .i64 kd, .string s, .string old, .string now, .int .i64 q3, .int .i64 q4] 110 (0, 0))) (HRL.out.alloc _)).mono ?_
        rintro e w11 ⟨v4, rfl, hr4, hb11⟩
        clear hc101 hc102 hc103 hc104 hc105 hc106 hc107 hc108 hc111 hc112 hc113 hc114
        have HF115 := Lib.hid (blk_below HF109.out hb11)
        have HB116 := Lib.hid (HB110.out.trans (hb11.mono (by have := HB110.out.size; simp at this ⊢ <;> omega)))
        clear hb11 HB110 HF109
        have hv4 := hr4.one
        have HR4 := Lib.hid hr4
        clear hr4
        go_wp2_with fail
        go_roundw
        case rel => exact ⟨j + 1, v4, V, rfl, by go_num, by omega, HR4.out, HVK.out, HR.out, HB116.out⟩
        case measure => simp [intOf] <;> omega
      · have e0 : (z != 0) = true := by simpa using hz0
        have HR := Lib.hid (show playR l rs = ([], z) by rw [← HPL.out, HAT.out, if_neg hz0])
        clear hz0
        have hc101 : wr.cell? ⟨b, off + j * 8, none⟩ = some (.int .i64 q1) := (H2.out.below HB.out).cellAt HX.out hlt 0 _ rfl
        have hc102 : wr.cell? ⟨b, off + j * 8 + 1, none⟩ = some (.int .i64 q2) := (H2.out.below HB.out).cellAt HX.out hlt 1 _ rfl
        have hc103 : wr.cell? ⟨b, off + j * 8 + 2, none⟩ = some (.int .i64 kd) := (H2.out.below HB.out).cellAt HX.out hlt 2 _ rfl
        have hc104 : wr.cell? ⟨b, off + j * 8 + 3, none⟩ = some (.string s) := (H2.out.below HB.out).cellAt HX.out hlt 3 _ rfl
        have hc105 : wr.cell? ⟨b, off + j * 8 + 4, none⟩ = some (.string old) := (H2.out.below HB.out).cellAt HX.out hlt 4 _ rfl
        have hc106 : wr.cell? ⟨b, off + j * 8 + 5, none⟩ = some (.string now) := (H2.out.below HB.out).cellAt HX.out hlt 5 _ rfl
        have hc107 : wr.cell? ⟨b, off + j * 8 + 6, none⟩ = some (.int .i64 q3) := (H2.out.below HB.out).cellAt HX.out hlt 6 _ rfl
        have hc108 : wr.cell? ⟨b, off + j * 8 + 7, none⟩ = some (.int .i64 q4) := (H2.out.below HB.out).cellAt HX.out hlt 7 _ rfl
        have HF109 := Lib.hid (blk_new wr (.cells #[.int .i64 q1, .int .i64 q2, .int .i64 kd, .string s, .string old, .string now, .int .i64 q3, .int .i64 q4] 110 (0, 0)))
        have HB110 := Lib.hid (HB.out.alloc HB.out.size (.cells #[.int .i64 q1, .int .i64 q2, .int .i64 kd, .string s, .string old, .string now, .int .i64 q3, .int .i64 q4] 110 (0, 0)))
        clear HB
        have hc111 : (wr.alloc (.cells #[.int .i64 q1, .int .i64 q2, .int .i64 kd, .string s, .string old, .string now, .int .i64 q3, .int .i64 q4] 110 (0, 0))).cell? ⟨wr.heap.size, 2, none⟩ = some (.int .i64 kd) := by rw [cell_of_row _ _ _ _ _ _ HF109.out]; rfl
        have hc112 : (wr.alloc (.cells #[.int .i64 q1, .int .i64 q2, .int .i64 kd, .string s, .string old, .string now, .int .i64 q3, .int .i64 q4] 110 (0, 0))).cell? ⟨wr.heap.size, 3, none⟩ = some (.string s) := by rw [cell_of_row _ _ _ _ _ _ HF109.out]; rfl
        have hc113 : (wr.alloc (.cells #[.int .i64 q1, .int .i64 q2, .int .i64 kd, .string s, .string old, .string now, .int .i64 q3, .int .i64 q4] 110 (0, 0))).cell? ⟨wr.heap.size, 4, none⟩ = some (.string old) := by rw [cell_of_row _ _ _ _ _ _ HF109.out]; rfl
        have hc114 : (wr.alloc (.cells #[.int .i64 q1, .int .i64 q2, .int .i64 kd, .string s, .string old, .string now, .int .i64 q3, .int .i64 q4] 110 (0, 0))).cell? ⟨wr.heap.size, 5, none⟩ = some (.string now) := by rw [cell_of_row _ _ _ _ _ _ HF109.out]; rfl
        go_wp2_with fail
        refine (HS.out (wr.alloc (.cells #[.int .i64 q1, .int .i64 q2, .int .i64 kd, .string s, .string old, .string now, .int .i64 q3, .int .i64 q4] 110 (0, 0))) (HRL.out.alloc _)).mono ?_
        rintro e w11 ⟨v4, rfl, hr4, hb11⟩
        clear hc101 hc102 hc103 hc104 hc105 hc106 hc107 hc108 hc111 hc112 hc113 hc114
        have HF115 := Lib.hid (blk_below HF109.out hb11)
        have HB116 := Lib.hid (HB110.out.trans (hb11.mono (by have := HB110.out.size; simp at this ⊢ <;> omega)))
        clear hb11 HB110 HF109
        have hv4 := hr4.one
        have HR4 := Lib.hid hr4
        clear hr4
        go_wp2_with fail
        go_ret2
        exact ⟨_, by first | (rw [HR.out]; done) | (rw [HR.out]; rfl), by rw [HR.out]; exact RV.nil _, HB116.out⟩
    · have hd1 : decide ((j : Int) < (n2 : Int)) = false := decide_eq_false (by omega)
      have HR := Lib.hid (show playR l rs = (L, 0) by rw [← HPL.out, List.drop_eq_nil_of_le (by rw [L2.out]; omega)]; rfl)
      go_wp2_with fail
      go_ret2
      exact ⟨_, by first | (rw [HR.out]; done) | (rw [HR.out]; rfl), by rw [HR.out]; exact HRV.out, HB.out⟩
end Go.Proofs.Ytbjngbacnkmjhaa

namespace Go.Proofs.Ytbjngbacnkmjhaa
open Go.RowKit Vi

theorem info_rc : (Try.prog.info? 110).map (fun i => (i.zero, i.size, i.bytes)) = some (some (.agg #[.int .i64 0, .int .i64 0, .int .i64 0, .string ⟨#[]⟩, .string ⟨#[]⟩, .string ⟨#[]⟩, .int .i64 0, .int .i64 0]), 8, 88) := by kernel_rfl
/-- the records that make refs of none -/
def recF (ep tl nu : Int) : Nat → List Rf → List Rc
  | _, [] => []
  | i, r :: l => (ep, (i : Int), r.1, r.2.1, ⟨#[]⟩, r.2.2, tl, nu) :: recF ep tl nu (i + 1) l
theorem recF_len (ep tl nu : Int) : ∀ (l : List Rf) (i : Nat), (recF ep tl nu i l).length = l.length
  | [], _ => rfl
  | r :: l, i => by simp [recF, recF_len ep tl nu l (i + 1)]
theorem recF_app (ep tl nu : Int) : ∀ (l m : List Rf) (i : Nat), recF ep tl nu i (l ++ m) = recF ep tl nu i l ++ recF ep tl nu (i + l.length) m
  | [], _, _ => rfl
  | r :: l, m, i => by
    show _ :: recF ep tl nu (i + 1) (l ++ m) = _ :: (recF ep tl nu (i + 1) l ++ _)
    rw [recF_app ep tl nu l m (i + 1), List.length_cons]
    rw [show i + 1 + l.length = i + (l.length + 1) by omega]
theorem recF_take (ep tl nu : Int) (l : List Rf) (k : Nat) (h : k < l.length) {x1 : Int} {x2 x3 : ByteArray} (hx : l[k] = (x1, x2, x3)) : recF ep tl nu 0 (l.take (k + 1)) = recF ep tl nu 0 (l.take k) ++ [(ep, (k : Int), x1, x2, ⟨#[]⟩, x3, tl, nu)] := by
  rw [List.take_succ_eq_append_getElem h, recF_app, List.length_take, hx, Nat.zero_add, Nat.min_eq_left (by omega)]; rfl
theorem recF_get (ep tl nu : Int) (l : List Rf) (k : Nat) {x1 : Int} {x2 x3 : ByteArray} (h : l[k]? = some (x1, x2, x3)) : (recF ep tl nu 0 l)[k]? = some (ep, (k : Int), x1, x2, ⟨#[]⟩, x3, tl, nu) := by
  obtain ⟨hl, hx⟩ := List.getElem?_eq_some_iff.1 h
  have e : l = l.take (k + 1) ++ l.drop (k + 1) := (List.take_append_drop _ _).symm
  have e2 : recF ep tl nu 0 l = recF ep tl nu 0 (l.take (k + 1)) ++ recF ep tl nu (0 + (l.take (k + 1)).length) (l.drop (k + 1)) := by rw [← recF_app, ← e]
  rw [e2, recF_take ep tl nu l k hl hx, List.append_assoc, List.getElem?_append_right (by rw [recF_len, List.length_take]; omega), recF_len]
  have hq : k - (l.take k).length = 0 := by rw [List.length_take]; omega
  rw [hq]; rfl
theorem recF_sz (ep tl nu : Int) : ∀ (l : List Rf) (i : Nat), (∀ r ∈ l, r.2.1.size ≤ maxLen) → ∀ r ∈ recF ep tl nu i l, r.2.2.2.1.size ≤ maxLen
  | [], _, _ => by simp [recF]
  | r :: l, i, h => fun x hx => by
    rcases List.mem_cons.1 hx with rfl | hx
    · exact h r (by simp)
    · exact recF_sz ep tl nu l (i + 1) (fun y hy => h y (List.mem_cons_of_mem _ hy)) x hx
/-- refs that may be, record by record -/
theorem play_rec (ep tl nu : Int) : ∀ (suf pre : List Rf) (i : Nat), OkL (pre ++ suf) → playR pre (recF ep tl nu i suf) = (pre ++ suf, 0)
  | [], pre, i, h => by rw [List.append_nil]; rfl
  | r :: suf, pre, i, h => by
    obtain ⟨k, s, hs⟩ := r
    have hr := List.pairwise_append.1 h.rise
    have hlt : ∀ a ∈ pre, lessR a (k, s, hs) = true := fun a ha => hr.2.2 a ha _ (by simp)
    have hok := h.ok (k, s, hs) (by simp)
    unfold okR at hok
    rw [Bool.and_eq_true] at hok
    have ho : okN k s = true := hok.1
    have hne : emB hs = false := by unfold emB; simpa using hok.2
    have hi : isR pre (k, s, hs) = ⟨#[]⟩ := by
      have : pre.find? (fun r => sameK r (k, s, hs)) = none := by
        rw [List.find?_eq_none]
        intro a ha
        rw [sameK_less (hlt a ha)]; simp
      unfold isR; rw [this]
    have hl : pre.length < 64 := by have := h.len; simp at this; omega
    have hz : stE pre k s ⟨#[]⟩ hs = 0 := by
      unfold stE
      rw [if_neg (by rw [ho]; simp), if_neg (fun q => by rw [hne] at q; cases q.2), hi, if_neg (by simp), if_neg (fun q => by omega)]
    have hv : stV pre k s ⟨#[]⟩ hs = pre ++ [(k, s, hs)] := by
      unfold stV stL
      rw [if_pos hz, if_neg (by show ¬ emB hs = true; rw [hne]; simp), List.filter_eq_self.2 hlt, List.filter_eq_nil_iff.2 (fun a ha => by rw [lessR_asym (hlt a ha)]; simp), List.append_nil]
    show (if stE pre k s ⟨#[]⟩ hs = 0 then playR (stV pre k s ⟨#[]⟩ hs) (recF ep tl nu (i + 1) suf) else _) = _
    rw [if_pos hz, hv, play_rec ep tl nu suf (pre ++ [(k, s, hs)]) (i + 1) (by rw [List.append_assoc]; exact h), List.append_assoc]
    rfl
def RetRec (w : World) (L : List Rc) (e : Ending) (w' : World) : Prop := ∃ v, e = .returned v ∧ OwX rcC 8 110 w' w.heap.size v L ∧ Below w.heap.size w w'
set_option maxRecDepth 100000 in
set_option maxHeartbeats 4000000 in
theorem rfrecs_any (ep tl nu : Int) (A : Option Addr) (n c : Nat) (l : List Rf) (w : World) (h : RdX rfC 3 w A n l) (hn : n ≤ 100000) :
    Calls Try.prog 67 #[.int .i64 ep, .int .i64 tl, .int .i64 nu, .slice A n c] w (RetRec w (recF ep tl nu 0 l)) := by
  have H := Lib.hid h
  have LL := Lib.hid h.1
  have HB1 := Lib.hid (Below.refl w.heap.size w)
  clear h
  go_enter Try.func67, Try.ntmps67
  go_wp2_with fail
  go_loopw [9, 14] (fun vv i wr => ∃ (k : Nat) (v : Value) (M : List Rc), v = vv ∧ i = .int .i64 (k : Int) ∧ k ≤ n ∧ M = recF ep tl nu 0 (l.take k) ∧ OwX rcC 8 110 wr w.heap.size v M ∧ Below w.heap.size w wr) (fun _ i _ => n - (intOf i).toNat)
  case atStart => exact ⟨0, _, [], rfl, rfl, Nat.zero_le _, rfl, OwX.nil _, HB1.out⟩
  case round =>
    clear HB1
    obtain ⟨k, v, M, rfl, rfl, hk, hM, how, hb⟩ := hrel
    have HM := Lib.hid hM
    have HO := Lib.hid how
    have HB := Lib.hid hb
    have hv := how.one
    clear hM how hb
    by_cases hlt : k < n
    · have hd1 : decide ((k : Int) < (n : Int)) = true := decide_eq_true (by omega)
      have hl : k < l.length := by rw [LL.out]; exact hlt
      obtain ⟨b, off, _, rfl, hbb, _⟩ := (H.out.below HB.out).at hlt
      obtain ⟨x, hx⟩ : ∃ x, l[k] = x := ⟨_, rfl⟩
      have HX := Lib.hid (show l[k]? = some x by rw [List.getElem?_eq_getElem hl, hx])
      obtain ⟨x1, x2, x3⟩ := x
      have HR := Lib.hid (show M ++ [(ep, (k : Int), x1, x2, ⟨#[]⟩, x3, tl, nu)] = recF ep tl nu 0 (l.take (k + 1)) by rw [recF_take ep tl nu l k hl hx, HM.out])
      have hML : M.length ≤ 100000 := by rw [HM.out, recF_len, List.length_take]; omega
      have hi0 : (0 : Int) ≤ (k : Int) := by omega
      clear hx
      have hc101 : wr.cell? ⟨b, off + k * 3, none⟩ = some (.int .i64 x1) := (H.out.below HB.out).cellAt HX.out hlt 0 _ rfl
      have hc102 : wr.cell? ⟨b, off + k * 3 + 1, none⟩ = some (.string x2) := (H.out.below HB.out).cellAt HX.out hlt 1 _ rfl
      have hc103 : wr.cell? ⟨b, off + k * 3 + 2, none⟩ = some (.string x3) := (H.out.below HB.out).cellAt HX.out hlt 2 _ rfl
      have HF104 := Lib.hid (blk_new wr (.cells #[.int .i64 x1, .string x2, .string x3] 97 (0, 0)))
      have HB105 := Lib.hid (HB.out.alloc HB.out.size (.cells #[.int .i64 x1, .string x2, .string x3] 97 (0, 0)))
      clear HB
      have hc106 : (wr.alloc (.cells #[.int .i64 x1, .string x2, .string x3] 97 (0, 0))).cell? ⟨wr.heap.size, 0, none⟩ = some (.int .i64 x1) := by rw [cell_of_row _ _ _ _ _ _ HF104.out]; rfl
      have hc107 : (wr.alloc (.cells #[.int .i64 x1, .string x2, .string x3] 97 (0, 0))).cell? ⟨wr.heap.size, 1, none⟩ = some (.string x2) := by rw [cell_of_row _ _ _ _ _ _ HF104.out]; rfl
      have hc108 : (wr.alloc (.cells #[.int .i64 x1, .string x2, .string x3] 97 (0, 0))).cell? ⟨wr.heap.size, 2, none⟩ = some (.string x3) := by rw [cell_of_row _ _ _ _ _ _ HF104.out]; rfl
      have hrn : ((wr.alloc (.cells #[.int .i64 x1, .string x2, .string x3] 97 (0, 0))).alloc (.cells #[.int .i64 ep, .int .i64 (k : Int), .int .i64 x1, .string x2, .string ⟨#[]⟩, .string x3, .int .i64 tl, .int .i64 nu] 110 (0, 0))).heap[wr.heap.size + 1]? = some (.cells #[.int .i64 ep, .int .i64 (k : Int), .int .i64 x1, .string x2, .string ⟨#[]⟩, .string x3, .int .i64 tl, .int .i64 nu] 110 (0, 0)) := two_blk wr _ _
      go_wp2_with (at_builtin; refine wpList_appX rfl (.tmp 19) (.tmp 31) 108 110 _ 88 rfl Try.underlying108 info_rc rfl (by omega) (by omega) rcC_len rcC_one w.heap.size w (HB105.out.alloc HB105.out.size _) (by have := HB105.out.size; simp at this ⊢; omega) v M rfl ((HO.out.alloc _).alloc _) (wr.heap.size + 1) 1 (ep, (k : Int), x1, x2, ⟨#[]⟩, x3, tl, nu) _ 110 (0, 0) rfl hrn rfl (by omega) ?_)
      intro v7 w7 HO7 HB7 HZ7 HG7
      clear hc101 hc102 hc103 hc106 hc107 hc108
      clear hrn
      have hv7 := HO7.out.one
      go_wp2_with fail
      go_roundw
      case rel => exact ⟨k + 1, v7, _, rfl, by go_num, by omega, HR.out, HO7.out, HB7.out⟩
      case measure => simp [intOf] <;> omega
    · have hd1 : decide ((k : Int) < (n : Int)) = false := decide_eq_false (by omega)
      have HE := Lib.hid (show M = recF ep tl nu 0 l by rw [HM.out, List.take_of_length_le (by rw [LL.out]; omega)])
      rw [HE.out] at HO
      go_wp2_with fail
      go_ret
      exact ⟨v, rfl, HO.out, HB.out⟩
end Go.Proofs.Ytbjngbacnkmjhaa
