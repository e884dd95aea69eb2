/- Refs that may be, and what a change makes of them, in plain words; slices that read as refs. No condition. -/
import Derived.Test.YtbjngbacnkmjhaaRFc
import Derived.Test.YtbjngbacnkmjhaaRFd
namespace Go.Proofs.Ytbjngbacnkmjhaa
open Go.RowKit Vi

def emB (s : ByteArray) : Bool := s.toList.isEmpty
def stL (l : List Rf) (x : Rf) : List Rf := l.filter (fun a => lessR a x) ++ (if emB x.2.2 = true then [] else [x]) ++ l.filter (fun a => lessR x a)
def stE (l : List Rf) (k : Int) (s old now : ByteArray) : Int :=
  if okN k s = false then 2 else if emB old = true ∧ emB now = true then 2
  else if ((isR l (k, s, now)).toList == old.toList) = false then (if emB old = true then 10 else if emB (isR l (k, s, now)) = true then 9 else 12)
  else if emB old = true ∧ 64 ≤ l.length then 5 else 0
def stV (l : List Rf) (k : Int) (s old now : ByteArray) : List Rf := if stE l k s old now = 0 then stL l (k, s, now) else []
structure OkL (l : List Rf) : Prop where
  len : l.length ≤ 64
  ok : ∀ r ∈ l, okR r = true
  rise : RiseR l
theorem wrE_ok : ∀ (l : List Rf) (p : Option Rf), wrE p l = 0 → (∀ r ∈ l, okR r = true) ∧ RiseR l ∧ ∀ a, p = some a → ∀ r ∈ l, lessR a r = true
  | [], _, _ => ⟨by simp, List.Pairwise.nil, by simp⟩
  | r :: l, p, h => by
    unfold wrE at h
    split at h
    · cases h
    · next h1 =>
      split at h
      · cases h
      · next h2 =>
        obtain ⟨k1, k2, k3⟩ := wrE_ok l (some r) h
        have o : okR r = true := by simpa using h1
        refine ⟨fun x hx => ?_, List.pairwise_cons.2 ⟨k3 r rfl, k2⟩, fun a ha x hx => ?_⟩
        · rcases List.mem_cons.1 hx with rfl | hx
          · exact o
          · exact k1 x hx
        · subst ha
          have h3 : lessR a r = true := by simpa [ordR] using h2
          rcases List.mem_cons.1 hx with rfl | hx
          · exact h3
          · exact lessR_trans h3 (k3 r rfl x hx)
theorem ok_wrE : ∀ (l : List Rf) (p : Option Rf), (∀ r ∈ l, okR r = true) → RiseR l → (∀ a, p = some a → ∀ r ∈ l, lessR a r = true) → wrE p l = 0
  | [], _, _, _, _ => rfl
  | r :: l, p, h1, h2, h3 => by
    obtain ⟨q1, q2⟩ := List.pairwise_cons.1 h2
    unfold wrE
    rw [if_neg (by rw [h1 r (by simp)]; simp), if_neg, ok_wrE l (some r) (fun x hx => h1 x (List.mem_cons_of_mem _ hx)) q2 (fun a ha x hx => by cases ha; exact q1 x hx)]
    cases p with
    | none => simp [ordR]
    | some a => show ¬ lessR a r = false; rw [h3 a rfl r (by simp)]; simp
theorem wr_ok {l : List Rf} (h : wrR l = 0) : OkL l := by
  unfold wrR at h
  split at h
  · cases h
  · next h1 =>
    obtain ⟨k1, k2, _⟩ := wrE_ok l none h
    exact ⟨by omega, k1, k2⟩
theorem ok_wr {l : List Rf} (h : OkL l) : wrR l = 0 := by
  unfold wrR
  rw [if_neg (by have := h.len; omega)]
  exact ok_wrE l none h.ok h.rise (fun a ha => by cases ha)
theorem OkL.nil : OkL [] := ⟨by simp, by simp, List.Pairwise.nil⟩
theorem filtR_cut {α : Type} (p : α → Bool) (l : List α) (K : Nat) (h1 : ∀ t (h : t < l.length), t < K → p l[t] = true) (h2 : ∀ t (h : t < l.length), K ≤ t → p l[t] = false) : l.filter p = l.take K := by
  have e : l.filter p = (l.take K ++ l.drop K).filter p := by rw [List.take_append_drop]
  rw [e, List.filter_append, List.filter_eq_self.2, List.filter_eq_nil_iff.2, List.append_nil]
  · intro a ha
    obtain ⟨i, hi, rfl⟩ := List.getElem_of_mem ha
    rw [List.getElem_drop]
    rw [List.length_drop] at hi
    rw [h2 (K + i) (by omega) (by omega)]; simp
  · intro a ha
    obtain ⟨i, hi, rfl⟩ := List.getElem_of_mem ha
    rw [List.getElem_take]
    rw [List.length_take] at hi
    exact h1 i (by omega) (by omega)
theorem filtR_cut2 {α : Type} (p : α → Bool) (l : List α) (K : Nat) (h1 : ∀ t (h : t < l.length), t < K → p l[t] = false) (h2 : ∀ t (h : t < l.length), K ≤ t → p l[t] = true) : l.filter p = l.drop K := by
  have e : l.filter p = (l.take K ++ l.drop K).filter p := by rw [List.take_append_drop]
  rw [e, List.filter_append, List.filter_eq_nil_iff.2, List.filter_eq_self.2, List.nil_append]
  · intro a ha
    obtain ⟨i, hi, rfl⟩ := List.getElem_of_mem ha
    rw [List.getElem_drop]
    rw [List.length_drop] at hi
    exact h2 (K + i) (by omega) (by omega)
  · intro a ha
    obtain ⟨i, hi, rfl⟩ := List.getElem_of_mem ha
    rw [List.getElem_take]
    rw [List.length_take] at hi
    rw [h1 i (by omega) (by omega)]; simp
theorem ltR_take {l : List Rf} {x : Rf} (hr : RiseR l) : l.filter (fun a => lessR a x) = l.take (lesR l x) :=
  filtR_cut _ _ _ (fun t h ht => (cutR l x hr t h).1 ht) (fun t h ht => (cutR l x hr t h).2 ht)
theorem lessR_asym {a b : Rf} (h : lessR a b = true) : lessR b a = false := by
  rcases cmpR_cases a b with ⟨_, h2, _⟩ | ⟨h1, _⟩ | ⟨h1, _⟩
  · exact h2
  · rw [h1] at h; cases h
  · rw [h1] at h; cases h
theorem gtR_yes {l : List Rf} {x : Rf} (hr : RiseR l) (h : metR l x (lesR l x) = true) : l.filter (fun a => lessR x a) = l.drop (lesR l x + 1) := by
  obtain ⟨hk, hs, _⟩ := isR_yes hr h
  refine filtR_cut2 _ _ _ (fun t ht hl => ?_) (fun t ht hl => ?_)
  · rcases Nat.lt_or_ge t (lesR l x) with q | q
    · exact lessR_asym ((cutR l x hr t ht).1 q)
    · have e : t = lesR l x := by omega
      subst e
      rcases cmpR_cases l[lesR l x] x with ⟨_, h2, _⟩ | ⟨_, _, _, h4⟩ | ⟨_, h2, _⟩
      · exact h2
      · rw [h4] at hs; cases hs
      · exact h2
  · have h2 : lessR l[lesR l x] l[t] = true := (List.pairwise_iff_getElem.1 hr) _ _ hk ht (by omega)
    exact lessR_same hs h2
theorem gtR_no {l : List Rf} {x : Rf} (hr : RiseR l) (h : metR l x (lesR l x) = false) : l.filter (fun a => lessR x a) = l.drop (lesR l x) := by
  refine filtR_cut2 _ _ _ (fun t ht hl => lessR_asym ((cutR l x hr t ht).1 hl)) (fun t ht hl => ?_)
  have h1 := (cutR l x hr t ht).2 hl
  rcases cmpR_cases l[t] x with ⟨h2, _⟩ | ⟨_, h2, _⟩ | ⟨_, _, _, h4⟩
  · rw [h2] at h1; cases h1
  · exact h2
  · exfalso
    rcases Nat.eq_or_lt_of_le hl with q | q
    · have hm : metR l x (lesR l x) = true := by unfold metR; rw [List.getElem?_eq_getElem (by omega)]; rw [← show l[t] = l[lesR l x]'(by omega) by congr 1; exact q.symm]; exact h4
      rw [hm] at h; cases h
    · have hk : lesR l x < l.length := by omega
      have h5 := (cutR l x hr _ hk).2 (Nat.le_refl _)
      have h6 : lessR l[lesR l x] l[t] = true := (List.pairwise_iff_getElem.1 hr) _ _ hk ht q
      have : ∀ u : Rf, lessR u l[t] = lessR u x := fun u => by
        generalize l[t] = y at h4
        unfold sameK at h4
        rw [Bool.and_eq_true, decide_eq_true_iff, beq_iff_eq] at h4
        unfold lessR; rw [h4.1, h4.2]
      rw [this, h5] at h6; cases h6
/-- whether one is there is told by what it names -/
theorem isR_em {l : List Rf} {x : Rf} (h : OkL l) : emB (isR l x) = !metR l x (lesR l x) := by
  cases hm : metR l x (lesR l x) with
  | false => rw [isR_no h.rise hm]; unfold emB; rw [ByteArray.toList_eq]; rfl
  | true =>
    obtain ⟨hk, _, he⟩ := isR_yes h.rise hm
    rw [he]
    have := h.ok _ (List.getElem_mem hk)
    unfold okR at this
    rw [Bool.and_eq_true] at this
    have h2 := this.2
    unfold emB
    cases q : (l[lesR l x].2.2).toList.isEmpty
    · rfl
    · rw [q] at h2; cases h2
theorem emB_ext {a b : ByteArray} (h1 : emB a = true) (h2 : emB b = true) : (a.toList == b.toList) = true := by
  unfold emB at h1 h2
  rw [List.isEmpty_iff] at h1 h2
  rw [h1, h2]; rfl
theorem emB_same {a b : ByteArray} (h : (a.toList == b.toList) = true) : emB a = emB b := by
  rw [beq_iff_eq] at h
  unfold emB; rw [h]
theorem st_bad {l : List Rf} {k : Int} {s old now : ByteArray} {z : Int} (h : stE l k s old now = z) (hz : z ≠ 0) : stE l k s old now = z ∧ stV l k s old now = [] := ⟨h, by unfold stV; rw [if_neg (by rw [h]; exact hz)]⟩
theorem st_ok {l : List Rf} {k : Int} {s old now : ByteArray} (hl : OkL l) : OkL (stV l k s old now) := by
  by_cases hz : stE l k s old now = 0
  rotate_left
  · unfold stV; rw [if_neg hz]; exact OkL.nil
  have hz2 := hz
  unfold stE at hz
  split at hz
  · cases hz
  next g1 =>
  split at hz
  · cases hz
  next g2 =>
  split at hz
  · split at hz
    · cases hz
    · split at hz <;> cases hz
  next g3 =>
  split at hz
  · cases hz
  next g4 =>
  have e3 : ((isR l (k, s, now)).toList == old.toList) = true := by simpa using g3
  have em := emB_same e3
  rw [isR_em hl] at em
  unfold stV
  rw [if_pos hz2]
  refine ⟨?_, fun r hr => ?_, ?_⟩
  · unfold stL
    rw [ltR_take hl.rise]
    have hK := lesR_le l (k, s, now)
    have h64 := hl.len
    have hmid : (if emB now = true then [] else [(k, s, now)] : List Rf).length ≤ 1 := by split <;> simp
    cases hm : metR l (k, s, now) (lesR l (k, s, now)) with
    | true =>
      obtain ⟨hk, _⟩ := isR_yes hl.rise hm
      rw [gtR_yes hl.rise hm]
      simp only [List.length_append, List.length_take, List.length_drop]
      omega
    | false =>
      rw [hm] at em
      have : ¬ 64 ≤ l.length := fun q => g4 ⟨em.symm, q⟩
      rw [gtR_no hl.rise hm]
      simp only [List.length_append, List.length_take, List.length_drop]
      omega
  · unfold stL at hr
    rw [List.mem_append, List.mem_append, List.mem_filter, List.mem_filter] at hr
    rcases hr with (hr | hr) | hr
    · exact hl.ok _ hr.1
    · split at hr
      · simp at hr
      next g5 =>
        have : r = (k, s, now) := by simpa using hr
        subst this
        unfold okR
        rw [show okN (k, s, now).1 (k, s, now).2.1 = true by simpa using g1]
        unfold emB at g5
        simpa using g5
    · exact hl.ok _ hr.1
  · unfold stL
    have hmid : ∀ r ∈ (if emB (k, s, now).2.2 = true then [] else [(k, s, now)] : List Rf), r = (k, s, now) := fun r hr => by
      split at hr
      · simp at hr
      · simpa using hr
    refine List.pairwise_append.2 ⟨List.pairwise_append.2 ⟨hl.rise.sublist List.filter_sublist, ?_, ?_⟩, hl.rise.sublist List.filter_sublist, ?_⟩
    · split
      · exact List.Pairwise.nil
      · exact List.pairwise_singleton _ _
    · intro a ha b hb
      rw [hmid b hb]
      exact (List.mem_filter.1 ha).2
    · intro a ha b hb
      have h2 := (List.mem_filter.1 hb).2
      rcases List.mem_append.1 ha with ha | ha
      · exact lessR_trans (List.mem_filter.1 ha).2 h2
      · rw [hmid a ha]; exact h2
/-- a slice that reads as refs -/
def RV (w : World) (v : Value) (L : List Rf) : Prop := ∃ (A : Option Addr) (c : Nat), v = .slice A L.length c ∧ RdX rfC 3 w A L.length L ∧ L.length ≤ c ∧ c ≤ maxLen
def RetRV (w : World) (L : List Rf) (z : Int) (e : Ending) (w' : World) : Prop := ∃ v, e = .returned (.tuple #[v, .int .i64 z]) ∧ RV w' v L ∧ Below w.heap.size w w'
theorem RV.nil (w : World) : RV w (.slice none 0 0) [] := ⟨none, 0, rfl, RdX.nil, Nat.le_refl _, Nat.zero_le _⟩
theorem RV.own {w : World} {B : Nat} {v : Value} {L : List Rf} (h : OwX rfC 3 97 w B v L) : RV w v L := by
  obtain ⟨A, c, e, r, h1, h2⟩ := h.rd rfC_len
  exact ⟨A, c, e, r, h1, h2⟩
theorem RV.later {w w' : World} {v : Value} {L : List Rf} (h : RV w v L) (hb : Below w.heap.size w w') : RV w' v L := by
  obtain ⟨A, c, e, r, q⟩ := h
  exact ⟨A, c, e, r.below hb, q⟩
theorem RV.below {w w' : World} {v : Value} {L : List Rf} (h : RV w v L) (hb : Below w.heap.size w w') : RV w' v L := h.later hb
theorem ok_sz {l : List Rf} (h : OkL l) : ∀ r ∈ l, r.2.1.size ≤ maxLen := fun r hr => by
  have h1 := h.ok r hr
  unfold okR okN nm at h1
  simp only [Bool.and_eq_true, decide_eq_true_iff] at h1
  have h2 := h1.1.2.1.2
  unfold maxLen; omega
theorem RV.one {w : World} {v : Value} {L : List Rf} (h : RV w v L) : v.oneCell' = true := by
  obtain ⟨A, c, rfl, _⟩ := h; rfl
end Go.Proofs.Ytbjngbacnkmjhaa
