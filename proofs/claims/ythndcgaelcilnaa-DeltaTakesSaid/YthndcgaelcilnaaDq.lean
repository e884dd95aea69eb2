/- Plain facts on the bytes of pieces: what is read where a piece stands, one reading alone, and back. No condition. -/
import Derived.Test.YthndcgaelcilnaaDz
import Derived.Test.YthndcgaelcilnaaZp
namespace Go.Proofs.Ythndcgaelcilnaa
open Go.RowKit Vi Zp

theorem put_pos1 (n : Nat) : 1 ≤ (put n).length := by unfold put; rw [leb]; split <;> simp
/-- a piece as the program (a = 131073, b = 65536) and the document (both 4294967295) read it: the piece, how far, the error -/
def rdp (a b : Int) (S : ByteArray) (q : Nat) : Pc × Nat × Int :=
  if (Rd.num S q 0 a).1 % 2 = 1 then
    ((true, (Rd.num S (Rd.num S q 0 a).2.1 (Rd.num S q 0 a).2.2 b).1, (Rd.num S q 0 a).1 / 2, ⟨#[]⟩), (Rd.num S (Rd.num S q 0 a).2.1 (Rd.num S q 0 a).2.2 b).2.1, (Rd.num S (Rd.num S q 0 a).2.1 (Rd.num S q 0 a).2.2 b).2.2)
  else
    ((false, 0, (Rd.num S q 0 a).1 / 2, (Rd.fix S (Rd.num S q 0 a).2.1 (Rd.num S q 0 a).2.2 ((Rd.num S q 0 a).1 / 2)).1), (Rd.fix S (Rd.num S q 0 a).2.1 (Rd.num S q 0 a).2.2 ((Rd.num S q 0 a).1 / 2)).2.1, (Rd.fix S (Rd.num S q 0 a).2.1 (Rd.num S q 0 a).2.2 ((Rd.num S q 0 a).1 / 2)).2.2)
theorem rdp_le (a b : Int) (S : ByteArray) (q : Nat) (hq : q ≤ S.size) : (rdp a b S q).2.1 ≤ S.size := by
  have h1 := Rd.num_le S q 0 a hq
  unfold rdp
  split
  · exact Rd.num_le _ _ _ _ h1
  · exact Rd.fix_le _ _ _ _ h1
theorem empty_of_size (o : ByteArray) (h : o.size = 0) : o = ⟨#[]⟩ := by
  apply list_ext
  have : o.data.toList.length = 0 := by simpa using h
  exact List.eq_nil_of_length_eq_zero this
theorem rdp_is (a b : Int) (ha : 131073 ≤ a) (hb : 65536 ≤ b) (S : ByteArray) (q : Nat) (p : Pc) (t : List UInt8) (hq : q ≤ S.size) (hp : okP p = true) (h : S.data.toList.drop q = putP p ++ t) : rdp a b S q = (p, q + (putP p).length, 0) := by
  obtain ⟨o1, o2, o3, o4⟩ := okP_bd hp
  obtain ⟨pc, pa, pn, po⟩ := p
  dsimp only at o1 o2 o3 o4
  cases pc with
  | true =>
    obtain ⟨o5, o6, o7⟩ := o3 rfl
    obtain rfl := empty_of_size po o7
    unfold putP at h ⊢
    rw [if_pos rfl] at h ⊢
    dsimp only at h ⊢
    rw [List.append_assoc] at h
    have e1 := num_is S q (2 * pn + 1).toNat a _ h (by omega) (by omega)
    have h2 : S.data.toList.drop (q + (put (2 * pn + 1).toNat).length) = put pa.toNat ++ t := by rw [← List.drop_drop, h, List.drop_left]
    have e2 := num_is S _ pa.toNat b _ h2 (by omega) (by omega)
    unfold rdp
    rw [e1]
    dsimp only
    rw [e2, if_pos (by omega), List.length_append]
    dsimp only
    rw [show ((pa.toNat : Nat) : Int) = pa by omega, show (((2 * pn + 1).toNat : Nat) : Int) / 2 = pn by omega, Nat.add_assoc]
  | false =>
    obtain ⟨rfl, o5⟩ := o4 rfl
    unfold putP at h ⊢
    rw [if_neg (by simp)] at h ⊢
    dsimp only at h ⊢
    rw [List.append_assoc] at h
    have e1 := num_is S q (2 * pn).toNat a _ h (by omega) (by omega)
    have h2 : S.data.toList.drop (q + (put (2 * pn).toNat).length) = po.data.toList ++ t := by rw [← List.drop_drop, h, List.drop_left]
    have hl : q + (put (2 * pn).toNat).length ≤ S.size := by
      have := congrArg List.length h
      simp only [List.length_drop, List.length_append, ba_len] at this
      omega
    have e2 := fix_is S _ po t hl h2
    rw [← o5] at e2
    unfold rdp
    rw [e1]
    dsimp only
    rw [show (((2 * pn).toNat : Nat) : Int) / 2 = pn by omega, e2, if_neg (by omega), List.length_append, ba_len]
    dsimp only
    rw [Nat.add_assoc]
theorem rdp_of (a b : Int) (S : ByteArray) (q : Nat) (p : Pc) (q' : Nat) (hq : q ≤ S.size) (h : rdp a b S q = (p, q', 0)) : S.data.toList.drop q = putP p ++ S.data.toList.drop q' ∧ q' = q + (putP p).length := by
  obtain ⟨v, q1, e1, hR⟩ : ∃ v q1 e1, Rd.num S q 0 a = (v, q1, e1) := ⟨_, _, _, rfl⟩
  have hq1 := Rd.num_le S q 0 a hq
  unfold rdp at h
  rw [hR] at h hq1
  dsimp only at h hq1
  by_cases hv : v % 2 = 1
  · rw [if_pos hv] at h
    simp only [Prod.mk.injEq] at h
    obtain ⟨rfl, h2, h3⟩ := h
    obtain ⟨w, q2, e2, hR2⟩ : ∃ w q2 e2, Rd.num S q1 e1 b = (w, q2, e2) := ⟨_, _, _, rfl⟩
    rw [hR2] at h2 h3
    dsimp only at h2 h3
    subst h2 h3
    obtain ⟨rfl, m2, k2, k3, k4, _⟩ := num_of S q1 e1 b w q2 hR2
    obtain ⟨_, m1, g2, g3, g4, _⟩ := num_of S q 0 a v q1 hR
    unfold putP
    rw [if_pos rfl, hR2]
    dsimp only
    rw [show (2 * (v / 2) + 1).toNat = m1 by omega, show w.toNat = m2 by omega, g4, k4, List.length_append, List.append_assoc]
    exact ⟨rfl, by omega⟩
  · rw [if_neg hv] at h
    simp only [Prod.mk.injEq] at h
    obtain ⟨rfl, h2, h3⟩ := h
    obtain ⟨w, q2, e2, hR2⟩ : ∃ w q2 e2, Rd.fix S q1 e1 (v / 2) = (w, q2, e2) := ⟨_, _, _, rfl⟩
    rw [hR2] at h2 h3
    dsimp only at h2 h3
    subst h2 h3
    obtain ⟨rfl, k2, k3, k4⟩ := fix_of S q1 e1 (v / 2) w q2 hq1 hR2
    obtain ⟨_, m1, g2, g3, g4, _⟩ := num_of S q 0 a v q1 hR
    unfold putP
    rw [if_neg (by simp), hR2]
    dsimp only
    rw [show (2 * (v / 2)).toNat = m1 by omega, g4, k4, List.length_append, List.append_assoc, ba_len]
    exact ⟨rfl, by omega⟩
theorem putP_one {p p' : Pc} {t t' : List UInt8} (h : okP p = true) (h' : okP p' = true) (e : putP p ++ t = putP p' ++ t') : p = p' ∧ t = t' := by
  have e1 := rdp_is 131073 65536 (by omega) (by omega) ⟨(putP p ++ t).toArray⟩ 0 p t (Nat.zero_le _) h (by simp)
  have e2 := rdp_is 131073 65536 (by omega) (by omega) ⟨(putP p ++ t).toArray⟩ 0 p' t' (Nat.zero_le _) h' (by simp [e])
  rw [e1] at e2
  obtain rfl : p = p' := congrArg (·.1) e2
  exact ⟨rfl, List.append_cancel_left e⟩
theorem putLs_cons (p : Pc) (l : List Pc) : putLs (p :: l) = putP p ++ putLs l := by unfold putLs; simp
theorem putLs_ext : ∀ (l m : List Pc) (t : List UInt8), l.all okP = true → m.all okP = true → putLs m = putLs l ++ t → ∃ r, m = l ++ r ∧ putLs r = t
  | [], m, t, _, _, h => ⟨m, rfl, by simpa [putLs] using h⟩
  | p :: l, [], t, h, _, e => by
    rw [putLs_cons] at e
    have : 1 ≤ (putP p).length := by unfold putP; split <;> (rw [List.length_append]; have := put_pos1 (2 * p.2.2.1 + 1).toNat; have := put_pos1 (2 * p.2.2.1).toNat; omega)
    have e2 := congrArg List.length e
    rw [List.length_append, List.length_append] at e2
    simp [putLs] at e2
    omega
  | p :: l, p' :: m, t, h, h', e => by
    simp only [List.all_cons, Bool.and_eq_true] at h h'
    rw [putLs_cons, putLs_cons, List.append_assoc] at e
    obtain ⟨rfl, e2⟩ := putP_one h'.1 h.1 e
    obtain ⟨r, rfl, hr⟩ := putLs_ext l m t h.2 h'.2 e2
    exact ⟨r, rfl, hr⟩
theorem putP_pos (p : Pc) : 1 ≤ (putP p).length := by unfold putP; split <;> (rw [List.length_append]; have := put_pos1 (2 * p.2.2.1 + 1).toNat; have := put_pos1 (2 * p.2.2.1).toNat; omega)
/-- do pieces have these bytes? -/
def IsD (S : ByteArray) (l : List Pc) : Prop := l.all okP = true ∧ putLs l = S.data.toList
theorem IsD.one {S : ByteArray} {l m : List Pc} (h : IsD S l) (k : IsD S m) : l = m := by
  obtain ⟨r, hr, e⟩ := putLs_ext l m [] h.1 k.1 (by rw [List.append_nil, h.2, k.2])
  cases r with
  | nil => simpa using hr.symm
  | cons p r =>
    rw [putLs_cons] at e
    have h0 := congrArg List.length e
    have h1 := putP_pos p
    simp only [List.length_append, List.length_nil] at h0
    omega
/-- what was read so far -/
def Rds (S : ByteArray) (q : Nat) (l : List Pc) : Prop := q ≤ S.size ∧ l.all okP = true ∧ S.data.toList = putLs l ++ S.data.toList.drop q ∧ l.length ≤ q
theorem Rds.nil (S : ByteArray) : Rds S 0 [] := ⟨Nat.zero_le _, rfl, by simp [putLs], by simp⟩
theorem Rds.step {a b : Int} {S : ByteArray} {q : Nat} {l : List Pc} {p : Pc} {q' : Nat} (h : Rds S q l) (hr : rdp a b S q = (p, q', 0)) (hp : okP p = true) : Rds S q' (l ++ [p]) ∧ q < q' := by
  obtain ⟨h1, h2, h3, h4⟩ := h
  obtain ⟨k1, k2⟩ := rdp_of a b S q p q' h1 hr
  have hpos := putP_pos p
  have hle := rdp_le a b S q h1
  rw [hr] at hle
  refine ⟨⟨hle, by simp [h2, hp], ?_, by simp; omega⟩, by omega⟩
  rw [putLs_snoc, List.append_assoc, ← k1]
  exact h3
theorem Rds.done {S : ByteArray} {q : Nat} {l : List Pc} (h : Rds S q l) (hq : ¬ q < S.size) : IsD S l :=
  ⟨h.2.1, by rw [h.2.2.1.trans (by rw [List.drop_eq_nil_of_le (by rw [ba_len]; omega), List.append_nil])]⟩
theorem Rds.stuck {a b : Int} (ha : 131073 ≤ a) (hb : 65536 ≤ b) {S : ByteArray} {q : Nat} {l : List Pc} {p : Pc} {q' : Nat} {e : Int} (h : Rds S q l) (hq : q < S.size) (hr : rdp a b S q = (p, q', e)) (hno : e ≠ 0 ∨ okP p = false) : ∀ m, ¬ IsD S m := by
  intro m ⟨hm1, hm2⟩
  obtain ⟨r, rfl, hr2⟩ := putLs_ext l m _ h.2.1 hm1 (hm2.trans h.2.2.1)
  cases r with
  | nil =>
    have := congrArg List.length hr2
    simp [putLs] at this
    omega
  | cons p2 r =>
    rw [putLs_cons] at hr2
    simp only [List.all_append, List.all_cons, Bool.and_eq_true] at hm1
    have := rdp_is a b ha hb S q p2 (putLs r) (by omega) hm1.2.1 hr2.symm
    rw [hr] at this
    simp only [Prod.mk.injEq] at this
    obtain ⟨rfl, _, rfl⟩ := this
    rcases hno with h1 | h1
    · exact h1 rfl
    · rw [hm1.2.1] at h1; cases h1
end Go.Proofs.Ythndcgaelcilnaa
