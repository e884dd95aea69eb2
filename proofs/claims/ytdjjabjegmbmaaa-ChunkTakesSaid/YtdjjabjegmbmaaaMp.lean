/- Plain facts on the bytes of chunks: what is read where a chunk stands. No condition. -/
import Derived.Test.YtdjjabjegmbmaaaMc
namespace Go.Proofs.Ytdjjabjegmbmaaa
open Go.RowKit Vi Zp

def IsC (S : ByteArray) (lv : Int) (es : List En) (cs : List Int) : Prop := chW lv es cs = 0 ∧ putC lv es cs = S.data.toList
def putR (lv : Int) : List En → List Int → List UInt8
  | [], _ => []
  | e :: r, cs => putE lv e (cs.headD 0) ++ putR lv r cs.tail
theorem headD_drop : ∀ (cs : List Int) (k : Nat), (cs.drop k).headD 0 = cs.getD k 0
  | [], k => by simp
  | c :: r, 0 => by simp
  | c :: r, k + 1 => by
    have := headD_drop r k
    rw [List.drop_succ_cons, this]
    simp
theorem putR_at (lv : Int) (es : List En) (cs : List Int) (k : Nat) (h : k < es.length) : putR lv (es.drop k) (cs.drop k) = putE lv es[k] (cs.getD k 0) ++ putR lv (es.drop (k + 1)) (cs.drop (k + 1)) := by
  rw [List.drop_eq_getElem_cons h]
  show putE lv es[k] ((cs.drop k).headD 0) ++ putR lv (es.drop (k + 1)) (cs.drop k).tail = _
  rw [headD_drop, List.tail_drop]
theorem putK_R (lv : Int) (es : List En) (cs : List Int) : ∀ (m k : Nat), es.length - k = m → k ≤ es.length → putK lv es cs es.length = putK lv es cs k ++ putR lv (es.drop k) (cs.drop k) := by
  intro m
  induction m with
  | zero =>
    intro k h1 h2
    have : k = es.length := by omega
    subst this
    rw [List.drop_length]
    simp [putR]
  | succ m ih =>
    intro k h1 h2
    rw [ih (k + 1) (by omega) (by omega), putR_at lv es cs k (by omega)]
    show (putK lv es cs k ++ putE lv (es.getD k (⟨#[]⟩, ⟨#[]⟩)) (cs.getD k 0)) ++ _ = _
    rw [getD_mem es k _ (by omega), List.append_assoc]
/-- what has been read so far is the front of whatever chunk the text is -/
def GG (S : ByteArray) (q : Nat) (er lv n : Int) (es : List En) (cs : List Int) (k : Nat) : Prop :=
  ∀ lv0 es0 cs0, IsC S lv0 es0 cs0 → er = 0 ∧ lv = lv0 ∧ n = (es0.length : Int) ∧ es = es0.take k ∧ cs = cs0.take k ∧ S.data.toList.drop q = putR lv0 (es0.drop k) (cs0.drop k)
theorem IsC.front {S : ByteArray} {lv : Int} {es : List En} {cs : List Int} (h : IsC S lv es cs) : S.data.toList = (if lv = 0 then [76] else 73 :: put lv.toNat) ++ (put es.length ++ putR lv es cs) := by
  rw [← h.2]
  unfold putC headC
  rw [putK_R lv es cs es.length 0 (by omega) (by omega), List.append_assoc]
  rfl
theorem IsC.facts {S : ByteArray} {lv : Int} {es : List En} {cs : List Int} (h : IsC S lv es cs) : 0 ≤ lv ∧ lv ≤ 40 ∧ es.length ≤ 8 ∧ (lv = 0 → cs = []) ∧ (lv ≠ 0 → es ≠ [] ∧ cs.length = es.length ∧ ∀ n ∈ cs, 1 ≤ n ∧ n ≤ 2147483648) := fitB_yes (chW_zero h.1).1
theorem one_len (c : UInt8) : (⟨#[c]⟩ : ByteArray).size = 1 := rfl
theorem ne_LI : (⟨#[76]⟩ : ByteArray) ≠ ⟨#[73]⟩ := fun e => by
  have := congrArg (fun b : ByteArray => b.data.toList) e
  simp at this
theorem num_max (S : ByteArray) (q : Nat) (er m : Int) (hm : 0 ≤ m) : 0 ≤ (Rd.num S q er m).1 ∧ (Rd.num S q er m).1 ≤ m := by
  unfold Rd.num
  split
  · exact ⟨Int.le_refl _, hm⟩
  · split
    · exact ⟨Int.le_refl _, hm⟩
    · split
      · exact ⟨Int.le_refl _, hm⟩
      · dsimp only; omega
theorem GG.start_two {S : ByteArray} {q1 q2 q3 : Nat} {e1 e2 e3 v n : Int} {lv0 : Int} {es0 : List En} {cs0 : List Int} (hc : IsC S lv0 es0 cs0) (h0 : lv0 ≠ 0) (hq : q1 = 1) (he : e1 = 0) (h2 : Rd.num S q1 e1 40 = (v, q2, e2)) (h3 : Rd.num S q2 e2 8 = (n, q3, e3)) :
    e3 = 0 ∧ v = lv0 ∧ n = (es0.length : Int) ∧ S.data.toList.drop q3 = putR lv0 es0 cs0 := by
  subst hq he
  obtain ⟨f1, f2, f3, _, _⟩ := hc.facts
  have hf := hc.front
  rw [if_neg h0] at hf
  have hd : S.data.toList.drop 1 = put lv0.toNat ++ (put es0.length ++ putR lv0 es0 cs0) := by rw [hf]; rfl
  rw [num_is S 1 lv0.toNat 40 _ hd (by omega) (by omega)] at h2
  simp only [Prod.mk.injEq] at h2
  obtain ⟨rfl, rfl, rfl⟩ := h2
  have hd2 : S.data.toList.drop (1 + (put lv0.toNat).length) = put es0.length ++ putR lv0 es0 cs0 := by rw [← List.drop_drop, hd, List.drop_left]
  rw [num_is S _ es0.length 8 _ hd2 (by omega) (by omega)] at h3
  simp only [Prod.mk.injEq] at h3
  obtain ⟨rfl, rfl, rfl⟩ := h3
  exact ⟨rfl, by omega, rfl, by rw [← List.drop_drop, hd2, List.drop_left]⟩
theorem GG.start_one {S : ByteArray} {q1 q2 : Nat} {e1 e2 n : Int} {es0 : List En} {cs0 : List Int} (hc : IsC S 0 es0 cs0) (hq : q1 = 1) (he : e1 = 0) (h2 : Rd.num S q1 e1 8 = (n, q2, e2)) :
    e2 = 0 ∧ n = (es0.length : Int) ∧ S.data.toList.drop q2 = putR 0 es0 cs0 := by
  subst hq he
  obtain ⟨f1, f2, f3, _, _⟩ := hc.facts
  have hf := hc.front
  rw [if_pos rfl] at hf
  have hd : S.data.toList.drop 1 = put es0.length ++ putR 0 es0 cs0 := by rw [hf]; rfl
  rw [num_is S 1 es0.length 8 _ hd (by omega) (by omega)] at h2
  simp only [Prod.mk.injEq] at h2
  obtain ⟨rfl, rfl, rfl⟩ := h2
  exact ⟨rfl, rfl, by rw [← List.drop_drop, hd, List.drop_left]⟩
theorem IsC.fix {S : ByteArray} {lv : Int} {es : List En} {cs : List Int} (h : IsC S lv es cs) : Rd.fix S 0 0 1 = ((if lv = 0 then ⟨#[76]⟩ else ⟨#[73]⟩), 1, 0) := by
  have hf := h.front
  split
  · next h0 =>
    rw [if_pos h0] at hf
    exact fix_is S 0 ⟨#[76]⟩ _ (Nat.zero_le _) (by rw [List.drop_zero, hf])
  · next h0 =>
    rw [if_neg h0] at hf
    exact fix_is S 0 ⟨#[73]⟩ (put lv.toNat ++ (put es.length ++ putR lv es cs)) (Nat.zero_le _) (by rw [List.drop_zero, hf]; rfl)
theorem IsC.byte {S : ByteArray} {lv : Int} {es : List En} {cs : List Int} (h : IsC S lv es cs) : Rd.byte S 0 0 = ((if lv = 0 then 76 else 73), 1, 0) := by
  have hf := h.front
  split
  · next h0 =>
    rw [if_pos h0] at hf
    exact byte_is S 0 76 _ (by rw [List.drop_zero, hf]; rfl)
  · next h0 =>
    rw [if_neg h0] at hf
    exact byte_is S 0 73 _ (by rw [List.drop_zero, hf]; rfl)
theorem GG.nil {S : ByteArray} {q : Nat} {er lv n : Int} (h : ∀ lv0 es0 cs0, IsC S lv0 es0 cs0 → er = 0 ∧ lv = lv0 ∧ n = (es0.length : Int) ∧ S.data.toList.drop q = putR lv0 es0 cs0) : GG S q er lv n [] [] 0 :=
  fun lv0 es0 cs0 hc => by
    obtain ⟨a, b, c, d⟩ := h lv0 es0 cs0 hc
    exact ⟨a, b, c, rfl, rfl, d⟩
theorem GG.over {S : ByteArray} {x : ByteArray} {q1 q2 q3 : Nat} {e1 e2 e3 v n : Int} (h1 : Rd.fix S 0 0 1 = (x, q1, e1)) (hx : x = ⟨#[73]⟩) (h2 : Rd.num S q1 e1 40 = (v, q2, e2)) (h3 : Rd.num S q2 e2 8 = (n, q3, e3)) : GG S q3 e3 v n [] [] 0 := by
  refine GG.nil fun lv0 es0 cs0 hc => ?_
  rw [hc.fix] at h1
  simp only [Prod.mk.injEq] at h1
  obtain ⟨rfl, rfl, rfl⟩ := h1
  by_cases h0 : lv0 = 0
  · rw [if_pos h0] at hx; exact absurd hx ne_LI
  · exact GG.start_two hc h0 rfl rfl h2 h3
theorem GG.leaf {S : ByteArray} {x : ByteArray} {q1 q2 : Nat} {e1 e2 n : Int} (h1 : Rd.fix S 0 0 1 = (x, q1, e1)) (hx : x ≠ ⟨#[73]⟩) (h2 : Rd.num S q1 e1 8 = (n, q2, e2)) : GG S q2 e2 0 n [] [] 0 := by
  refine GG.nil fun lv0 es0 cs0 hc => ?_
  rw [hc.fix] at h1
  simp only [Prod.mk.injEq] at h1
  obtain ⟨rfl, rfl, rfl⟩ := h1
  by_cases h0 : lv0 = 0
  · subst h0
    obtain ⟨a, b, c⟩ := GG.start_one hc rfl rfl h2
    exact ⟨a, rfl, b, c⟩
  · rw [if_neg h0] at hx; exact absurd rfl hx
theorem GG.overB {S : ByteArray} {x : Int} {q1 q2 q3 : Nat} {e1 e2 e3 v n : Int} (h1 : Rd.byte S 0 0 = (x, q1, e1)) (hx : x ≠ 76) (h2 : Rd.num S q1 e1 40 = (v, q2, e2)) (h3 : Rd.num S q2 e2 8 = (n, q3, e3)) : GG S q3 e3 v n [] [] 0 := by
  refine GG.nil fun lv0 es0 cs0 hc => ?_
  rw [hc.byte] at h1
  simp only [Prod.mk.injEq] at h1
  obtain ⟨rfl, rfl, rfl⟩ := h1
  by_cases h0 : lv0 = 0
  · rw [if_pos h0] at hx; exact absurd rfl hx
  · exact GG.start_two hc h0 rfl rfl h2 h3
theorem GG.leafB {S : ByteArray} {x : Int} {q1 q2 : Nat} {e1 e2 n : Int} (h1 : Rd.byte S 0 0 = (x, q1, e1)) (hx : x = 76) (h2 : Rd.num S q1 e1 8 = (n, q2, e2)) : GG S q2 e2 0 n [] [] 0 := by
  refine GG.nil fun lv0 es0 cs0 hc => ?_
  rw [hc.byte] at h1
  simp only [Prod.mk.injEq] at h1
  obtain ⟨rfl, rfl, rfl⟩ := h1
  by_cases h0 : lv0 = 0
  · subst h0
    obtain ⟨a, b, c⟩ := GG.start_one hc rfl rfl h2
    exact ⟨a, rfl, b, c⟩
  · rw [if_neg h0] at hx; exact absurd hx (by decide)
theorem take_snocE {α : Type} (l : List α) (k : Nat) (h : k < l.length) : l.take (k + 1) = l.take k ++ [l[k]] := List.take_succ_eq_append_getElem h
theorem GG.stepL {S : ByteArray} {q q1 q2 : Nat} {er e1 e2 lv n : Int} {es : List En} {cs : List Int} {k : Nat} {s v : ByteArray} (h : GG S q er lv n es cs k) (hlv : lv = 0) (hk : (k : Int) < n) (_hq : q ≤ S.size)
    (h1 : Rd.text S q er 64 = (s, q1, e1)) (h2 : Rd.text S q1 e1 2048 = (v, q2, e2)) : GG S q2 e2 lv n (es ++ [(s, v)]) cs (k + 1) := by
  intro lv0 es0 cs0 hc
  obtain ⟨rfl, rfl, rfl, rfl, rfl, hd⟩ := h lv0 es0 cs0 hc
  subst hlv
  have hkl : k < es0.length := by omega
  obtain ⟨_, _, _, f4, _⟩ := hc.facts
  obtain ⟨o1, o2, o3⟩ := okE_yes ((chW_zero hc.1).2 es0[k] (List.getElem_mem hkl))
  rw [putR_at 0 es0 cs0 k hkl] at hd
  unfold putE at hd
  rw [if_pos rfl] at hd
  have hd1 : S.data.toList.drop q = put es0[k].1.size ++ (es0[k].1.data.toList ++ ((put es0[k].2.size ++ es0[k].2.data.toList) ++ putR 0 (es0.drop (k + 1)) (cs0.drop (k + 1)))) := by rw [hd]; simp only [List.append_assoc]
  rw [text_is S q 64 es0[k].1 _ hd1 (by omega) (by omega)] at h1
  simp only [Prod.mk.injEq] at h1
  obtain ⟨rfl, rfl, rfl⟩ := h1
  have hd2 : S.data.toList.drop (q + (put es0[k].1.size).length + es0[k].1.size) = put es0[k].2.size ++ (es0[k].2.data.toList ++ putR 0 (es0.drop (k + 1)) (cs0.drop (k + 1))) := by
    rw [← List.drop_drop, ← List.drop_drop, hd1, List.drop_left, ← ba_len es0[k].1, List.drop_left, List.append_assoc]
  rw [text_is S _ 2048 es0[k].2 _ hd2 (by omega) (by omega)] at h2
  simp only [Prod.mk.injEq] at h2
  obtain ⟨rfl, rfl, rfl⟩ := h2
  refine ⟨rfl, rfl, rfl, (take_snocE es0 k hkl).symm, by rw [f4 rfl]; simp, ?_⟩
  rw [← List.drop_drop, ← List.drop_drop, hd2, List.drop_left, ← ba_len es0[k].2, List.drop_left]
theorem GG.stepI {S : ByteArray} {q q1 q2 q3 : Nat} {er e1 e2 e3 lv n c : Int} {es : List En} {cs : List Int} {k : Nat} {s v : ByteArray} (h : GG S q er lv n es cs k) (hlv : lv ≠ 0) (hk : (k : Int) < n) (hq : q ≤ S.size)
    (h1 : Rd.text S q er 64 = (s, q1, e1)) (h2 : Rd.fix S q1 e1 32 = (v, q2, e2)) (h3 : Rd.num S q2 e2 2147483648 = (c, q3, e3)) : GG S q3 e3 lv n (es ++ [(s, v)]) (cs ++ [c]) (k + 1) := by
  intro lv0 es0 cs0 hc
  obtain ⟨rfl, rfl, rfl, rfl, rfl, hd⟩ := h lv0 es0 cs0 hc
  have hkl : k < es0.length := by omega
  obtain ⟨f1, _, _, _, f5⟩ := hc.facts
  obtain ⟨_, f6, f7⟩ := f5 hlv
  have hkc : k < cs0.length := by omega
  obtain ⟨g1, g2⟩ := f7 cs0[k] (List.getElem_mem hkc)
  have hok := (chW_zero hc.1).2 es0[k] (List.getElem_mem hkl)
  obtain ⟨o1, o2, o3⟩ := okE_yes hok
  have o4 : es0[k].2.size = 32 := by
    unfold okE haveB at hok
    rw [Bool.and_eq_true, if_pos (show 0 < lv by omega)] at hok
    exact of_decide_eq_true hok.2
  rw [putR_at lv es0 cs0 k hkl, getD_mem cs0 k 0 hkc] at hd
  unfold putE at hd
  rw [if_neg hlv] at hd
  have hd1 : S.data.toList.drop q = put es0[k].1.size ++ (es0[k].1.data.toList ++ ((es0[k].2.data.toList ++ put cs0[k].toNat) ++ putR lv (es0.drop (k + 1)) (cs0.drop (k + 1)))) := by rw [hd]; simp only [List.append_assoc]
  rw [text_is S q 64 es0[k].1 _ hd1 (by omega) (by omega)] at h1
  simp only [Prod.mk.injEq] at h1
  obtain ⟨rfl, rfl, rfl⟩ := h1
  have hl := congrArg List.length hd1
  simp only [List.length_drop, List.length_append, ba_len] at hl
  have hd2 : S.data.toList.drop (q + (put es0[k].1.size).length + es0[k].1.size) = es0[k].2.data.toList ++ (put cs0[k].toNat ++ putR lv (es0.drop (k + 1)) (cs0.drop (k + 1))) := by
    rw [← List.drop_drop, ← List.drop_drop, hd1, List.drop_left, ← ba_len es0[k].1, List.drop_left, List.append_assoc]
  have hf := fix_is S _ es0[k].2 _ (by omega) hd2
  rw [o4] at hf
  rw [show (32 : Int) = ((32 : Nat) : Int) from rfl, hf] at h2
  simp only [Prod.mk.injEq] at h2
  obtain ⟨rfl, rfl, rfl⟩ := h2
  have hd3 : S.data.toList.drop (q + (put es0[k].1.size).length + es0[k].1.size + 32) = put cs0[k].toNat ++ putR lv (es0.drop (k + 1)) (cs0.drop (k + 1)) := by
    rw [← List.drop_drop, hd2, ← o4, ← ba_len es0[k].2, List.drop_left]
  rw [num_is S _ cs0[k].toNat 2147483648 _ hd3 (by omega) (by omega)] at h3
  simp only [Prod.mk.injEq] at h3
  obtain ⟨rfl, rfl, rfl⟩ := h3
  refine ⟨rfl, rfl, rfl, (take_snocE es0 k hkl).symm, ?_, ?_⟩
  · rw [take_snocE cs0 k hkc, show ((cs0[k].toNat : Nat) : Int) = cs0[k] by omega]
  · rw [← List.drop_drop, hd3, List.drop_left]
theorem GG.done {S : ByteArray} {q : Nat} {er lv n : Int} {es : List En} {cs : List Int} {k : Nat} (h : GG S q er lv n es cs k) (hk : ¬ (k : Int) < n) {lv0 : Int} {es0 : List En} {cs0 : List Int} (hc : IsC S lv0 es0 cs0) : er = 0 ∧ lv = lv0 ∧ es = es0 ∧ cs = cs0 := by
  obtain ⟨rfl, rfl, rfl, rfl, rfl, hd⟩ := h lv0 es0 cs0 hc
  obtain ⟨_, _, _, f4, f5⟩ := hc.facts
  refine ⟨rfl, rfl, List.take_of_length_le (by omega), List.take_of_length_le ?_⟩
  by_cases h0 : lv = 0
  · rw [f4 h0]; simp
  · have := (f5 h0).2.1; omega
end Go.Proofs.Ytdjjabjegmbmaaa
