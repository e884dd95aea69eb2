/- Plain facts: what is read of bytes at whose front numbers and texts stand, and what was read is what stands there; a sector and the text at its front. No program stands here but for the words of the layers below. -/
import Derived.Test.YtiflieaemgamkaaGreatDoorYc
import Derived.Test.YtiflieaemgamkaaGreatDoorSu
import Derived.Test.YtiflieaemgamkaaGreatDoorCo
import Derived.Lib.TrimByte
namespace Go.Proofs.YtiflieaemgamkaaGreatDoor
open Go.RowKit Vi Cm

theorem ba_ext {a b : ByteArray} (h : a.data.toList = b.data.toList) : a = b := by
  apply ByteArray.ext
  exact Array.toList_inj.1 h
theorem ba_len (a : ByteArray) : a.data.toList.length = a.size := by simp
theorem ba_app (a b : ByteArray) : (a ++ b).data.toList = a.data.toList ++ b.data.toList := by simp
theorem ba_from (s : ByteArray) (p : Nat) : (s.extract p s.size).data.toList = s.data.toList.drop p := by
  rw [ByteArray.data_extract, Array.toList_extract]
  simp only [List.extract]
  exact List.take_of_length_le (by simp)
theorem ba_upto (s : ByteArray) (n : Nat) : (s.extract 0 n).data.toList = s.data.toList.take n := by
  rw [ByteArray.data_extract, Array.toList_extract]
  simp [List.extract]
theorem gb_some {l : List UInt8} (h : gb l = true) : ∃ t, l = put (gn l) ++ t ∧ gk l = (put (gn l)).length ∧ gn l < 18446744073709551616 := by
  unfold gb at h
  cases hg : get l with
  | none => rw [hg] at h; cases h
  | some p =>
    obtain ⟨m, k⟩ := p
    have h1 := get_some hg
    unfold gn gk
    rw [hg]
    exact h1
theorem num_is (S : ByteArray) (q m : Nat) (n : Int) (t : List UInt8) (h : S.data.toList.drop q = put m ++ t) (hm : m < 18446744073709551616) (hn : (m : Int) ≤ n) : Rd.num S q 0 n = ((m : Int), q + (put m).length, 0) := by
  have hg := get_put m t hm
  have e1 : gn (put m ++ t) = m := by unfold gn; rw [hg]
  have e2 : gk (put m ++ t) = (put m).length := by unfold gk; rw [hg]
  have e3 : gb (put m ++ t) = true := by unfold gb; rw [hg]
  unfold Rd.num
  rw [h, e1, e2, e3, if_neg (by simp), if_neg (by simp), if_neg (by omega)]
theorem num_of (S : ByteArray) (q : Nat) (er n v : Int) (q' : Nat) (h : Rd.num S q er n = (v, q', 0)) :
    er = 0 ∧ ∃ m : Nat, v = m ∧ q' = q + (put m).length ∧ S.data.toList.drop q = put m ++ S.data.toList.drop q' ∧ (m : Int) ≤ n := by
  unfold Rd.num at h
  by_cases he : er = 0
  · subst he
    rw [if_neg (by simp)] at h
    by_cases hb : gb (S.data.toList.drop q) = true
    · rw [if_neg (by simp [hb])] at h
      by_cases hm : n < 0 ∨ n < gn (S.data.toList.drop q)
      · rw [if_pos hm] at h
        simp at h
      · rw [if_neg hm] at h
        simp only [Prod.mk.injEq, and_true] at h
        obtain ⟨h1, h2⟩ := h
        obtain ⟨t, ht, hk, _⟩ := gb_some hb
        refine ⟨rfl, gn (S.data.toList.drop q), h1.symm, by rw [← h2, hk], ?_, by omega⟩
        rw [← h2, ← List.drop_drop, hk]
        generalize gn (S.data.toList.drop q) = m at ht
        have e := congrArg (List.drop (put m).length) ht
        rw [List.drop_left] at e
        rw [e]
        exact ht
    · rw [if_pos (by simpa using hb)] at h
      simp at h
  · rw [if_pos he] at h
    simp only [Prod.mk.injEq] at h
    exact absurd h.2.2 he
theorem fix_is (S : ByteArray) (q : Nat) (x : ByteArray) (t : List UInt8) (hq : q ≤ S.size) (h : S.data.toList.drop q = x.data.toList ++ t) : Rd.fix S q 0 (x.size : Int) = (x, q + x.size, 0) := by
  have hl := congrArg List.length h
  simp only [List.length_drop, List.length_append, ba_len] at hl
  unfold Rd.fix
  rw [if_neg (by simp), if_neg (by omega)]
  have e : (S.extract q S.size).extract 0 (x.size : Int).toNat = x := by
    apply ba_ext
    rw [ba_upto, ba_from, h, show (x.size : Int).toNat = x.data.toList.length by rw [ba_len]; omega, List.take_left]
  rw [e]
  rfl
theorem fix_of (S : ByteArray) (q : Nat) (er n : Int) (x : ByteArray) (q' : Nat) (hq : q ≤ S.size) (h : Rd.fix S q er n = (x, q', 0)) :
    er = 0 ∧ n = (x.size : Int) ∧ q' = q + x.size ∧ S.data.toList.drop q = x.data.toList ++ S.data.toList.drop q' := by
  unfold Rd.fix at h
  by_cases he : er = 0
  · subst he
    rw [if_neg (by simp)] at h
    by_cases hn : n < 0 ∨ (S.size : Int) - q < n
    · rw [if_pos hn] at h
      simp at h
    · rw [if_neg hn] at h
      simp only [Prod.mk.injEq, and_true] at h
      obtain ⟨h1, h2⟩ := h
      have hx : x.size = n.toNat := by
        rw [← h1, ByteArray.size_extract, ByteArray.size_extract]
        omega
      refine ⟨rfl, by omega, by omega, ?_⟩
      rw [← h2, ← List.drop_drop, ← h1, ba_upto, ba_from, List.take_append_drop]
  · rw [if_pos he] at h
    simp only [Prod.mk.injEq] at h
    exact absurd h.2.2 he
theorem text_is (S : ByteArray) (q : Nat) (n : Int) (x : ByteArray) (t : List UInt8) (h : S.data.toList.drop q = put x.size ++ (x.data.toList ++ t)) (hx : x.size < 18446744073709551616) (hn : (x.size : Int) ≤ n) :
    Rd.text S q 0 n = (x, q + (put x.size).length + x.size, 0) := by
  have hl := congrArg List.length h
  simp only [List.length_drop, List.length_append, ba_len] at hl
  unfold Rd.text
  rw [num_is S q x.size n _ h hx hn]
  refine fix_is S (q + (put x.size).length) x t ?_ ?_
  · by_cases hq : q ≤ S.size
    · omega
    · have : 1 ≤ (put x.size).length := by unfold put; rw [leb]; split <;> simp
      omega
  · rw [← List.drop_drop, h, List.drop_left]
theorem text_of (S : ByteArray) (q : Nat) (er n : Int) (x : ByteArray) (q' : Nat) (hq : q ≤ S.size) (h : Rd.text S q er n = (x, q', 0)) :
    er = 0 ∧ (x.size : Int) ≤ n ∧ q' = q + (put x.size).length + x.size ∧ S.data.toList.drop q = put x.size ++ (x.data.toList ++ S.data.toList.drop q') := by
  unfold Rd.text at h
  obtain ⟨v, q1, e1, hR⟩ : ∃ v q1 e1, Rd.num S q er n = (v, q1, e1) := ⟨_, _, _, rfl⟩
  have hq1 := Rd.num_le S q er n hq
  rw [hR] at h hq1
  obtain ⟨h1, h2, h3, h4⟩ := fix_of S q1 e1 v x q' hq1 h
  subst h1
  obtain ⟨k1, m, k2, k3, k4, k5⟩ := num_of S q er n v q1 hR
  have hm : m = x.size := by omega
  subst hm
  exact ⟨k1, k5, by omega, by rw [k4, h4]⟩
theorem fin_of (S : ByteArray) (q : Nat) (er : Int) (h : Rd.fin S q er = 0) : er = 0 ∧ S.data.toList.drop q = [] := by
  unfold Rd.fin at h
  by_cases he : er = 0
  · refine ⟨he, ?_⟩
    rw [if_neg (by simpa using he)] at h
    by_cases hq : q < S.size
    · rw [if_pos hq] at h; exact absurd h (by decide)
    · exact List.drop_eq_nil_of_le (by rw [ba_len]; omega)
  · rw [if_pos he] at h; exact absurd h he
theorem fin_is (S : ByteArray) (q : Nat) (h : S.data.toList.drop q = []) : Rd.fin S q 0 = 0 := by
  have hl := congrArg List.length h
  simp only [List.length_drop, ba_len, List.length_nil] at hl
  unfold Rd.fin
  rw [if_neg (by simp), if_neg (by omega)]
theorem num_er (S : ByteArray) (q : Nat) (er n : Int) (he : er ≠ 0) : Rd.num S q er n = (0, q, er) := by unfold Rd.num; rw [if_pos he]

/-! ### a sector -/
/-- has a sector a text at its front, and noughts alone behind? -/
def bareB (S : ByteArray) : Bool := decide (S.size = 128) && decide ((Rd.text S 0 0 128).2.2 = 0) && (S.data.toList.drop (Rd.text S 0 0 128).2.1).all (fun c => c == 0)
def bareT (S : ByteArray) : ByteArray := (Rd.text S 0 0 128).1
theorem rep0 : ∀ k, Lib.repeatL [0] k = (List.replicate k 0 : List UInt8)
  | 0 => rfl
  | k + 1 => by rw [Lib.repeatL, rep0 k, List.replicate_succ]; rfl
theorem noughts_list (k : Nat) : (noughts k).data.toList = List.replicate k 0 := by
  show (Lib.repeatL [0] k).toArray.toList = _
  rw [List.toList_toArray, rep0]
theorem all0 (l : List UInt8) (h : l.all (fun c => c == 0) = true) : l = List.replicate l.length 0 := by
  rw [List.eq_replicate_iff]
  exact ⟨rfl, fun b hb => by simpa using List.all_eq_true.1 h b hb⟩
theorem ptx_list (t : ByteArray) : (ptxH t).data.toList = put t.size ++ t.data.toList := by
  unfold ptxH
  rw [ba_app]
theorem full_list (s : ByteArray) : (fullS s).data.toList = s.data.toList ++ List.replicate (128 - s.size) 0 := by
  unfold fullS
  rw [ba_app, noughts_list]
theorem bare_of (S : ByteArray) (h : bareB S = true) : S = fullS (ptxH (bareT S)) ∧ (bareT S).size ≤ 128 ∧ S.size = 128 := by
  unfold bareB at h
  simp only [Bool.and_eq_true, decide_eq_true_eq] at h
  obtain ⟨⟨h1, h2⟩, h3⟩ := h
  obtain ⟨t, q, e, hR⟩ : ∃ t q e, Rd.text S 0 0 128 = (t, q, e) := ⟨_, _, _, rfl⟩
  have ht : bareT S = t := by unfold bareT; rw [hR]
  rw [hR] at h2 h3
  dsimp only at h2 h3
  subst h2
  obtain ⟨_, k1, k2, k3⟩ := text_of S 0 0 128 t q (Nat.zero_le _) hR
  rw [List.drop_zero] at k3
  rw [ht]
  refine ⟨?_, by omega, h1⟩
  apply ba_ext
  have hl := congrArg List.length k3
  have hz := all0 _ h3
  simp only [List.length_append, List.length_drop, ba_len] at hl hz
  rw [full_list, ptx_list, List.append_assoc]
  have hp : (ptxH t).size = (put t.size).length + t.size := by
    rw [← ba_len, ptx_list, List.length_append, ba_len]
  rw [hp, k3, hz]
  congr 3
  omega
theorem bare_is (t : ByteArray) (h : (ptxH t).size ≤ 128) : bareB (fullS (ptxH t)) = true ∧ bareT (fullS (ptxH t)) = t := by
  have hp : (ptxH t).size = (put t.size).length + t.size := by
    rw [← ba_len, ptx_list, List.length_append, ba_len]
  have hd : (fullS (ptxH t)).data.toList.drop 0 = put t.size ++ (t.data.toList ++ List.replicate (128 - (ptxH t).size) 0) := by
    rw [List.drop_zero, full_list, ptx_list, List.append_assoc]
  have hR := text_is (fullS (ptxH t)) 0 128 t _ hd (by omega) (by omega)
  have hs : (fullS (ptxH t)).size = 128 := by
    rw [← ba_len, full_list, List.length_append, ba_len, List.length_replicate]
    omega
  have hq : 0 + (put t.size).length + t.size = (ptxH t).size := by omega
  refine ⟨?_, by unfold bareT; rw [hR]⟩
  unfold bareB
  rw [hR, hs]
  dsimp only
  rw [hq, full_list, ← ba_len (ptxH t), List.drop_left]
  simp
theorem tl_four (x : Nat) : (tl x).length = 4 := rfl
theorem seal_of (t : ByteArray) (h : sealed t = true) : t = sealH (t.extract 0 (t.size - 4)) := by
  unfold sealed at h
  simp only [Bool.and_eq_true, decide_eq_true_eq, beq_iff_eq] at h
  obtain ⟨h1, h2⟩ := h
  apply ba_ext
  unfold sealH
  rw [ba_app, ba_upto]
  show t.data.toList = _ ++ tl (on 0 (t.data.toList.take (t.size - 4)))
  rw [← h2, List.take_append_drop]
theorem seal_is (s : ByteArray) : sealed (sealH s) = true ∧ (sealH s).extract 0 ((sealH s).size - 4) = s := by
  have hz := sealH_size s
  have hl : (sealH s).data.toList = s.data.toList ++ tl (on 0 s.data.toList) := by unfold sealH; rw [ba_app]
  constructor
  · unfold sealed
    rw [hz, show s.size + 4 - 4 = s.data.toList.length by rw [ba_len]; omega, hl, List.drop_left, List.take_left]
    simp
  · apply ba_ext
    rw [ba_upto, hz, show s.size + 4 - 4 = s.data.toList.length by rw [ba_len]; omega, hl, List.take_left]
theorem opened_noY (t : ByteArray) (h : sealed t = false) : opened t = .tuple #[.string ⟨#[]⟩, .bool false] := by unfold opened; rw [h]; rfl
theorem opened_yesY (t : ByteArray) (h : sealed t = true) : opened t = .tuple #[.string (t.extract 0 (t.size - 4)), .bool true] := by unfold opened; rw [h]; rfl
theorem trim_nil (l : List UInt8) (h : l.all (fun c => c == 0) = true) : Lib.trimB l 0 = [] := by
  rw [all0 l h]
  unfold Lib.trimB Lib.trimRightB Lib.trimLeftB
  simp
theorem dw_nil : ∀ (l : List UInt8), l.dropWhile (fun c => c == 0) = [] → ∀ c ∈ l, c = 0
  | [], _ => by simp
  | a :: l, h => by
    rw [List.dropWhile_cons] at h
    by_cases ha : (a == 0) = true
    · rw [if_pos ha] at h
      intro c hc
      rcases List.mem_cons.1 hc with rfl | hc
      · simpa using ha
      · exact dw_nil l h c hc
    · rw [if_neg ha] at h
      cases h
theorem trim_not (l : List UInt8) (h : l.all (fun c => c == 0) = false) : Lib.trimB l 0 ≠ [] := by
  intro e
  unfold Lib.trimB Lib.trimRightB Lib.trimLeftB at e
  have h1 := dw_nil _ e
  have h2 : l.reverse.dropWhile (fun c => c == 0) = List.replicate (l.reverse.dropWhile (fun c => c == 0)).length 0 := by
    rw [List.eq_replicate_iff]
    exact ⟨rfl, fun b hb => h1 b (by simpa using hb)⟩
  have h3 : l.reverse.dropWhile (fun c => c == 0) = [] := by
    cases hd : l.reverse.dropWhile (fun c => c == 0) with
    | nil => rfl
    | cons a r =>
      have := List.head_dropWhile_not (fun c : UInt8 => c == 0) (l := l.reverse) (by rw [hd]; simp)
      simp only [hd, List.head_cons] at this
      have ha := h1 a (by rw [List.mem_reverse, hd]; simp)
      rw [ha] at this
      simp at this
  have : ∀ c ∈ l, c = 0 := fun c hc => dw_nil _ h3 c (by simpa using hc)
  rw [List.all_eq_true.2 (fun c hc => by simpa using this c hc)] at h
  cases h
end Go.Proofs.YtiflieaemgamkaaGreatDoor
