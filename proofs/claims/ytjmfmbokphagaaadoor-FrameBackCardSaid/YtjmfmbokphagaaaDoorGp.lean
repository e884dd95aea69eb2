/- Plain facts on frames: a text's frame, why there is none, what is read of bytes. No program stands here but for the words of the layers below. -/
import Derived.Test.YtjmfmbokphagaaaDoorSp
import Derived.Test.YtjmfmbokphagaaaDoorCo
import Derived.Test.YtjmfmbokphagaaaDoorT
namespace Go.Proofs.YtjmfmbokphagaaaDoor
open Go.RowKit Vi Cm

/-- a text's frame -/
def frm (s : ByteArray) : ByteArray := ⟨(put (s.size + 4)).toArray⟩ ++ (s ++ ⟨(tl (on 0 s.data.toList)).toArray⟩)
/-- why a text may not be framed -/
def wrg (s : ByteArray) : Int := if s.size = 0 then 2 else if 65536 < s.size then 5 else 0
theorem wrg_empty (s : ByteArray) (h : s.size = 0) : wrg s = 2 := by unfold wrg; rw [if_pos h]
theorem wrg_long (s : ByteArray) (h : 65536 < s.size) : wrg s = 5 := by unfold wrg; rw [if_neg (by omega), if_pos h]
theorem wrg_ok (s : ByteArray) (h1 : s.size ≠ 0) (h2 : s.size ≤ 65536) : wrg s = 0 := by unfold wrg; rw [if_neg h1, if_neg (by omega)]
theorem frm_size (s : ByteArray) : (frm s).size = (put (s.size + 4)).length + (s.size + 4) := by
  unfold frm
  rw [ByteArray.size_append, ByteArray.size_append]
  rfl
theorem put_pos (n : Nat) : 0 < (put n).length := by
  unfold put
  rw [leb]
  split <;> simp
/-- the first reason -/
def rowE : List ByteArray → Int
  | [] => 0
  | s :: r => if wrg s ≠ 0 then wrg s else rowE r
def catF (ss : List ByteArray) : List UInt8 := ss.flatMap fun s => (frm s).data.toList
def rowT (ss : List ByteArray) : ByteArray := if rowE ss = 0 then ⟨(catF ss).toArray⟩ else ⟨#[]⟩
theorem rowE_app : ∀ (a b : List ByteArray), rowE a = 0 → rowE (a ++ b) = rowE b
  | [], _, _ => rfl
  | s :: a, b, h => by
    unfold rowE at h
    split at h
    · rename_i hs; exact absurd h hs
    · rename_i hs
      show (if wrg s ≠ 0 then wrg s else rowE (a ++ b)) = _
      rw [if_neg hs]
      exact rowE_app a b h
theorem rowE_take (ss : List ByteArray) (k : Nat) (hk : k < ss.length) (h : rowE (ss.take k) = 0) (hw : wrg ss[k] = 0) : rowE (ss.take (k + 1)) = 0 := by
  rw [List.take_succ_eq_append_getElem hk, rowE_app _ _ h]
  unfold rowE
  rw [if_neg (by simp [hw])]
  rfl
theorem rowE_stop (ss : List ByteArray) (k : Nat) (hk : k < ss.length) (h : rowE (ss.take k) = 0) (hw : wrg ss[k] ≠ 0) : rowE ss = wrg ss[k] := by
  have e : ss = ss.take k ++ ss[k] :: ss.drop (k + 1) := by
    rw [List.getElem_cons_drop hk, List.take_append_drop]
  have h2 := rowE_app (ss.take k) (ss[k] :: ss.drop (k + 1)) h
  rw [← e] at h2
  rw [h2]
  unfold rowE
  rw [if_pos hw]
theorem catF_take (ss : List ByteArray) (k : Nat) (h : k < ss.length) : catF (ss.take (k + 1)) = catF (ss.take k) ++ (frm ss[k]).data.toList := by
  unfold catF
  rw [List.take_succ_eq_append_getElem h, List.flatMap_append, List.flatMap_cons, List.flatMap_nil, List.append_nil]
theorem frm_le (s : ByteArray) : (frm s).size ≤ s.size + 14 := by
  rw [frm_size]
  have := put_len (s.size + 4)
  omega
theorem catF_len (ss : List ByteArray) : (catF ss).length ≤ (catS ss).length + 14 * ss.length := by
  induction ss with
  | nil => simp [catF, catS]
  | cons s r ih =>
    have h := frm_le s
    have h1 : (catF (s :: r)).length = (frm s).size + (catF r).length := by simp [catF]
    have h2 : (catS (s :: r)).length = s.size + (catS r).length := by simp [catS]
    rw [h1, h2, List.length_cons]
    omega
theorem catS_take_len (ss : List ByteArray) (k : Nat) : (catS (ss.take k)).length ≤ (catS ss).length := by
  have e : catS ss = catS (ss.take k) ++ catS (ss.drop k) := by
    unfold catS
    rw [← List.flatMap_append, List.take_append_drop]
  rw [e, List.length_append]
  omega
theorem catS_one_le (ss : List ByteArray) (k : Nat) (h : k < ss.length) : ss[k].size ≤ (catS ss).length := by
  have := catS_le ss k h
  omega

/-- what a frame's reading gives: the text, how far, the error -/
def fr (S : ByteArray) (q : Nat) (er : Int) : ByteArray × Nat × Int :=
  if sealed (Rd.text S q er 65540).1 = true ∧ 4 < (Rd.text S q er 65540).1.size then ((Rd.text S q er 65540).1.extract 0 ((Rd.text S q er 65540).1.size - 4), (Rd.text S q er 65540).2.1, (Rd.text S q er 65540).2.2)
  else (⟨#[]⟩, (Rd.text S q er 65540).2.1, Rd.fail (Rd.text S q er 65540).2.2 3)
theorem fr_of (S : ByteArray) (q : Nat) (er : Int) (t : ByteArray) (q1 : Nat) (e1 : Int) (h : Rd.text S q er 65540 = (t, q1, e1)) : fr S q er = if sealed t = true ∧ 4 < t.size then (t.extract 0 (t.size - 4), q1, e1) else (⟨#[]⟩, q1, Rd.fail e1 3) := by
  unfold fr
  rw [h]
theorem rdtext_err (S : ByteArray) (q : Nat) (er n : Int) (t : ByteArray) (q1 : Nat) (e1 : Int) (h : Rd.text S q er n = (t, q1, e1)) (he : e1 ≠ 0) : t = ⟨#[]⟩ := by
  unfold Rd.text Rd.fix at h
  split at h
  · injection h with h1 h2; exact h1.symm
  · split at h
    · injection h with h1 h2; exact h1.symm
    · injection h with h1 h2; injection h2 with h3 h4; exact absurd h4.symm he
theorem fr_le (S : ByteArray) (q : Nat) (er : Int) (hq : q ≤ S.size) : (fr S q er).2.1 ≤ S.size := by
  have h := Rd.text_le S q er 65540 hq
  unfold fr
  split <;> exact h
end Go.Proofs.YtjmfmbokphagaaaDoor
