/- Plain facts on rows that are cut into chunks. No program stands here. -/
import Derived.WalkKit
namespace Go.Proofs.Ytnogddjhkdmahaa.Jm
open Go.RowKit

/-- does a chunk of n keys end with the next one? -/
def endB (h : ByteArray → Bool) (n : Nat) (s : ByteArray) : Bool := n == 7 || (decide (1 ≤ n) && h s)
/-- how many keys the open chunk has then -/
def nxt (h : ByteArray → Bool) (n : Nat) (s : ByteArray) : Nat := if endB h n s = true then 0 else n + 1
/-- the ends of what is left, behind i keys, n of them in the open chunk -/
def cutP (h : ByteArray → Bool) : Nat → Nat → List ByteArray → List Nat
  | _, _, [] => []
  | n, i, s :: t => if (endB h n s || t.isEmpty) = true then (i + 1) :: cutP h (nxt h n s) (i + 1) t else cutP h (nxt h n s) (i + 1) t
/-- how many keys the first chunk has, n of which were passed -/
def fst (h : ByteArray → Bool) : Nat → List ByteArray → Nat
  | n, [] => n
  | n, s :: t => if endB h n s = true then n + 1 else fst h (n + 1) t
theorem nxt_le (h : ByteArray → Bool) (n : Nat) (s : ByteArray) (hn : n ≤ 7) : nxt h n s ≤ 7 := by
  unfold nxt
  split
  · omega
  · rename_i he
    have : ¬ n = 7 := by
      rintro rfl
      simp [endB] at he
    omega
theorem fst_bd (h : ByteArray → Bool) : ∀ (l : List ByteArray) (n : Nat), n ≤ 7 → l ≠ [] → n < fst h n l ∧ fst h n l ≤ 8 ∧ fst h n l ≤ n + l.length ∧ (fst h n l < n + l.length → 2 ≤ fst h n l) := by
  intro l
  induction l with
  | nil => intro n _ hne; exact absurd rfl hne
  | cons s t ih =>
    intro n hn _
    unfold fst
    by_cases he : endB h n s = true
    · rw [if_pos he, List.length_cons]
      refine ⟨by omega, by omega, by omega, fun _ => ?_⟩
      unfold endB at he
      rw [Bool.or_eq_true, Bool.and_eq_true, decide_eq_true_iff, beq_iff_eq] at he
      omega
    · rw [if_neg he, List.length_cons]
      have hn7 : ¬ n = 7 := by
        rintro rfl
        simp [endB] at he
      cases t with
      | nil => simp only [fst, List.length_nil]; omega
      | cons s2 t2 =>
        have := ih (n + 1) (by omega) (by simp)
        rw [List.length_cons] at this ⊢
        omega
/-- the first end, and then the rest -/
theorem cut_first (h : ByteArray → Bool) : ∀ (l : List ByteArray) (n i : Nat), n ≤ 7 → l ≠ [] → cutP h n i l = (i + (fst h n l - n)) :: cutP h 0 (i + (fst h n l - n)) (l.drop (fst h n l - n)) := by
  intro l
  induction l with
  | nil => intro n i _ hne; exact absurd rfl hne
  | cons s t ih =>
    intro n i hn _
    unfold fst
    rw [cutP]
    by_cases he : endB h n s = true
    · rw [if_pos (by simp [he]), if_pos he, show n + 1 - n = 1 by omega]
      have : nxt h n s = 0 := by unfold nxt; rw [if_pos he]
      rw [this]
      rfl
    · have hn7 : ¬ n = 7 := by
        rintro rfl
        simp [endB] at he
      have hx : nxt h n s = n + 1 := by unfold nxt; rw [if_neg he]
      rw [if_neg he, hx]
      cases t with
      | nil =>
        rw [if_pos (by simp)]
        simp only [fst, cutP]
        rw [show n + 1 - n = 1 by omega]
        simp [cutP]
      | cons s2 t2 =>
        have hb := fst_bd h (s2 :: t2) (n + 1) (by omega) (by simp)
        rw [if_neg (by simp [he]), ih (n + 1) (i + 1) (by omega) (by simp)]
        generalize fst h (n + 1) (s2 :: t2) = f at hb ⊢
        rw [show i + 1 + (f - (n + 1)) = i + (f - n) by omega, show f - n = (f - (n + 1)) + 1 by omega, List.drop_succ_cons]
theorem cut_shift (h : ByteArray → Bool) : ∀ (l : List ByteArray) (n i j : Nat), cutP h n (i + j) l = (cutP h n i l).map (· + j) := by
  intro l
  induction l with
  | nil => intro n i j; rfl
  | cons s t ih =>
    intro n i j
    rw [cutP, cutP, show i + j + 1 = (i + 1) + j by omega, ih]
    split
    · rfl
    · rfl
/-- where a row is cut -/
def cuts (h : ByteArray → Bool) (ss : List ByteArray) : List Nat := cutP h 0 0 ss
/-- behind an end, this is left -/
structure At (h : ByteArray → Bool) (ss : List ByteArray) (was : Nat) (rest : List Nat) : Prop where
  le : was ≤ ss.length
  eq : rest = cutP h 0 was (ss.drop was)
theorem At.start (h : ByteArray → Bool) (ss : List ByteArray) : At h ss 0 (cuts h ss) := ⟨Nat.zero_le _, rfl⟩
theorem At.end {h : ByteArray → Bool} {ss : List ByteArray} {was : Nat} (k : At h ss was []) : was = ss.length := by
  have hl := k.le
  have he := k.eq
  rcases Nat.lt_or_ge was ss.length with g | g
  · have hne : ss.drop was ≠ [] := by
      intro e
      have := congrArg List.length e
      simp at this
      omega
    rw [cut_first h _ 0 was (by omega) hne] at he
    cases he
  · omega
theorem At.step {h : ByteArray → Bool} {ss : List ByteArray} {was e : Nat} {rest : List Nat} (k : At h ss was (e :: rest)) : At h ss e rest ∧ was < e ∧ e ≤ was + 8 ∧ e ≤ ss.length ∧ (rest ≠ [] → was + 2 ≤ e) ∧ e = was + fst h 0 (ss.drop was) := by
  have hl := k.le
  have he := k.eq
  have hne : ss.drop was ≠ [] := by
    intro e
    rw [e] at he
    cases he
  have hb := fst_bd h (ss.drop was) 0 (by omega) hne
  rw [cut_first h _ 0 was (by omega) hne, Nat.sub_zero, List.drop_drop] at he
  rw [List.length_drop] at hb
  generalize fst h 0 (ss.drop was) = f at he hb ⊢
  injection he with h1 h2
  subst h1
  refine ⟨⟨by omega, h2⟩, by omega, by omega, by omega, fun hr => ?_, rfl⟩
  have : was + f < ss.length := by
    rcases Nat.lt_or_ge (was + f) ss.length with g | g
    · exact g
    · rw [List.drop_of_length_le g] at h2
      exact absurd h2 hr
  omega
theorem At.none {h : ByteArray → Bool} {ss : List ByteArray} {rest : List Nat} (k : At h ss ss.length rest) : rest = [] := by
  have := k.eq
  rwa [List.drop_of_length_le (Nat.le_refl _)] at this
/-- behind the end at place k -/
theorem at_end (h : ByteArray → Bool) (ss : List ByteArray) : ∀ (k : Nat) (hk : k < (cuts h ss).length), At h ss ((cuts h ss)[k]) ((cuts h ss).drop (k + 1)) := by
  intro k
  induction k with
  | zero =>
    intro hk
    have e : (cuts h ss)[0] :: (cuts h ss).drop 1 = cuts h ss := List.getElem_cons_drop hk
    have k2 : At h ss 0 ((cuts h ss)[0] :: (cuts h ss).drop 1) := ⟨Nat.zero_le _, e⟩
    exact k2.step.1
  | succ k ih =>
    intro hk
    have := ih (by omega)
    rw [← List.getElem_cons_drop hk] at this
    exact this.step.1
theorem cuts_rest (h : ByteArray → Bool) (ss : List ByteArray) (k : Nat) (hk : k < (cuts h ss).length) : (cuts h (ss.drop (cuts h ss)[k])).map (· + (cuts h ss)[k]) = (cuts h ss).drop (k + 1) := by
  rw [(at_end h ss k hk).eq]
  unfold cuts
  rw [← cut_shift, Nat.zero_add]
theorem cuts_last (h : ByteArray → Bool) (ss : List ByteArray) (hp : ss ≠ []) : ∃ l, cuts h ss = l ++ [ss.length] := by
  have key : ∀ (rest : List Nat) (was : Nat), At h ss was rest → rest ≠ [] → ∃ l, rest = l ++ [ss.length] := by
    intro rest
    induction rest with
    | nil => intro was _ hn; exact absurd rfl hn
    | cons e rest ih =>
      intro was hA _
      have hs := hA.step.1
      cases rest with
      | nil => exact ⟨[], by rw [hs.end]; rfl⟩
      | cons e2 rest =>
        obtain ⟨l, hl⟩ := ih e hs (by simp)
        exact ⟨e :: l, by rw [hl]; rfl⟩
  refine key _ 0 (At.start h ss) ?_
  intro e
  have := (At.start h ss)
  rw [e] at this
  have h2 := this.end
  exact hp (List.eq_nil_of_length_eq_zero h2.symm)
theorem cut_len (h : ByteArray → Bool) : ∀ (l : List ByteArray) (n i : Nat), (cutP h n i l).length ≤ l.length := by
  intro l
  induction l with
  | nil => intro n i; simp [cutP]
  | cons s t ih =>
    intro n i
    rw [cutP, List.length_cons]
    have := ih (nxt h n s) (i + 1)
    split
    · rw [List.length_cons]; omega
    · omega
theorem cut_le (h : ByteArray → Bool) : ∀ (l : List ByteArray) (n i : Nat), ∀ x ∈ cutP h n i l, x ≤ i + l.length := by
  intro l
  induction l with
  | nil => intro n i x hx; simp [cutP] at hx
  | cons s t ih =>
    intro n i x hx
    rw [cutP] at hx
    rw [List.length_cons]
    split at hx
    · rcases List.mem_cons.1 hx with rfl | hx
      · omega
      · have := ih _ _ x hx; omega
    · have := ih _ _ x hx; omega
/-- how many keys each chunk has -/
def sizes : Nat → List Nat → List Int
  | _, [] => []
  | was, e :: l => ((e : Int) - (was : Int)) :: sizes e l
theorem sizes_len : ∀ (l : List Nat) (was : Nat), (sizes was l).length = l.length := by
  intro l
  induction l with
  | nil => intro was; rfl
  | cons e l ih => intro was; simp [sizes, ih]
end Go.Proofs.Ytnogddjhkdmahaa.Jm
