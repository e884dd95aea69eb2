/- Plain facts on sums that rise, their parts, and where one of them stands. No program stands here. -/
import Derived.Test.YtlkhgjgefhcicaaNp
namespace Go.Proofs.Ytlkhgjgefhcicaa
open Go.RowKit

/-- a sum's part -/
def prt (s : ByteArray) : Nat := (s.data.toList.getD 0 0).toNat / 16
theorem prt_lt (s : ByteArray) : prt s < 16 := by
  have h : (s.data.toList.getD 0 0).toNat < 256 := (s.data.toList.getD 0 0).toNat_lt
  unfold prt
  omega
/-- what is wrong with sums, behind one -/
def wR (p : ByteArray) : List ByteArray → Int
  | [] => 0
  | s :: t => if ¬ s.size = 32 then 2 else if leS s p = true then 4 else wR s t
theorem wR_bad (p s : ByteArray) (t : List ByteArray) (h : ¬ s.size = 32) : wR p (s :: t) = 2 := by simp only [wR]; rw [if_pos h]
theorem wR_ord (p s : ByteArray) (t : List ByteArray) (h : s.size = 32) (g : leS s p = true) : wR p (s :: t) = 4 := by
  simp only [wR]; rw [if_neg (by simpa using h), if_pos g]
theorem wR_go (p s : ByteArray) (t : List ByteArray) (h : s.size = 32) (g : leS s p = false) : wR p (s :: t) = wR s t := by
  simp only [wR]; rw [if_neg (by simpa using h), if_neg (by rw [g]; simp)]
theorem le_nil32 (s : ByteArray) (h : s.size = 32) : leS s ⟨#[]⟩ = false := by
  have hl : s.toList.length = s.size := by rw [ByteArray.toList_eq]; simp
  have e0 : (ByteArray.mk #[]).toList = [] := by rw [ByteArray.toList_eq]
  unfold leS
  rw [e0]
  cases hq : s.toList with
  | nil => rw [hq, h] at hl; simp at hl
  | cons c t => simp [Op.bytesLess]
theorem wR_first (s : ByteArray) (t : List ByteArray) (h : s.size = 32) : wR ⟨#[]⟩ (s :: t) = wR s t := wR_go _ _ _ h (le_nil32 s h)
theorem sum_ok : ∀ (ss : List ByteArray) (p : ByteArray), wR p ss = 0 → (∀ s ∈ ss, s.size = 32) ∧ Rise (p :: ss)
  | [], p, _ => ⟨by simp, by unfold Rise; simp⟩
  | s :: t, p, h => by
    by_cases hn : s.size = 32
    · cases hg : leS s p with
      | true => rw [wR_ord p s t hn hg] at h; cases h
      | false =>
        rw [wR_go p s t hn hg] at h
        obtain ⟨h1, h2⟩ := sum_ok t s h
        refine ⟨fun x hx => ?_, List.pairwise_cons.2 ⟨fun c hc => ?_, h2⟩⟩
        · rcases List.mem_cons.1 hx with rfl | hx
          · exact hn
          · exact h1 x hx
        · rcases List.mem_cons.1 hc with rfl | hc
          · exact le_no hg
          · exact bl_trans _ _ _ (le_no hg) ((List.pairwise_cons.1 h2).1 c hc)
    · rw [wR_bad p s t hn] at h; cases h
theorem sum0_ok (ss : List ByteArray) (h : wR ⟨#[]⟩ ss = 0) : (∀ s ∈ ss, s.size = 32) ∧ Rise ss := ⟨(sum_ok ss _ h).1, (List.pairwise_cons.1 (sum_ok ss _ h).2).2⟩

/-- how many stand in each part -/
def cnt (ss : List ByteArray) : List Nat := ss.foldl (fun c s => c.set (prt s) (c.getD (prt s) 0 + 1)) (List.replicate 16 0)
theorem cnt_take (ss : List ByteArray) (k : Nat) (h : k < ss.length) : cnt (ss.take (k + 1)) = (cnt (ss.take k)).set (prt ss[k]) ((cnt (ss.take k)).getD (prt ss[k]) 0 + 1) := by
  unfold cnt
  rw [List.take_succ_eq_append_getElem h, List.foldl_append]
  rfl
theorem cnt_len (ss : List ByteArray) : (cnt ss).length = 16 := by
  unfold cnt
  have : ∀ (l : List ByteArray) (c : List Nat), (l.foldl (fun c s => c.set (prt s) (c.getD (prt s) 0 + 1)) c).length = c.length := by
    intro l
    induction l with
    | nil => intro c; rfl
    | cons a l ih => intro c; rw [List.foldl_cons, ih, List.length_set]
  rw [this]
  simp
/-- how many stand up to a part -/
def upto (ss : List ByteArray) (j : Nat) : Nat := (ss.filter fun s => decide (prt s ≤ j)).length
def inPart (ss : List ByteArray) (j : Nat) : Nat := (ss.filter fun s => decide (prt s = j)).length
theorem cnt_at (ss : List ByteArray) : ∀ k, k ≤ ss.length → ∀ j, j < 16 → (cnt (ss.take k)).getD j 0 = inPart (ss.take k) j
  | 0, _, j, hj => by
    rw [List.take_zero]
    show (List.replicate 16 0).getD j 0 = 0
    rw [List.getD_eq_getElem?_getD, List.getElem?_replicate]
    split <;> rfl
  | k + 1, hk, j, hj => by
    have ih := cnt_at ss k (by omega)
    have hl := cnt_len (ss.take k)
    rw [cnt_take ss k (by omega)]
    unfold inPart
    rw [List.take_succ_eq_append_getElem (by omega), List.filter_append, List.length_append]
    by_cases e : prt ss[k] = j
    · subst e
      rw [List.getD_eq_getElem?_getD, List.getElem?_set_self (by rw [hl]; exact hj), ih _ hj]
      simp [inPart]
    · rw [List.getD_eq_getElem?_getD, List.getElem?_set_ne e, ← List.getD_eq_getElem?_getD, ih j hj]
      simp [inPart, e]
theorem cnt_all (ss : List ByteArray) (j : Nat) (hj : j < 16) : (cnt ss).getD j 0 = inPart ss j := by
  have := cnt_at ss ss.length (Nat.le_refl _) j hj
  rwa [List.take_length] at this
theorem inPart_le (ss : List ByteArray) (j : Nat) : inPart ss j ≤ ss.length := List.length_filter_le _ _
theorem upto_le (ss : List ByteArray) (j : Nat) : upto ss j ≤ ss.length := List.length_filter_le _ _
theorem upto_zero : ∀ ss : List ByteArray, upto ss 0 = inPart ss 0
  | [] => rfl
  | a :: t => by
    have ih := upto_zero t
    unfold upto inPart at ih ⊢
    simp only [List.filter_cons]
    by_cases h : prt a = 0
    · simp only [h, Nat.le_refl, decide_true, if_true, List.length_cons, ih]
    · have h2 : ¬ prt a ≤ 0 := by omega
      simp only [h, h2, decide_false, Bool.false_eq_true, if_false, ih]
theorem upto_succ (j : Nat) : ∀ ss : List ByteArray, upto ss (j + 1) = upto ss j + inPart ss (j + 1)
  | [] => rfl
  | a :: t => by
    have ih := upto_succ j t
    unfold upto inPart at ih ⊢
    simp only [List.filter_cons]
    by_cases h1 : prt a ≤ j
    · have h2 : prt a ≤ j + 1 := by omega
      have h3 : ¬ prt a = j + 1 := by omega
      simp only [h1, h2, h3, decide_true, decide_false, Bool.false_eq_true, if_true, if_false, List.length_cons, ih]
      omega
    · by_cases h3 : prt a = j + 1
      · have h2 : prt a ≤ j + 1 := by omega
        simp only [h3, Nat.le_refl, decide_true, if_true, List.length_cons]
        have h4 : ¬ (j + 1 ≤ j) := by omega
        simp only [h4, decide_false, Bool.false_eq_true, if_false]
        omega
      · have h2 : ¬ prt a ≤ j + 1 := by omega
        simp only [h1, h2, h3, decide_false, Bool.false_eq_true, if_false, ih]
theorem upto_mono (ss : List ByteArray) (j : Nat) : upto ss j ≤ upto ss (j + 1) := by rw [upto_succ]; omega
/-- the numbers, summed up one after the other -/
def preL (c : List Nat) : Nat → List Nat
  | 0 => c
  | k + 1 => (preL c k).set (k + 1) ((preL c k).getD (k + 1) 0 + (preL c k).getD k 0)
theorem preL_len (c : List Nat) : ∀ k, (preL c k).length = c.length
  | 0 => rfl
  | k + 1 => by rw [preL, List.length_set, preL_len]
theorem preL_at (ss : List ByteArray) : ∀ k, k < 16 → ∀ j, j < 16 → (preL (cnt ss) k).getD j 0 = if j ≤ k then upto ss j else inPart ss j
  | 0, _, j, hj => by
    show (cnt ss).getD j 0 = _
    rw [cnt_all ss j hj]
    split
    · obtain rfl : j = 0 := by omega
      exact (upto_zero ss).symm
    · rfl
  | k + 1, hk, j, hj => by
    have ih := preL_at ss k (by omega)
    have hl : (preL (cnt ss) k).length = 16 := by rw [preL_len, cnt_len]
    rw [preL]
    by_cases e : k + 1 = j
    · subst e
      rw [List.getD_eq_getElem?_getD, List.getElem?_set_self (by rw [hl]; exact hj), Option.getD_some, ih (k + 1) hj, ih k (by omega), if_neg (by omega), if_pos (Nat.le_refl _), if_pos (Nat.le_refl _), upto_succ]
      omega
    · rw [List.getD_eq_getElem?_getD, List.getElem?_set_ne e, ← List.getD_eq_getElem?_getD, ih j hj]
      by_cases h1 : j ≤ k
      · rw [if_pos h1, if_pos (by omega)]
      · rw [if_neg h1, if_neg (by omega)]
/-- the fan of sums -/
def fanL (ss : List ByteArray) : List Nat := preL (cnt ss) 15
theorem fanL_len (ss : List ByteArray) : (fanL ss).length = 16 := by unfold fanL; rw [preL_len, cnt_len]
theorem fanL_at (ss : List ByteArray) (j : Nat) (hj : j < 16) : (fanL ss).getD j 0 = upto ss j := by
  unfold fanL
  rw [preL_at ss 15 (by omega) j hj, if_pos (by omega)]
theorem preL_le (ss : List ByteArray) (k : Nat) (hk : k < 16) (j : Nat) (hj : j < 16) : (preL (cnt ss) k).getD j 0 ≤ ss.length := by
  rw [preL_at ss k hk j hj]
  split
  · exact upto_le ss j
  · exact inPart_le ss j
/-- of texts with one size, the lesser one's first byte is no greater -/
theorem prt_mono {a b : ByteArray} (ha : a.size = 32) (hb : b.size = 32) (h : Op.bytesLess a.toList b.toList = true) : prt a ≤ prt b := by
  rw [ByteArray.toList_eq, ByteArray.toList_eq] at h
  have la : a.data.toList.length = 32 := by simpa using ha
  have lb : b.data.toList.length = 32 := by simpa using hb
  unfold prt
  cases qa : a.data.toList with
  | nil => rw [qa] at la; simp at la
  | cons x xs =>
    cases qb : b.data.toList with
    | nil => rw [qb] at lb; simp at lb
    | cons y ys =>
      rw [qa, qb] at h
      simp only [Op.bytesLess, Bool.or_eq_true, Bool.and_eq_true, decide_eq_true_eq, beq_iff_eq] at h
      have hxy : x.toNat ≤ y.toNat := by
        rcases h with h | ⟨rfl, _⟩
        · rw [UInt8.lt_iff_toNat_lt] at h
          omega
        · exact Nat.le_refl _
      show x.toNat / 16 ≤ y.toNat / 16
      exact Nat.div_le_div_right hxy
/-- those up to a part stand ahead of the others -/
theorem upto_iff (j : Nat) : ∀ (ss : List ByteArray), Rise ss → (∀ s ∈ ss, s.size = 32) → ∀ i (h : i < ss.length), prt ss[i] ≤ j ↔ i < upto ss j
  | [], _, _, i, h => by simp at h
  | a :: t, hr, hs, i, h => by
    have p := List.pairwise_cons.1 hr
    have ih := upto_iff j t p.2 (fun s m => hs s (List.mem_cons_of_mem _ m))
    by_cases ha : prt a ≤ j
    · have e : upto (a :: t) j = upto t j + 1 := by simp [upto, ha]
      rw [e]
      rcases i with _ | i
      · constructor
        · intro _; omega
        · intro _; exact ha
      · have h2 : i < t.length := by simpa using h
        have := ih i h2
        show prt t[i] ≤ j ↔ _
        rw [this]
        omega
    · have hn : ∀ b ∈ t, ¬ prt b ≤ j := by
        intro b hb hq
        have := prt_mono (hs a (by simp)) (hs b (List.mem_cons_of_mem _ hb)) (p.1 b hb)
        omega
      have e : upto (a :: t) j = 0 := by
        unfold upto
        rw [List.filter_cons, if_neg (by simpa using ha), List.filter_eq_nil_iff.2 (fun b hb => by simpa using hn b hb)]
        rfl
      rw [e]
      rcases i with _ | i
      · constructor
        · intro q; exact absurd q ha
        · intro q; omega
      · have h2 : i < t.length := by simpa using h
        constructor
        · intro q; exact absurd q (hn _ (List.getElem_mem h2))
        · intro q; omega
/-- the row's piece in which a text would stand -/
def fromN (ss : List ByteArray) (p : Nat) : Nat := if p = 0 then 0 else upto ss (p - 1)
def pieceL (ss : List ByteArray) (p : Nat) : List ByteArray := (ss.drop (fromN ss p)).take (upto ss p - fromN ss p)
theorem from_le (ss : List ByteArray) (p : Nat) : fromN ss p ≤ upto ss p := by
  unfold fromN
  split
  · omega
  · have := upto_mono ss (p - 1)
    rwa [show p - 1 + 1 = p by omega] at this
theorem piece_rise {ss : List ByteArray} (p : Nat) (hr : Rise ss) : Rise (pieceL ss p) :=
  List.Pairwise.sublist (List.Sublist.trans (List.take_sublist _ _) (List.drop_sublist _ _)) hr
theorem piece_len (ss : List ByteArray) (p : Nat) : (pieceL ss p).length = upto ss p - fromN ss p := by
  unfold pieceL
  rw [List.length_take, List.length_drop]
  have := upto_le ss p
  omega
theorem piece_mem {ss : List ByteArray} {x : ByteArray} (h : x ∈ pieceL ss (prt x)) : x ∈ ss := List.mem_of_mem_drop (List.mem_of_mem_take h)
/-- where a text stands that is there -/
theorem piece_at {ss : List ByteArray} {x : ByteArray} (hr : Rise ss) (hs : ∀ s ∈ ss, s.size = 32) (hx : x ∈ ss) : inB (pieceL ss (prt x)) x = true ∧ fromN ss (prt x) + lessN (pieceL ss (prt x)) x = lessN ss x := by
  obtain ⟨i, hi, e⟩ := List.getElem_of_mem hx
  have hu := (upto_iff (prt x) ss hr hs i hi).1 (by rw [e]; exact Nat.le_refl _)
  have hf : fromN ss (prt x) ≤ i := by
    unfold fromN
    split
    · omega
    · have := (upto_iff (prt x - 1) ss hr hs i hi)
      rw [e] at this
      omega
  have hl := piece_len ss (prt x)
  have hj : i - fromN ss (prt x) < (pieceL ss (prt x)).length := by rw [hl]; omega
  have he0 : (pieceL ss (prt x))[i - fromN ss (prt x)]? = some x := by
    unfold pieceL
    rw [List.getElem?_take, if_pos (by omega), List.getElem?_drop, show fromN ss (prt x) + (i - fromN ss (prt x)) = i by omega, List.getElem?_eq_getElem hi, e]
  obtain ⟨_, he⟩ := List.getElem?_eq_some_iff.1 he0
  refine ⟨mem_in.2 (List.mem_of_getElem? he0), ?_⟩
  rw [← cut_idx (piece_rise _ hr) _ hj he, ← cut_idx hr i hi e]
  omega
theorem piece_no {ss : List ByteArray} {x : ByteArray} (h : inB ss x = false) : inB (pieceL ss (prt x)) x = false := by
  cases hq : inB (pieceL ss (prt x)) x with
  | false => rfl
  | true => rw [mem_in.2 (piece_mem (mem_in.1 hq))] at h; cases h
/-- what the document says of where a text stands -/
def AtIs (ss : List ByteArray) (x : ByteArray) (z : Int) : Prop := (∃ i, ∃ h : i < ss.length, z = (i : Int) ∧ ss[i] = x) ∨ (z = -1 ∧ inB ss x = false)
theorem at_yes {ss : List ByteArray} {x : ByteArray} {z : Int} (hr : Rise ss) (h : AtIs ss x z) (hx : inB ss x = true) : z = (lessN ss x : Int) := by
  rcases h with ⟨i, hi, rfl, e⟩ | ⟨_, h⟩
  · rw [cut_idx hr i hi e]
  · rw [hx] at h; cases h
theorem at_no {ss : List ByteArray} {x : ByteArray} {z : Int} (h : AtIs ss x z) (hx : inB ss x = false) : z = -1 := by
  rcases h with ⟨i, hi, _, e⟩ | ⟨h, _⟩
  · rw [mem_in.2 (e ▸ List.getElem_mem hi)] at hx; cases hx
  · exact h
end Go.Proofs.Ytlkhgjgefhcicaa
