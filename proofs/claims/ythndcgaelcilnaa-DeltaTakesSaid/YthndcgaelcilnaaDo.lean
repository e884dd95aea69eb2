/- Plain facts: what pieces of a text make of the base is the text; how long the bytes of few pieces are. No condition. -/
import Derived.Test.YthndcgaelcilnaaDq
import Derived.Test.YthndcgaelcilnaaDj
import Derived.Test.YthndcgaelcilnaaDf
namespace Go.Proofs.Ythndcgaelcilnaa
open Go.RowKit Vi Zp

theorem jn_cons (B : ByteArray) (p : Pc) (r : List Pc) (acc : ByteArray) : jn B (p :: r) acc = if okP p = false then (⟨#[]⟩, 2) else if 65536 < (acc.size : Int) + p.2.2.1 then (⟨#[]⟩, 5) else if p.1 = false then jn B r (acc ++ p.2.2.2)
    else if (B.size : Int) < p.2.1 + p.2.2.1 then (⟨#[]⟩, 8) else jn B r (acc ++ B.extract p.2.1.toNat (p.2.1 + p.2.2.1).toNat) := rfl
theorem jn_app (B : ByteArray) : ∀ (l m : List Pc) (acc Z : ByteArray), jn B l acc = (Z, 0) → jn B (l ++ m) acc = jn B m Z
  | [], m, acc, Z, h => by
    simp only [jn, Prod.mk.injEq, and_true] at h
    rw [List.nil_append, h]
  | p :: l, m, acc, Z, h => by
    rw [List.cons_append, jn_cons]
    rw [jn_cons] at h
    split at h
    · simp at h
    · next h1 =>
      rw [if_neg h1]
      split at h
      · simp at h
      · next h2 =>
        rw [if_neg h2]
        split at h
        · next h3 => rw [if_pos h3]; exact jn_app B l m _ Z h
        · next h3 =>
          rw [if_neg h3]
          split at h
          · simp at h
          · next h4 => rw [if_neg h4]; exact jn_app B l m _ Z h
theorem ba_take (T : ByteArray) (Z o : ByteArray) (own i : Nat) (hi : own ≤ i) (hz : Z.data.toList = T.data.toList.take own) (ho : o.data.toList = (T.data.toList.drop own).take (i - own)) : (Z ++ o).data.toList = T.data.toList.take i := by
  rw [ba_app, hz, ho]
  have := @List.take_add _ T.data.toList own (i - own)
  rw [show own + (i - own) = i by omega] at this
  exact this.symm
theorem jn_own (B T Z : ByteArray) (hT : T.size ≤ 3000) (own i : Nat) (h1 : own ≤ i) (hi : i ≤ T.size) (l : List Pc) (hl : jn B l ⟨#[]⟩ = (Z, 0)) (hz : Z.data.toList = T.data.toList.take own) :
    ∃ Z', jn B (addL l ((T.data.toList.drop own).take (i - own))) ⟨#[]⟩ = (Z', 0) ∧ Z'.data.toList = T.data.toList.take i := by
  by_cases he : i = own
  · subst he
    refine ⟨Z, ?_, hz⟩
    unfold addL
    rw [Nat.sub_self, List.take_zero, if_pos rfl]
    exact hl
  · have hlen : ((T.data.toList.drop own).take (i - own)).length = i - own := by rw [List.length_take, List.length_drop, ba_len]; omega
    obtain ⟨o, ho⟩ : ∃ o, (T.data.toList.drop own).take (i - own) = o := ⟨_, rfl⟩
    have hne : o ≠ [] := fun e => by rw [ho, e] at hlen; simp at hlen; omega
    rw [ho] at hlen ⊢
    have hzl : Z.size = own := by rw [← ba_len, hz, List.length_take, ba_len]; omega
    have hok : okP (false, 0, (o.length : Int), ⟨o.toArray⟩) = true := by
      unfold okP
      rw [Bool.and_eq_true, if_neg (by simp)]
      dsimp only
      exact ⟨decide_eq_true (by omega), decide_eq_true ⟨rfl, by rw [bytes_size]⟩⟩
    refine ⟨Z ++ ⟨o.toArray⟩, ?_, ba_take T Z _ own i h1 hz (by rw [ho])⟩
    unfold addL
    rw [if_neg hne, jn_app B l _ _ Z hl]
    unfold jn
    rw [if_neg (by rw [hok]; simp)]
    dsimp only
    rw [if_neg (by rw [hzl]; omega), if_pos rfl]
    rfl
theorem jn_copy (B T Z : ByteArray) (hT : T.size ≤ 3000) (hB : B.size ≤ 3000) (i p n : Nat) (h1 : 1 ≤ n) (hi : i + n ≤ T.size) (hn : n = cpl (B.data.toList.drop p) (T.data.toList.drop i)) (hp : p + n ≤ B.size) (l : List Pc) (hl : jn B l ⟨#[]⟩ = (Z, 0)) (hz : Z.data.toList = T.data.toList.take i) :
    ∃ Z', jn B (l ++ [(true, (p : Int), (n : Int), ⟨#[]⟩)]) ⟨#[]⟩ = (Z', 0) ∧ Z'.data.toList = T.data.toList.take (i + n) := by
  have hzl : Z.size = i := by rw [← ba_len, hz, List.length_take, ba_len]; omega
  have hok : okP (true, (p : Int), (n : Int), ⟨#[]⟩) = true := by
    unfold okP
    rw [Bool.and_eq_true, if_pos rfl]
    dsimp only
    exact ⟨decide_eq_true (by omega), decide_eq_true ⟨by omega, by omega, rfl⟩⟩
  refine ⟨Z ++ B.extract p (p + n), ?_, ba_take T Z _ i (i + n) (by omega) hz ?_⟩
  · rw [jn_app B l _ _ Z hl]
    unfold jn
    rw [if_neg (by rw [hok]; simp)]
    dsimp only
    rw [if_neg (by rw [hzl]; omega), if_neg (by simp), if_neg (by omega)]
    unfold jn
    rw [show ((p : Int)).toNat = p by omega, show ((p : Int) + (n : Int)).toNat = p + n by omega]
  · rw [mid_list B _ p (p + n) rfl, Nat.add_sub_cancel_left, Nat.add_sub_cancel_left]
    have : ∀ (k : Nat) (a b : List UInt8), k ≤ cpl a b → a.take k = b.take k := by
      intro k
      induction k with
      | zero => intro a b _; simp
      | succ k ih =>
        intro a b h
        cases a with
        | nil => rw [cpl_nil2] at h; omega
        | cons x xs => cases b with
          | nil => rw [cpl_nil] at h; omega
          | cons y ys =>
            rw [cpl_cons] at h
            split at h
            · next e => subst e; rw [List.take_succ_cons, List.take_succ_cons, ih xs ys (by omega)]
            · omega
    exact this n _ _ (by omega)
theorem jn_pcs (B T : ByteArray) (hB : B.size ≤ 3000) (hT : T.size ≤ 3000) : ∀ (m own i : Nat) (l : List Pc) (Z : ByteArray), T.size - i = m → own ≤ i → i ≤ T.size → jn B l ⟨#[]⟩ = (Z, 0) → Z.data.toList = T.data.toList.take own →
    jn B (pcsW B.data.toList T.data.toList own i l) ⟨#[]⟩ = (T, 0) := by
  intro m
  induction m using Nat.strongRecOn with
  | ind m ih =>
    intro own i l Z hm ho hi hl hz
    by_cases h8 : i + 8 ≤ T.data.toList.length
    · have h8' : i + 8 ≤ T.size := by rw [← ba_len]; exact h8
      cases hs : stands B.data.toList (win T.data.toList i) with
      | none =>
        rw [pcsW_none _ _ own i l h8 hs]
        exact ih (T.size - (i + 1)) (by omega) own (i + 1) l Z rfl (by omega) (by omega) hl hz
      | some p =>
        obtain ⟨n, hn⟩ : ∃ n, n = cpl (B.data.toList.drop p) (T.data.toList.drop i) := ⟨_, rfl⟩
        obtain ⟨h1, h2⟩ := cpl_eight h8 hs
        have h3 := cpl_le (B.data.toList.drop p) (T.data.toList.drop i)
        rw [List.length_drop, List.length_drop, ba_len, ba_len] at h3
        rw [← hn] at h1 h3
        rw [ba_len] at h2
        rw [pcsW_some _ _ own i p n l h8 hs hn]
        obtain ⟨Z1, hl1, hz1⟩ := jn_own B T Z hT own i ho hi l hl hz
        obtain ⟨Z2, hl2, hz2⟩ := jn_copy B T Z1 hT hB i p n (by omega) (by omega) hn (by omega) _ hl1 hz1
        exact ih (T.size - (i + n)) (by omega) (i + n) (i + n) _ Z2 rfl (Nat.le_refl _) (by omega) hl2 hz2
    · rw [pcsW_end _ _ own i l h8]
      obtain ⟨Z1, hl1, hz1⟩ := jn_own B T Z hT own T.size (by omega) (Nat.le_refl _) l hl hz
      have e : (T.data.toList.drop own).take (T.size - own) = T.data.toList.drop own := List.take_of_length_le (by rw [List.length_drop, ba_len]; omega)
      rw [e] at hl1
      rw [hl1]
      have : Z1 = T := list_ext (by rw [hz1]; exact List.take_of_length_le (by rw [ba_len]; omega))
      rw [this]
theorem jn_back (B T : ByteArray) (hB : B.size ≤ 3000) (hT : T.size ≤ 3000) : jn B (pcsW B.data.toList T.data.toList 0 0 []) ⟨#[]⟩ = (T, 0) :=
  jn_pcs B T hB hT _ 0 0 [] ⟨#[]⟩ rfl (Nat.le_refl _) (Nat.zero_le _) rfl rfl
theorem few_size : ∀ l : List Pc, l.all okP = true → 10000 * (putLs l).length ≤ 65536 * fewS l + 200000 * l.length
  | [], _ => by simp [putLs, fewS]
  | p :: r, h => by
    simp only [List.all_cons, Bool.and_eq_true] at h
    have h1 := few_size r h.2
    obtain ⟨o1, o2, o3, o4⟩ := okP_bd h.1
    rw [putLs_cons, List.length_append, List.length_cons, fewS]
    have b1 := put_len (2 * p.2.2.1 + 1).toNat
    have b2 := put_len p.2.1.toNat
    have b3 := put_len (2 * p.2.2.1).toNat
    have hp : 10000 * (putP p).length ≤ 65536 * min p.2.2.2.size 10000 + 200000 := by
      unfold putP
      split
      · rw [List.length_append]; omega
      · next hc =>
        obtain ⟨_, o5⟩ := o4 (by simpa using hc)
        rw [List.length_append, ba_len]
        have : p.2.2.2.size ≤ 65536 := by omega
        omega
    omega
theorem few_bytes (l : List Pc) (h : fewB l = true) (hok : l.all okP = true) : (putLs l).length ≤ 100000 ∧ l.length ≤ 60 := by
  unfold fewB at h
  simp only [Bool.and_eq_true, decide_eq_true_eq] at h
  have := few_size l hok
  omega
theorem IsD.len {S : ByteArray} {l : List Pc} (h : IsD S l) : l.length ≤ S.size := by
  obtain ⟨h1, h2⟩ := h
  have : ∀ m : List Pc, m.length ≤ (putLs m).length := by
    intro m
    induction m with
    | nil => exact Nat.zero_le _
    | cons p m ih => rw [putLs_cons, List.length_append, List.length_cons]; have := putP_pos p; omega
  have h3 := this l
  rw [h2, ba_len] at h3
  exact h3
end Go.Proofs.Ythndcgaelcilnaa
