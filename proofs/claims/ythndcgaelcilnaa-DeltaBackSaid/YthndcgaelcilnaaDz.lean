/- Plain facts of the pieces of a text: all are pieces, few, and of few bytes. -/
import Derived.Test.YthndcgaelcilnaaDy
namespace Go.Proofs.Ythndcgaelcilnaa
open Go.RowKit Vi

theorem sz_of (o : List UInt8) : (⟨o.toArray⟩ : ByteArray).size = o.length := by show o.toArray.size = _; simp
def okS (p : Pc) : Prop := okP p = true ∧ p.2.2.2.size ≤ 3000
theorem putLs_app (l m : List Pc) : putLs (l ++ m) = putLs l ++ putLs m := by unfold putLs; simp
theorem add_ok (l : List Pc) (o : List UInt8) (h : ∀ p ∈ l, okS p) (ho : o.length ≤ 3000) : (∀ p ∈ addL l o, okS p) ∧ (putLs (addL l o)).length ≤ (putLs l).length + o.length + 10 := by
  unfold addL
  split
  · exact ⟨h, by omega⟩
  · rename_i hne
    have h1 : 1 ≤ o.length := by
      cases o with
      | nil => exact absurd rfl hne
      | cons _ _ => simp
    refine ⟨fun p hp => ?_, ?_⟩
    · rcases List.mem_append.1 hp with hp | hp
      · exact h p hp
      · obtain rfl := List.mem_singleton.1 hp
        refine ⟨?_, by rw [sz_of]; exact ho⟩
        have hz := sz_of o
        unfold okP
        simp
        omega
    · rw [putLs_snoc, List.length_append]
      have e : putP (false, 0, (o.length : Int), ⟨o.toArray⟩) = put (2 * (o.length : Int)).toNat ++ o := by unfold putP; simp
      have := put_len (2 * (o.length : Int)).toNat
      rw [e, List.length_append]
      omega
theorem pcs_all (B T : List UInt8) (hB : B.length ≤ 3000) (hT : T.length ≤ 3000) : ∀ (m own i : Nat) (l : List Pc), T.length - i = m → own ≤ i → i ≤ T.length → (∀ p ∈ l, okS p) →
    (∀ p ∈ pcsW B T own i l, okS p) ∧ (pcsW B T own i l).length ≤ l.length + 2 * (T.length - i) + 1 ∧ (putLs (pcsW B T own i l)).length ≤ (putLs l).length + (T.length - own) + 10 * (T.length - i) + 10 := by
  intro m
  induction m using Nat.strongRecOn with
  | ind m ih =>
    intro own i l hm ho hi h
    by_cases h8 : i + 8 ≤ T.length
    · cases hs : stands B (win T i) with
      | none =>
        rw [pcsW_none B T own i l h8 hs]
        obtain ⟨a, b, c⟩ := ih (T.length - (i + 1)) (by omega) own (i + 1) l rfl (by omega) (by omega) h
        exact ⟨a, by omega, by omega⟩
      | some p =>
        obtain ⟨n, hn⟩ : ∃ n, n = cpl (B.drop p) (T.drop i) := ⟨_, rfl⟩
        obtain ⟨h1, h2⟩ := cpl_eight h8 hs
        have h3 := (cpl_le (B.drop p) (T.drop i)).2
        rw [List.length_drop] at h3
        rw [← hn] at h1 h3
        rw [pcsW_some B T own i p n l h8 hs hn]
        have hlo : ((T.drop own).take (i - own)).length = i - own := by rw [List.length_take, List.length_drop]; omega
        obtain ⟨a1, a2⟩ := add_ok l ((T.drop own).take (i - own)) h (by omega)
        have a3 := addL_len l ((T.drop own).take (i - own))
        rw [hlo] at a2
        have hp : okS (true, (p : Int), (n : Int), ⟨#[]⟩) := by
          refine ⟨?_, Nat.zero_le _⟩
          unfold okP
          rw [Bool.and_eq_true, if_pos rfl]
          dsimp only
          exact ⟨decide_eq_true (by omega), decide_eq_true ⟨by omega, by omega, rfl⟩⟩
        obtain ⟨a, b, c⟩ := ih (T.length - (i + n)) (by omega) (i + n) (i + n) (addL l ((T.drop own).take (i - own)) ++ [(true, (p : Int), (n : Int), ⟨#[]⟩)]) rfl (by omega) (by omega) (by
          intro q hq
          rcases List.mem_append.1 hq with hq | hq
          · exact a1 q hq
          · obtain rfl := List.mem_singleton.1 hq; exact hp)
        have e : (putP (true, (p : Int), (n : Int), ⟨#[]⟩)).length ≤ 20 := by
          unfold putP
          rw [if_pos rfl, List.length_append]
          have e1 := put_len (2 * (n : Int) + 1).toNat
          have e2 := put_len (p : Int).toNat
          dsimp only at *
          omega
        rw [putLs_snoc, List.length_append] at c
        rw [List.length_append] at b
        simp only [List.length_cons, List.length_nil] at b
        exact ⟨a, by omega, by omega⟩
    · rw [pcsW_end B T own i l h8]
      obtain ⟨a1, a2⟩ := add_ok l (T.drop own) h (by rw [List.length_drop]; omega)
      have a3 := addL_len l (T.drop own)
      rw [List.length_drop] at a2
      exact ⟨a1, by omega, by omega⟩
theorem pcs_okP (l : List Pc) (h : ∀ p ∈ l, okS p) : l.all okP = true := List.all_eq_true.2 fun p hp => (h p hp).1
theorem pcs_top (B T : ByteArray) (hB : B.size ≤ 3000) (hT : T.size ≤ 3000) :
    (∀ p ∈ pcsW B.data.toList T.data.toList 0 0 [], okS p) ∧ (pcsW B.data.toList T.data.toList 0 0 []).length ≤ 6001 ∧ (putLs (pcsW B.data.toList T.data.toList 0 0 [])).length ≤ 40000 := by
  have hbl : B.data.toList.length = B.size := by simp
  have htl : T.data.toList.length = T.size := by simp
  obtain ⟨a, b, c⟩ := pcs_all B.data.toList T.data.toList (by omega) (by omega) _ 0 0 [] rfl (Nat.le_refl _) (Nat.zero_le _) (fun p hp => by cases hp)
  have e : (putLs []).length = 0 := rfl
  rw [e] at c
  simp only [List.length_nil] at b
  exact ⟨a, by omega, by omega⟩
end Go.Proofs.Ythndcgaelcilnaa
