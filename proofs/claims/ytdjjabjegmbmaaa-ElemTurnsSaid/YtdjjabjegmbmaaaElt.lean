/- Layer 25: what is read of labels and properties; both Takes; what is the same. Condition: texts of fewer than a million bytes. -/
import Derived.Test.YtdjjabjegmbmaaaAd
import Derived.Test.YtdjjabjegmbmaaaZp
import Derived.Test.YtdjjabjegmbmaaaWr
import Derived.Test.YtdjjabjegmbmaaaPx
import Derived.Test.YtdjjabjegmbmaaaSu
import Derived.Deep.RegionLaw
import Derived.Deep.DeepCutAuto
import Derived.Test.YtdjjabjegmbmaaaQb
import Derived.Test.YtdjjabjegmbmaaaWs
import Derived.Test.YtdjjabjegmbmaaaAf
namespace Go.Proofs.Ytdjjabjegmbmaaa
open Go.RowKit Vi Zp

def tL (s : ByteArray) : List UInt8 := put s.size ++ s.data.toList
def pL (p : Pr) : List UInt8 := tL p.1 ++ (vput p.2.1 p.2.2.1 p.2.2.2).data.toList
def lsL (ss : List ByteArray) : List UInt8 := ss.flatMap tL
def psL (ps : List Pr) : List UInt8 := ps.flatMap pL
def ptL (ss : List ByteArray) (ps : List Pr) : List UInt8 := put ss.length ++ (lsL ss ++ (put ps.length ++ psL ps))
theorem nS_list (n : Nat) : (nS n).data.toList = put n := rfl
theorem tS_list (s : ByteArray) : (tS s).data.toList = tL s := by unfold tS tL; rw [ba_app]
theorem accL_list (a : ByteArray) (ss : List ByteArray) : (accL a ss).data.toList = a.data.toList ++ lsL ss := by
  induction ss generalizing a with
  | nil => show a.data.toList = _; unfold lsL; simp
  | cons s r ih =>
    show (accL (a ++ tS s) r).data.toList = _
    rw [ih, ba_app, tS_list]
    unfold lsL
    rw [List.flatMap_cons, List.append_assoc]
theorem accP_list (a : ByteArray) (ps : List Pr) : (accP a ps).data.toList = a.data.toList ++ psL ps := by
  induction ps generalizing a with
  | nil => show a.data.toList = _; unfold psL; simp
  | cons s r ih =>
    show (accP (a ++ pS s) r).data.toList = _
    rw [ih, ba_app]
    unfold pS
    rw [ba_app, tS_list]
    unfold psL pL
    rw [List.flatMap_cons]
    simp only [List.append_assoc]
theorem ptS_list (ss : List ByteArray) (ps : List Pr) : (ptS ss ps).data.toList = ptL ss ps := by
  unfold ptS ptL
  rw [accP_list, ba_app, accL_list, nS_list, nS_list]
  simp only [List.append_assoc]
theorem num_mx (S : ByteArray) (q : Nat) (er m : Int) (hm : 0 ≤ m) : 0 ≤ (Rd.num S q er m).1 ∧ (Rd.num S q er m).1 ≤ m := by
  unfold Rd.num
  split
  · exact ⟨Int.le_refl _, hm⟩
  · split
    · exact ⟨Int.le_refl _, hm⟩
    · split
      · exact ⟨Int.le_refl _, hm⟩
      · dsimp only; omega
theorem vput_lst (k n : Int) (t : ByteArray) (hv : vok k n t = true) : (vput k n t).data.toList = UInt8.ofNat (k % 256).toNat :: (vrest k n t).data.toList := by
  unfold vput
  rw [if_pos hv, ba_app]; rfl
theorem vok_four {k n : Int} {t : ByteArray} (h : vok k n t = true) : (k = 1 ∧ (n = 0 ∨ n = 1) ∧ t = ⟨#[]⟩) ∨ (k = 2 ∧ t = ⟨#[]⟩) ∨ (k = 3 ∧ n = 0 ∧ t.size ≤ 64) := by
  have em : t.toList.isEmpty = true → t = ⟨#[]⟩ := fun e => by
    have h1 : t.toList = [] := by simpa using e
    rw [Lib.toList_data] at h1
    exact Zp.ba_ext h1
  unfold vok at h
  split at h
  · next h1 =>
    rw [Bool.and_eq_true, Bool.or_eq_true] at h
    exact Or.inl ⟨h1, by simpa using h.1, em h.2⟩
  · split at h
    · next h2 => exact Or.inr (Or.inl ⟨h2, em h⟩)
    · rw [Bool.and_eq_true, Bool.and_eq_true] at h
      exact Or.inr (Or.inr ⟨by simpa using h.1.1, by simpa using h.1.2, of_decide_eq_true h.2⟩)
/-- a value is read where it stands -/
theorem rv_at {S : ByteArray} {q : Nat} {k n : Int} {t : ByteArray} {r : List UInt8} (h : S.data.toList.drop q = (vput k n t).data.toList ++ r) (hv : vok k n t = true) (h0 : -9223372036854775808 ≤ n) (h1 : n ≤ 9223372036854775807) :
    rvE S q 0 = 0 ∧ rvV S q 0 = (k, n, t) ∧ S.data.toList.drop (rvM S q 0).2.2.2.1 = r := by
  rw [vput_lst k n t hv] at h
  have hd : S.data.toList.drop (q + 1) = (vrest k n t).data.toList ++ r := by rw [← List.drop_drop, h]; rfl
  have fin : ∀ q2, rvM S q 0 = (k, n, t, q2, 0) → S.data.toList.drop q2 = r → rvE S q 0 = 0 ∧ rvV S q 0 = (k, n, t) ∧ S.data.toList.drop (rvM S q 0).2.2.2.1 = r := fun q2 hM hr => by
    obtain ⟨r1, r2⟩ := rv_good hM hv
    exact ⟨r1, r2, by rw [hM]; exact hr⟩
  have one : ∀ m : UInt8, k = 1 → (m.toNat : Int) = n → t = ⟨#[]⟩ → S.data.toList.drop (q + 1) = m :: r → S.data.toList.drop q = 1 :: m :: r → rvE S q 0 = 0 ∧ rvV S q 0 = (k, n, t) ∧ S.data.toList.drop (rvM S q 0).2.2.2.1 = r := by
    intro m hk hm ht e1 e0
    subst hk hm ht
    have b0 := byte_is S q 1 (m :: r) e0
    have b1 := byte_is S (q + 1) m r e1
    have b0 : Rd.byte S q 0 = (1, q + 1, 0) := b0
    refine fin (q + 2) ?_ ?_
    · rw [rvM_is b0, if_pos rfl, b1]
    · rw [show q + 2 = q + 1 + 1 from rfl, ← List.drop_drop, e1]; rfl
  rcases vok_four hv with ⟨rfl, hn, rfl⟩ | ⟨rfl, rfl⟩ | ⟨rfl, rfl, ht⟩
  · rcases hn with rfl | rfl
    · exact one 0 rfl rfl rfl (by rw [hd]; rfl) (by rw [h]; rfl)
    · exact one 1 rfl rfl rfl (by rw [hd]; rfl) (by rw [h]; rfl)
  · have e : (vrest 2 n ⟨#[]⟩).data.toList = put (zig n) := by unfold vrest; rw [if_neg (by decide), if_pos rfl]
    rw [e] at hd
    have b0 := byte_is S q 2 _ h
    have b0 : Rd.byte S q 0 = (2, q + 1, 0) := b0
    have b1 := int_is S (q + 1) n r hd h0 h1
    refine fin (q + 1 + (put (zig n)).length) ?_ ?_
    · rw [rvM_is b0, if_neg (by decide), if_pos rfl, b1]
    · rw [← List.drop_drop, hd, List.drop_left]
  · have e : (vrest 3 0 t).data.toList = put t.size ++ t.data.toList := by unfold vrest; rw [if_neg (by decide), if_neg (by decide), ba_app]
    rw [e, List.append_assoc] at hd
    have b0 := byte_is S q 3 _ h
    have b0 : Rd.byte S q 0 = (3, q + 1, 0) := b0
    have b1 := text_is S (q + 1) 64 t r hd (by omega) (by omega)
    refine fin (q + 1 + (put t.size).length + t.size) ?_ ?_
    · rw [rvM_is b0, if_neg (by decide), if_neg (by decide), if_pos rfl, b1]
    · rw [← List.drop_drop, ← List.drop_drop, hd, List.drop_left, ← ba_len t, List.drop_left]
theorem gn_bd (l : List UInt8) (h : gb l = true) : gn l < 18446744073709551616 := by
  obtain ⟨_, _, _, k⟩ := gb_some h; exact k
/-- whatever is read as a value is a number, and a text that is no longer than what it is read of -/
theorem rvV_bd (S : ByteArray) (q : Nat) (er : Int) : -9223372036854775808 ≤ (rvV S q er).2.1 ∧ (rvV S q er).2.1 ≤ 9223372036854775807 ∧ (rvV S q er).2.2.size ≤ S.size := by
  obtain ⟨k, n, t, q2, e2, hM⟩ : ∃ k n t q2 e2, rvM S q er = (k, n, t, q2, e2) := ⟨_, _, _, _, _, rfl⟩
  have zero : rvV S q er = (0, 0, ⟨#[]⟩) → -9223372036854775808 ≤ (rvV S q er).2.1 ∧ (rvV S q er).2.1 ≤ 9223372036854775807 ∧ (rvV S q er).2.2.size ≤ S.size := fun e => by
    rw [e]; exact ⟨by show -9223372036854775808 ≤ (0 : Int); omega, by show (0 : Int) ≤ 9223372036854775807; omega, Nat.zero_le _⟩
  cases hv : vok k n t with
  | false => exact zero (rv_bad hM hv).2
  | true =>
    by_cases he : e2 = 0
    · subst he
      rw [(rv_good hM hv).2]
      show -9223372036854775808 ≤ n ∧ n ≤ 9223372036854775807 ∧ t.size ≤ S.size
      rcases vok_four hv with ⟨_, hn, rfl⟩ | ⟨rfl, rfl⟩ | ⟨rfl, rfl, _⟩
      · refine ⟨by omega, by omega, Nat.zero_le _⟩
      · obtain ⟨kb, q1, e1, hB⟩ : ∃ a b c, Rd.byte S q er = (a, b, c) := ⟨_, _, _, rfl⟩
        rw [rvM_is hB] at hM
        have nd : n = (Rd.int S q1 e1).1 := by
          split at hM
          · simp only [Prod.mk.injEq] at hM; omega
          · split at hM
            · simp only [Prod.mk.injEq] at hM; exact hM.2.1.symm
            · split at hM
              · simp only [Prod.mk.injEq] at hM; omega
              · next h2 _ => simp only [Prod.mk.injEq] at hM; exact absurd hM.1 h2
        have bd : -9223372036854775808 ≤ (Rd.int S q1 e1).1 ∧ (Rd.int S q1 e1).1 ≤ 9223372036854775807 := by
          unfold Rd.int
          split
          · exact ⟨by show -9223372036854775808 ≤ (0 : Int); omega, by show (0 : Int) ≤ 9223372036854775807; omega⟩
          · split
            · exact ⟨by show -9223372036854775808 ≤ (0 : Int); omega, by show (0 : Int) ≤ 9223372036854775807; omega⟩
            · next h2 => exact zag_bd _ (gn_bd _ (by simpa using h2))
        rw [nd]
        exact ⟨bd.1, bd.2, Nat.zero_le _⟩
      · refine ⟨by omega, by omega, ?_⟩
        obtain ⟨kb, q1, e1, hB⟩ : ∃ a b c, Rd.byte S q er = (a, b, c) := ⟨_, _, _, rfl⟩
        rw [rvM_is hB] at hM
        split at hM
        · simp only [Prod.mk.injEq] at hM; omega
        · split at hM
          · simp only [Prod.mk.injEq] at hM; omega
          · split at hM
            · simp only [Prod.mk.injEq] at hM
              rw [← hM.2.2.1]
              unfold Rd.text
              exact Rd.fix_size S _ _ _
            · simp only [Prod.mk.injEq] at hM
              rw [← hM.2.2.1]; exact Nat.zero_le _
    · exact zero (rv_err hM hv he).2
theorem text_size (S : ByteArray) (q : Nat) (er n : Int) : (Rd.text S q er n).1.size ≤ S.size := by unfold Rd.text; exact Rd.fix_size S _ _ _
/-- where reading begins: whatever labels and properties are meant, they stand there -/
def StartP (X : List ByteArray → List Pr → Prop) (S : ByteArray) (q : Nat) (er : Int) : Prop := ∀ ss ps, X ss ps → er = 0 ∧ rsW ss ps = 0 ∧ IntsOk ps ∧ S.data.toList.drop q = ptL ss ps
def GL (X : List ByteArray → List Pr → Prop) (S : ByteArray) (q : Nat) (er n : Int) (l : List ByteArray) (k : Nat) : Prop :=
  ∀ ss ps, X ss ps → er = 0 ∧ n = (ss.length : Int) ∧ l = ss.take k ∧ S.data.toList.drop q = lsL (ss.drop k) ++ (put ps.length ++ psL ps) ∧ rsW ss ps = 0 ∧ IntsOk ps
def GP (X : List ByteArray → List Pr → Prop) (S : ByteArray) (q : Nat) (er n : Int) (l : List ByteArray) (ps : List Pr) (j : Nat) : Prop :=
  ∀ ss0 ps0, X ss0 ps0 → er = 0 ∧ n = (ps0.length : Int) ∧ l = ss0 ∧ ps = ps0.take j ∧ S.data.toList.drop q = psL (ps0.drop j) ∧ rsW ss0 ps0 = 0 ∧ IntsOk ps0
theorem GL.start {X : List ByteArray → List Pr → Prop} {S : ByteArray} {q q1 : Nat} {er e1 n : Int} (h : StartP X S q er) (hn : Rd.num S q er 8 = (n, q1, e1)) : GL X S q1 e1 n [] 0 := by
  intro ss ps hx
  obtain ⟨rfl, h1, h2, h3⟩ := h ss ps hx
  obtain ⟨k1, _, _, _⟩ := rs_zero h1
  unfold ptL at h3
  rw [num_is S q ss.length 8 _ h3 (by omega) (by omega)] at hn
  simp only [Prod.mk.injEq] at hn
  obtain ⟨rfl, rfl, rfl⟩ := hn
  refine ⟨rfl, rfl, rfl, ?_, h1, h2⟩
  rw [← List.drop_drop, h3, List.drop_left, List.drop_zero]
theorem lsL_at (ss : List ByteArray) (k : Nat) (h : k < ss.length) : lsL (ss.drop k) = tL ss[k] ++ lsL (ss.drop (k + 1)) := by
  rw [List.drop_eq_getElem_cons h]; unfold lsL; rw [List.flatMap_cons]
theorem psL_at (ps : List Pr) (k : Nat) (h : k < ps.length) : psL (ps.drop k) = pL ps[k] ++ psL (ps.drop (k + 1)) := by
  rw [List.drop_eq_getElem_cons h]; unfold psL; rw [List.flatMap_cons]
theorem take_sn {α : Type} (l : List α) (k : Nat) (h : k < l.length) : l.take (k + 1) = l.take k ++ [l[k]] := List.take_succ_eq_append_getElem h
theorem GL.step {X : List ByteArray → List Pr → Prop} {S : ByteArray} {q q' : Nat} {er e' n most : Int} {l : List ByteArray} {k : Nat} {s : ByteArray} (h : GL X S q er n l k) (hk : (k : Int) < n) (hm : 12 ≤ most) (ht : Rd.text S q er most = (s, q', e')) : GL X S q' e' n (l ++ [s]) (k + 1) := by
  intro ss ps hx
  obtain ⟨rfl, rfl, rfl, hd, h1, h2⟩ := h ss ps hx
  have hkl : k < ss.length := by omega
  obtain ⟨_, k2, _, _⟩ := rs_zero h1
  have hsm := nm_small ((row0_ok ss k2).1 ss[k] (List.getElem_mem hkl))
  rw [lsL_at ss k hkl] at hd
  unfold tL at hd
  rw [List.append_assoc, List.append_assoc] at hd
  rw [text_is S q most ss[k] _ hd (by omega) (by omega)] at ht
  simp only [Prod.mk.injEq] at ht
  obtain ⟨rfl, rfl, rfl⟩ := ht
  refine ⟨rfl, rfl, (take_sn ss k hkl).symm, ?_, h1, h2⟩
  rw [← List.drop_drop, ← List.drop_drop, hd, List.drop_left, ← ba_len ss[k], List.drop_left]
theorem GP.start {X : List ByteArray → List Pr → Prop} {S : ByteArray} {q q1 : Nat} {er e1 n n1 : Int} {l : List ByteArray} {k : Nat} (h : GL X S q er n l k) (hk : ¬ (k : Int) < n) (hn : Rd.num S q er 8 = (n1, q1, e1)) : GP X S q1 e1 n1 l [] 0 := by
  intro ss ps hx
  obtain ⟨rfl, rfl, rfl, hd, h1, h2⟩ := h ss ps hx
  obtain ⟨_, _, k3, _⟩ := rs_zero h1
  rw [List.drop_eq_nil_of_le (show ss.length ≤ k by omega)] at hd
  have hd : S.data.toList.drop q = put ps.length ++ psL ps := hd
  rw [num_is S q ps.length 8 _ hd (by omega) (by omega)] at hn
  simp only [Prod.mk.injEq] at hn
  obtain ⟨rfl, rfl, rfl⟩ := hn
  refine ⟨rfl, rfl, List.take_of_length_le (by omega), rfl, ?_, h1, h2⟩
  rw [← List.drop_drop, hd, List.drop_left, List.drop_zero]
theorem GP.step {X : List ByteArray → List Pr → Prop} {S : ByteArray} {q q1 : Nat} {er e1 n most : Int} {l : List ByteArray} {ps : List Pr} {j : Nat} {s : ByteArray} (h : GP X S q er n l ps j) (hj : (j : Int) < n) (hm : 12 ≤ most) (ht : Rd.text S q er most = (s, q1, e1)) :
    GP X S (rvM S q1 e1).2.2.2.1 (rvE S q1 e1) n l (ps ++ [(s, rvV S q1 e1)]) (j + 1) := by
  intro ss0 ps0 hx
  obtain ⟨rfl, rfl, rfl, rfl, hd, h1, h2⟩ := h ss0 ps0 hx
  have hjl : j < ps0.length := by omega
  obtain ⟨_, _, _, k4⟩ := rs_zero h1
  have hok := prE_zero _ ps0 k4 ps0[j] (List.getElem_mem hjl)
  have hin := h2 ps0[j] (List.getElem_mem hjl)
  unfold okP at hok
  rw [Bool.and_eq_true] at hok
  have hsm := nm_small hok.1
  rw [psL_at ps0 j hjl] at hd
  unfold pL tL at hd
  rw [List.append_assoc, List.append_assoc] at hd
  rw [text_is S q most ps0[j].1 _ hd (by omega) (by omega)] at ht
  simp only [Prod.mk.injEq] at ht
  obtain ⟨rfl, rfl, rfl⟩ := ht
  have hd2 : S.data.toList.drop (q + (put ps0[j].1.size).length + ps0[j].1.size) = (vput ps0[j].2.1 ps0[j].2.2.1 ps0[j].2.2.2).data.toList ++ psL (ps0.drop (j + 1)) := by
    rw [← List.drop_drop, ← List.drop_drop, hd, List.drop_left, ← ba_len ps0[j].1, List.drop_left]
  obtain ⟨r1, r2, r3⟩ := rv_at hd2 hok.2 hin.1 hin.2
  refine ⟨r1, rfl, rfl, ?_, r3, h1, h2⟩
  rw [r2, take_sn ps0 j hjl]
theorem GP.done {X : List ByteArray → List Pr → Prop} {S : ByteArray} {q : Nat} {er n : Int} {l : List ByteArray} {ps : List Pr} {j : Nat} (h : GP X S q er n l ps j) (hj : ¬ (j : Int) < n) {ss0 : List ByteArray} {ps0 : List Pr} (hx : X ss0 ps0) : er = 0 ∧ l = ss0 ∧ ps = ps0 := by
  obtain ⟨h1, rfl, h3, rfl, _⟩ := h ss0 ps0 hx
  exact ⟨h1, h3, List.take_of_length_le (by omega)⟩
/-- the text of a node, of an edge -/
def IsN (i S : ByteArray) (ss : List ByteArray) (ps : List Pr) : Prop := ndW i ss ps = 0 ∧ IntsOk ps ∧ ptS ss ps = S
def IsE (i S f g : ByteArray) (ss : List ByteArray) (ps : List Pr) : Prop := edW i f g ss ps = 0 ∧ IntsOk ps ∧ (tS f ++ tS g) ++ ptS ss ps = S
theorem IsN.start (i S : ByteArray) : StartP (IsN i S) S 0 0 := fun ss ps h => ⟨rfl, (nd_zero h.1).2, h.2.1, by rw [List.drop_zero, ← h.2.2, ptS_list]⟩
/-- an edge's two nodes are read as they were put -/
theorem IsE.front {i S f g : ByteArray} {ss : List ByteArray} {ps : List Pr} (h : IsE i S f g ss ps) {m1 m2 : Int} (hm1 : 12 ≤ m1) (hm2 : 12 ≤ m2) {f' g' : ByteArray} {q1 q2 : Nat} {e1 e2 : Int} (h1 : Rd.text S 0 0 m1 = (f', q1, e1)) (h2 : Rd.text S q1 e1 m2 = (g', q2, e2)) :
    f' = f ∧ g' = g ∧ e2 = 0 ∧ rsW ss ps = 0 ∧ IntsOk ps ∧ S.data.toList.drop q2 = ptL ss ps := by
  obtain ⟨_, n1, n2, h4⟩ := ed_zero h.1
  have s1 := nm_small n1
  have s2 := nm_small n2
  have hd : S.data.toList.drop 0 = put f.size ++ (f.data.toList ++ (put g.size ++ (g.data.toList ++ ptL ss ps))) := by
    rw [List.drop_zero, ← h.2.2, ba_app, ba_app, tS_list, tS_list, ptS_list]
    unfold tL
    simp only [List.append_assoc]
  rw [text_is S 0 m1 f _ hd (by omega) (by omega)] at h1
  simp only [Prod.mk.injEq] at h1
  obtain ⟨rfl, rfl, rfl⟩ := h1
  have hd2 : S.data.toList.drop (0 + (put f.size).length + f.size) = put g.size ++ (g.data.toList ++ ptL ss ps) := by
    rw [← List.drop_drop, ← List.drop_drop, hd, List.drop_left, ← ba_len f, List.drop_left]
  rw [text_is S _ m2 g _ hd2 (by omega) (by omega)] at h2
  simp only [Prod.mk.injEq] at h2
  obtain ⟨rfl, rfl, rfl⟩ := h2
  refine ⟨rfl, rfl, rfl, h4, h.2.1, ?_⟩
  rw [← List.drop_drop, ← List.drop_drop, hd2, List.drop_left, ← ba_len g, List.drop_left]
end Go.Proofs.Ytdjjabjegmbmaaa

namespace Go.Proofs.Ytdjjabjegmbmaaa
open Go.RowKit Vi Zp

def stC (s : ByteArray) : List Value := [.string s]
theorem stC_len (s : ByteArray) : (stC s).length = 1 := rfl
theorem stC_one (p : ByteArray) : ∀ u ∈ stC p, u.oneCell' = true := by
  intro u hu
  simp [stC] at hu
  subst hu; rfl
theorem info_prA : (Try.prog.info? 140).map (fun i => (i.zero, i.size, i.bytes)) = some (some (.agg #[.string ⟨#[]⟩, .int .i64 0, .int .i64 0, .string ⟨#[]⟩]), 4, 48) := by kernel_rfl
theorem info_stA : (Try.prog.info? 9).map (fun i => (i.zero, i.size, i.bytes)) = some (some (.string ⟨#[]⟩), 1, 16) := by kernel_rfl
theorem But.kk {B : Nat} {w wr W : World} (h : But B w wr) (k : KK [B] wr W) : But B w W :=
  ⟨k.os.trans h.os, k.tape.trans h.tape, k.output.trans h.output, Nat.le_trans h.size k.size, fun i hi hne => (k.block i (Nat.lt_of_lt_of_le hi h.size) (fun hm => by
    have e : i = B := by simpa using hm
    subst e
    exact hne rfl)).trans (h.block i hi hne)⟩
theorem But.rows {B n : Nat} {w W W7 : World} (h : But B w W) (b : Below n W W7) (hn : w.heap.size ≤ n) : But B w W7 :=
  ⟨b.os.trans h.os, b.tape.trans h.tape, b.output.trans h.output, Nat.le_trans h.size b.size, fun i hi hne => (b.block i (Nat.lt_of_lt_of_le hi hn)).trans (h.block i hi hne)⟩
/-- labels and properties that were read -/
structure RdOk (w' : World) (base : Nat) (vL vP : Value) (l : List ByteArray) (ps : List Pr) : Prop where
  rl : OwX stC 1 9 w' base vL l
  rp : OwX prC 4 140 w' base vP ps
  nl : l.length ≤ 8
  np : ps.length ≤ 8
  sl : ∀ s ∈ l, s.size ≤ 1000000
  sp : ∀ p ∈ ps, p.1.size ≤ 1000000
  i : IntsOk ps
def ReadP (X : List ByteArray → List Pr → Prop) (B : Nat) (w : World) (e : Ending) (w' : World) : Prop :=
  ∃ (l : List ByteArray) (ps : List Pr) (vL vP : Value), e = .returned (.tuple #[vL, vP]) ∧ RdOk w' w.heap.size vL vP l ps ∧ (∀ ss0 ps0, X ss0 ps0 → l = ss0 ∧ ps = ps0) ∧ But B w w'
set_option maxHeartbeats 8000000 in
set_option maxRecDepth 100000 in
theorem cread_any (X : List ByteArray → List Pr → Prop) (S : ByteArray) (q0 : Nat) (er0 : Int) (B : Nat) (w : World) (hS : S.size ≤ 999999) (hq0 : q0 ≤ S.size) (hsc : Sc w B true S q0 er0) (hX : StartP X S q0 er0) :
    Calls Try.prog 98 #[.pointer (some ⟨B, 0, none⟩)] w (ReadP X B w) := by
  have hSm : S.size ≤ 1000000 := by omega
  obtain ⟨n, q1, e1, hN⟩ : ∃ a0 a1 a2, Rd.num S q0 er0 8 = (a0, a1, a2) := ⟨_, _, _, rfl⟩
  have hq1 := Rd.num_le S q0 er0 8 hq0
  have H1 := Lib.hid (fun (W : World) (g : Sc W B true S q0 er0) => numU W B S q0 er0 8 hSm hq0 g (by omega))
  have hn8 : 0 ≤ n ∧ n ≤ 8 := by have := num_mx S q0 er0 8 (by omega); rw [hN] at this; exact this
  obtain ⟨hn0, hn8⟩ := hn8
  rw [hN] at hq1 H1
  dsimp only at hq1 H1
  have HG := Lib.hid (GL.start hX hN)
  have hBw : B < w.heap.size := hsc.lt
  have HS := Lib.hid hsc
  have HB0 := Lib.hid (But.refl B w)
  have HX : Hid True := Lib.hid trivial
  clear hsc hX hN HX
  have HK1 := Lib.hid (KK.refl [B] w)
  go_enter Try.func98, Try.ntmps98
  go_wp2_with fail
  refine (H1.out w HS.out).mono ?_
  rintro e w1 ⟨rfl, hs, hk⟩
  have HK2 := Lib.hid (HK1.out.trans (KK.of_but hk (by simp)))
  have HS3 := Lib.hid (hs)
  clear hs hk HK1 HS 
  have hk4 := HK2.out.size
  have HB1 := Lib.hid (HB0.out.kk HK2.out)
  go_wp2_with fail
  go_loopw [4, 8] (fun vv i wr => ∃ (k q : Nat) (er : Int) (l : List ByteArray) (v : Value), v = vv ∧ i = .int .i64 (k : Int) ∧ (k : Int) ≤ n ∧ Sc wr B true S q er ∧ q ≤ S.size ∧ OwX stC 1 9 wr w.heap.size v l ∧ l.length = k ∧ (∀ s ∈ l, s.size ≤ 1000000) ∧ GL X S q er n l k ∧ But B w wr) (fun _ i _ => 8 - (intOf i).toNat)
  case atStart => exact ⟨0, q1, e1, [], _, rfl, rfl, by omega, HS3.out, hq1, OwX.nil _, rfl, (by intro s hs; cases hs), HG.out, HB1.out⟩
  case round =>
    obtain ⟨k, q, er, l, v, rfl, rfl, hkn, hsc, hq, how, hle, hsz, hgl, hb⟩ := hrel
    have HS0 := Lib.hid hsc
    have HE := Lib.hid how
    have HLE := Lib.hid hle
    have HSZ := Lib.hid hsz
    have HGL := Lib.hid hgl
    have HB := Lib.hid hb
    have hle2 : l.length ≤ k := by omega
    have hMB : ∀ b ∈ [B], b < w.heap.size := fun b hb => by
      have e : b = B := by simpa using hb
      rw [e]; exact hBw
    have HMB := Lib.hid hMB
    have hvE := how.one
    clear hsc how hle hsz hgl hb hMB
    by_cases hlt : (k : Int) < n
    · have hd1 : decide ((k : Int) < n) = true := decide_eq_true hlt
      obtain ⟨s, q4, e4, hT⟩ : ∃ a0 a1 a2, Rd.text S q er 12 = (a0, a1, a2) := ⟨_, _, _, rfl⟩
      have hq4 := Rd.text_le S q er 12 hq
      have hss := text_size S q er 12
      have HT := Lib.hid (fun (W : World) (g : Sc W B true S q er) => textU W B S q er 12 hSm hq g (by omega))
      rw [hT] at hq4 HT hss
      dsimp only at hq4 HT hss
      have HG2 := Lib.hid (HGL.out.step hlt (by omega) hT)
      have HSZ2 := Lib.hid (show ∀ x ∈ l ++ [s], x.size ≤ 1000000 by
        intro x hx
        rcases List.mem_append.1 hx with hx | hx
        · exact HSZ.out x hx
        · have e : x = s := by simpa using hx
          rw [e]; omega)
      clear hT hss
      have HK301 := Lib.hid (KK.refl [B] wr)
      go_wp2_with fail
      refine (HT.out wr HS0.out).mono ?_
      rintro e w21 ⟨rfl, hs, hk⟩
      have HK302 := Lib.hid (HK301.out.trans (KK.of_but hk (by simp)))
      have HS303 := Lib.hid (hs)
      clear hs hk HK301 HS0 
      have hk304 := HK302.out.size
      have HEa := Lib.hid (HE.out.kk HK302.out HMB.out)
      have HBt := Lib.hid (HB.out.kk HK302.out)
      have hz1 := HBt.out.size
      have HRa := Lib.hid (Below.refl w.heap.size w21)
      go_wp2_with (at_builtin; refine wpList_appX rfl (.tmp 10) (.tmp 13) 45 9 _ 16 rfl Try.underlying45 info_stA rfl (by omega) (by omega) stC_len stC_one w.heap.size w21 (HRa.out.alloc hz1 _) (by simp; omega) v l rfl (HEa.out.alloc _) w21.heap.size 1 s #[.string s] 9 (0, 0) rfl (heap_alloc_new w21 _) rfl (by omega) ?_)
      intro v7 w7 HO7 HB7 HZ7 HG7
      have HS7 := Lib.hid (HS303.out.kept (HB7.out.block B hBw))
      have HBB7 := Lib.hid (HBt.out.rows HB7.out (Nat.le_refl _))
      have hv7 := HO7.out.one
      go_wp2_with fail
      go_roundw
      case rel => exact ⟨k + 1, q4, e4, l ++ [s], _, rfl, by go_num, by omega, HS7.out, hq4, HO7.out, by rw [List.length_append, HLE.out]; rfl, HSZ2.out, HG2.out, HBB7.out⟩
      case measure => simp [intOf] <;> omega
    · have hd1 : decide ((k : Int) < n) = false := decide_eq_false hlt
      obtain ⟨n2, q5, e5, hN2⟩ : ∃ a0 a1 a2, Rd.num S q er 8 = (a0, a1, a2) := ⟨_, _, _, rfl⟩
      have hq5 := Rd.num_le S q er 8 hq
      have H2 := Lib.hid (fun (W : World) (g : Sc W B true S q er) => numU W B S q er 8 hSm hq g (by omega))
      have hm8 : 0 ≤ n2 ∧ n2 ≤ 8 := by have := num_mx S q er 8 (by omega); rw [hN2] at this; exact this
      obtain ⟨hm0, hm8⟩ := hm8
      rw [hN2] at hq5 H2
      dsimp only at hq5 H2
      have HGP := Lib.hid (GP.start HGL.out hlt hN2)
      have hl8 : l.length ≤ 8 := by omega
      clear hN2
      have HK301 := Lib.hid (KK.refl [B] wr)
      go_wp2_with fail
      refine (H2.out wr HS0.out).mono ?_
      rintro e w21 ⟨rfl, hs, hk⟩
      have HK302 := Lib.hid (HK301.out.trans (KK.of_but hk (by simp)))
      have HS303 := Lib.hid (hs)
      clear hs hk HK301 HS0 
      have hk304 := HK302.out.size
      have HEa := Lib.hid (HE.out.kk HK302.out HMB.out)
      have HBt := Lib.hid (HB.out.kk HK302.out)
      go_wp2_with fail
      clear hd1
      go_loopw [5, 18] (fun vv i wr => ∃ (j q : Nat) (er : Int) (ps : List Pr) (v2 : Value), v2 = vv ∧ i = .int .i64 (j : Int) ∧ (j : Int) ≤ n2 ∧ Sc wr B true S q er ∧ q ≤ S.size ∧ OwX stC 1 9 wr w.heap.size v l ∧ OwX prC 4 140 wr w.heap.size v2 ps ∧ ps.length = j ∧ (∀ p ∈ ps, p.1.size ≤ 1000000) ∧ IntsOk ps ∧ GP X S q er n2 l ps j ∧ But B w wr) (fun _ i _ => 8 - (intOf i).toNat)
      case atStart => exact ⟨0, q5, e5, [], _, rfl, rfl, by omega, HS303.out, hq5, HEa.out, OwX.nil _, rfl, (by intro s hs; cases hs), (by intro s hs; cases hs), HGP.out, HBt.out⟩
      case round =>
        obtain ⟨j, q6, er6, ps, v2, rfl, rfl, hjn, hsc, hq6, how, hop, hle, hsz, hin, hgp, hb⟩ := hrel
        have HS2 := Lib.hid hsc
        have HE2 := Lib.hid how
        have HP2 := Lib.hid hop
        have HLE2 := Lib.hid hle
        have HSP := Lib.hid hsz
        have HIN := Lib.hid hin
        have HGP2 := Lib.hid hgp
        have HB2 := Lib.hid hb
        have hle3 : ps.length ≤ j := by omega
        have hvP := hop.one
        clear hsc how hop hle hsz hin hgp hb
        by_cases hlt2 : (j : Int) < n2
        · have hd1 : decide ((j : Int) < n2) = true := decide_eq_true hlt2
          obtain ⟨s, q7, e7, hT⟩ : ∃ a0 a1 a2, Rd.text S q6 er6 12 = (a0, a1, a2) := ⟨_, _, _, rfl⟩
          have hq7 := Rd.text_le S q6 er6 12 hq6
          have hss := text_size S q6 er6 12
          have HT := Lib.hid (fun (W : World) (g : Sc W B true S q6 er6) => textU W B S q6 er6 12 hSm hq6 g (by omega))
          rw [hT] at hq7 HT hss
          dsimp only at hq7 HT hss
          have HG2 := Lib.hid (HGP2.out.step hlt2 (by omega) hT)
          have hbd := rvV_bd S q7 e7
          have hq8 := rvM_le S q7 e7 hq7
          have HVR := Lib.hid (fun (W : World) (g : Sc W B true S q7 e7) => vread_any W B S q7 e7 hSm hq7 g)
          obtain ⟨a, d, t, hV⟩ : ∃ a d t, rvV S q7 e7 = (a, d, t) := ⟨_, _, _, rfl⟩
          obtain ⟨q8, hq8e⟩ : ∃ x, x = (rvM S q7 e7).2.2.2.1 := ⟨_, rfl⟩
          obtain ⟨e8, he8e⟩ : ∃ x, x = rvE S q7 e7 := ⟨_, rfl⟩
          rw [hV, ← hq8e, ← he8e] at HVR HG2
          rw [hV] at hbd
          rw [← hq8e] at hq8
          have HV : Hid (∀ (W : World) (_ : Sc W B true S q7 e7), Calls Try.prog 149 #[.pointer (some ⟨B, 0, none⟩)] W fun e w' => e = .returned (.agg #[.int .i64 a, .int .i64 d, .string t]) ∧ Sc w' B true S q8 e8 ∧ But B W w') := Lib.hid (fun W g => HVR.out W g)
          have hbd : -9223372036854775808 ≤ d ∧ d ≤ 9223372036854775807 ∧ t.size ≤ S.size := hbd
          obtain ⟨b1, b2, b3⟩ := hbd
          have HSP2 := Lib.hid (show ∀ x ∈ ps ++ [(s, a, d, t)], x.1.size ≤ 1000000 by
            intro x hx
            rcases List.mem_append.1 hx with hx | hx
            · exact HSP.out x hx
            · have e : x = (s, a, d, t) := by simpa using hx
              rw [e]; show s.size ≤ 1000000; omega)
          have HIN2 := Lib.hid (show IntsOk (ps ++ [(s, a, d, t)]) by
            intro x hx
            rcases List.mem_append.1 hx with hx | hx
            · exact HIN.out x hx
            · have e : x = (s, a, d, t) := by simpa using hx
              rw [e]; exact ⟨b1, b2⟩)
          clear hT hss hV hq8e he8e HVR b1 b2 b3
          have HK501 := Lib.hid (KK.refl [B] wr)
          go_wp2_with fail
          refine (HT.out wr HS2.out).mono ?_
          rintro e w31 ⟨rfl, hs, hk⟩
          have HK502 := Lib.hid (HK501.out.trans (KK.of_but hk (by simp)))
          have HS503 := Lib.hid (hs)
          clear hs hk HK501 HS2 
          have hk504 := HK502.out.size
          go_wp2_with fail
          refine (HV.out w31 HS503.out).mono ?_
          rintro e w32 ⟨rfl, hs, hk⟩
          have HK505 := Lib.hid (HK502.out.trans (KK.of_but hk (by simp)))
          have HS506 := Lib.hid (hs)
          clear hs hk HK502 HS503 
          have hk507 := HK505.out.size
          have HEa2 := Lib.hid (HE2.out.kk HK505.out HMB.out)
          have HPa2 := Lib.hid (HP2.out.kk HK505.out HMB.out)
          have HBt2 := Lib.hid (HB2.out.kk HK505.out)
          have hz1 := HBt2.out.size
          have HRa := Lib.hid (Below.refl w.heap.size w32)
          go_wp2_with (at_builtin; refine wpList_appX rfl (.tmp 20) (.tmp 26) 46 140 _ 48 rfl Try.underlying46 info_prA rfl (by omega) (by omega) prC_len prC_one w.heap.size w32 (HRa.out.alloc hz1 _) (by simp; omega) v2 ps rfl (HPa2.out.alloc _) w32.heap.size 1 (s, a, d, t) #[.string s, .int .i64 a, .int .i64 d, .string t] 140 (0, 0) rfl (heap_alloc_new w32 _) rfl (by omega) ?_)
          intro v7 w7 HO7 HB7 HZ7 HG7
          have HS7 := Lib.hid (HS506.out.kept (HB7.out.block B hBw))
          have HBB7 := Lib.hid (HBt2.out.rows HB7.out (Nat.le_refl _))
          have HI7 := Lib.hid ((HEa2.out.alloc _).other (HPa2.out.alloc _) (by decide) HG7.out)
          have hv7 := HO7.out.one
          go_wp2_with fail
          go_roundw
          case rel => exact ⟨j + 1, q8, e8, ps ++ [(s, a, d, t)], _, rfl, by go_num, by omega, HS7.out, hq8, HI7.out, HO7.out, by rw [List.length_append, HLE2.out]; rfl, HSP2.out, HIN2.out, HG2.out, HBB7.out⟩
          case measure => simp [intOf] <;> omega
        · have hd1 : decide ((j : Int) < n2) = false := decide_eq_false hlt2
          have HD := Lib.hid (fun ss0 ps0 (hx : X ss0 ps0) => (HGP2.out.done hlt2 hx).2)
          go_wp2_with fail
          go_ret2
          exact ⟨l, ps, v, v2, rfl, ⟨HE2.out, HP2.out, hl8, by omega, HSZ.out, HSP.out, HIN.out⟩, HD.out, HB2.out⟩
end Go.Proofs.Ytdjjabjegmbmaaa

namespace Go.Proofs.Ytdjjabjegmbmaaa
open Go.RowKit Vi Zp

theorem info_scA (a b c : Value) : (Try.prog.info? 130).map (·.size) = some (#[a, b, c] : Array Value).size := by kernel_rfl
theorem one_scA (S : ByteArray) (x y : Int) : (#[.string S, .int .i64 x, .int .i64 y] : Array Value).all (·.oneCell') = true := by simp [Value.oneCell']
theorem info_vaA (a b c : Value) : (Try.prog.info? 78).map (·.size) = some (#[a, b, c] : Array Value).size := by kernel_rfl
theorem rnumA (S : ByteArray) (q : Nat) (er n : Int) (v : Int) (q' : Nat) (e' : Int) (w : World) (hS : S.size ≤ 1000000) (hq : q ≤ S.size) (h0 : 0 ≤ n) (h1 : n ≤ 4294967296) (h : Rd.num S q er n = (v, q', e')) :
    Calls Try.prog 80 #[.agg #[.string S, .int .i64 (q : Int), .int .i64 er], .int .i64 n] w fun e w' => e = .returned (.tuple #[.agg #[.string S, .int .i64 (q' : Int), .int .i64 e'], .int .i64 v]) ∧ Below w.heap.size w w' := by
  have h1 := rNum_any S q er n w hS hq (by omega) (by omega)
  rw [h] at h1
  exact h1
theorem rtextA (S : ByteArray) (q : Nat) (er n : Int) (v : ByteArray) (q' : Nat) (e' : Int) (w : World) (hS : S.size ≤ 1000000) (hq : q ≤ S.size) (h0 : 0 ≤ n) (h1 : n ≤ 4294967296) (h : Rd.text S q er n = (v, q', e')) :
    Calls Try.prog 81 #[.agg #[.string S, .int .i64 (q : Int), .int .i64 er], .int .i64 n] w fun e w' => e = .returned (.tuple #[.agg #[.string S, .int .i64 (q' : Int), .int .i64 e'], .string v]) ∧ Below w.heap.size w w' := by
  have h1 := rText_any S q er n w hS hq (by omega) (by omega)
  rw [h] at h1
  exact h1
def ReadR (X : List ByteArray → List Pr → Prop) (S : ByteArray) (w : World) (e : Ending) (w' : World) : Prop :=
  ∃ (l : List ByteArray) (ps : List Pr) (vL vP : Value) (q : Nat) (er : Int), e = .returned (.tuple #[.agg #[.string S, .int .i64 (q : Int), .int .i64 er], vL, vP]) ∧ RdOk w' w.heap.size vL vP l ps ∧ (∀ ss0 ps0, X ss0 ps0 → er = 0 ∧ l = ss0 ∧ ps = ps0) ∧ Below w.heap.size w w'
theorem results_cvv {fn : Func} {p t u : Tmp} {ty : TypeId} (h : fn.results = #[.cell p ty, .tmp t, .tmp u]) (tmps : Array Value) (w : World) (g : Nat) (cs : Array Value)
    (hp : tmps.getD p undef = .pointer (some ⟨g, 0, none⟩)) (hr : (loadVar ty ⟨g, 0, none⟩).run Try.prog w = .ok (.agg cs) w) :
    (results fn tmps).run Try.prog w = .ok (.tuple #[.agg cs, tmps.getD t undef, tmps.getD u undef]) w := by
  have hp' : tmps[p]?.getD undef = .pointer (some ⟨g, 0, none⟩) := by simpa using hp
  simp [results, h, hp', asAddr, hr]
set_option maxHeartbeats 8000000 in
set_option maxRecDepth 100000 in
theorem rread_any (X : List ByteArray → List Pr → Prop) (S : ByteArray) (q0 : Nat) (er0 : Int) (w : World) (hS : S.size ≤ 999999) (hq0 : q0 ≤ S.size) (hX : StartP X S q0 er0) :
    Calls Try.prog 100 #[.agg #[.string S, .int .i64 (q0 : Int), .int .i64 er0]] w (ReadR X S w) := by
  have hSm : S.size ≤ 1000000 := by omega
  obtain ⟨n, q1, e1, hN⟩ : ∃ a0 a1 a2, Rd.num S q0 er0 8 = (a0, a1, a2) := ⟨_, _, _, rfl⟩
  have hq1 := Rd.num_le S q0 er0 8 hq0
  have H1 := Lib.hid (fun W : World => rnumA S q0 er0 8 n q1 e1 W hSm hq0 (by omega) (by omega) hN)
  have hn8 : 0 ≤ n ∧ n ≤ 8 := by have := num_mx S q0 er0 8 (by omega); rw [hN] at this; exact this
  obtain ⟨hn0, hn8⟩ := hn8
  rw [hN] at hq1
  dsimp only at hq1
  have HG := Lib.hid (GL.start hX hN)
  clear hX hN
  have HB1 := Lib.hid (Below.refl w.heap.size w)
  go_enter Try.func100, Try.ntmps100
  have HF2 := Lib.hid (blk_new w (.cells #[.string S, .int .i64 (q0 : Int), .int .i64 er0] 130 (0, 0)))
  have HB3 := Lib.hid (HB1.out.alloc HB1.out.size (.cells #[.string S, .int .i64 (q0 : Int), .int .i64 er0] 130 (0, 0)))
  clear HB1
  have HF4 := Lib.hid (blk_alloc HF2.out (.cells #[.string ⟨#[]⟩, .int .i64 0, .int .i64 0] 130 (0, 0)))
  clear HF2
  have HF5 : Hid (((w.alloc (.cells #[.string S, .int .i64 (q0 : Int), .int .i64 er0] 130 (0, 0))).alloc (.cells #[.string ⟨#[]⟩, .int .i64 0, .int .i64 0] 130 (0, 0))).heap[w.heap.size + 1]? = some (.cells #[.string ⟨#[]⟩, .int .i64 0, .int .i64 0] 130 (0, 0))) := Lib.hid (blk_newN (W := (w.alloc (.cells #[.string S, .int .i64 (q0 : Int), .int .i64 er0] 130 (0, 0)))) (o := (.cells #[.string ⟨#[]⟩, .int .i64 0, .int .i64 0] 130 (0, 0))) (by simp))
  have HB6 := Lib.hid (HB3.out.alloc (by have := HB3.out.size; simp at this ⊢ <;> omega) (.cells #[.string ⟨#[]⟩, .int .i64 0, .int .i64 0] 130 (0, 0)))
  clear HB3
  have hc7 : ((w.alloc (.cells #[.string S, .int .i64 (q0 : Int), .int .i64 er0] 130 (0, 0))).alloc (.cells #[.string ⟨#[]⟩, .int .i64 0, .int .i64 0] 130 (0, 0))).cell? ⟨w.heap.size, 0, none⟩ = some (.string S) := by rw [cell_of_row _ _ _ _ _ _ HF4.out]; rfl
  have hc8 : ((w.alloc (.cells #[.string S, .int .i64 (q0 : Int), .int .i64 er0] 130 (0, 0))).alloc (.cells #[.string ⟨#[]⟩, .int .i64 0, .int .i64 0] 130 (0, 0))).cell? ⟨w.heap.size, 1, none⟩ = some (.int .i64 (q0 : Int)) := by rw [cell_of_row _ _ _ _ _ _ HF4.out]; rfl
  have hc9 : ((w.alloc (.cells #[.string S, .int .i64 (q0 : Int), .int .i64 er0] 130 (0, 0))).alloc (.cells #[.string ⟨#[]⟩, .int .i64 0, .int .i64 0] 130 (0, 0))).cell? ⟨w.heap.size, 2, none⟩ = some (.int .i64 er0) := by rw [cell_of_row _ _ _ _ _ _ HF4.out]; rfl
  go_wp2_with fail
  clear hc7 hc8 hc9
  refine (H1.out ((w.alloc (.cells #[.string S, .int .i64 (q0 : Int), .int .i64 er0] 130 (0, 0))).alloc (.cells #[.string ⟨#[]⟩, .int .i64 0, .int .i64 0] 130 (0, 0)))).mono ?_
  rintro e w1 ⟨rfl, hb1⟩
  have HF10 := Lib.hid (blk_below HF4.out hb1)
  have HF11 := Lib.hid (blk_below HF5.out hb1)
  have HB12 := Lib.hid (HB6.out.trans (hb1.mono HB6.out.size))
  clear hb1 HB6 HF4 HF5
  have hk13 : w.heap.size < w1.heap.size := lt_of_block HF10.out
  have hk14 : w.heap.size + 1 < w1.heap.size := lt_of_block HF11.out
  go_wp2_with (first
    | refine wpList_store_rowY rfl 130 (.tmp 1) (.tmp 18) rfl (w.heap.size) #[.string S, .int .i64 (q1 : Int), .int .i64 e1] rfl rfl 130 _ HF10.out (info_scA _ _ _) rfl (one_scA _ _ _) w.heap.size w HB12.out (by omega) ?_)
  intro W2 hbk hoth hbel _
  have HF15 := Lib.hid hbk.out
  have HF16 := Lib.hid (blk_oth HF11.out hoth.out (by omega))
  have HB17 := Lib.hid hbel.out
  clear hbk hoth hbel HB12  HF10 HF11
  have hk18 : w.heap.size < W2.heap.size := lt_of_block HF15.out
  have hk19 : w.heap.size + 1 < W2.heap.size := lt_of_block HF16.out
  go_wp2_with fail
  go_loopw [5, 8] (fun vv i wr => ∃ (k q : Nat) (er : Int) (l : List ByteArray) (v : Value), v = vv ∧ i = .int .i64 (k : Int) ∧ (k : Int) ≤ n ∧ wr.heap[w.heap.size]? = some (.cells #[.string S, .int .i64 (q : Int), .int .i64 er] 130 (0, 0)) ∧ wr.heap[w.heap.size + 1]? = some (.cells #[.string ⟨#[]⟩, .int .i64 0, .int .i64 0] 130 (0, 0)) ∧ q ≤ S.size ∧ OwX stC 1 9 wr (w.heap.size + 2) v l ∧ l.length = k ∧ (∀ s ∈ l, s.size ≤ 1000000) ∧ GL X S q er n l k ∧ Below w.heap.size w wr) (fun _ i _ => 8 - (intOf i).toNat)
  case atStart => exact ⟨0, q1, e1, [], _, rfl, rfl, by omega, HF15.out, HF16.out, hq1, OwX.nil _, rfl, (by intro s hs; cases hs), HG.out, HB17.out⟩
  case round =>
    obtain ⟨k, q, er, l, v, rfl, rfl, hkn, hbr, hbv, hq, how, hle, hsz, hgl, hb⟩ := hrel
    have HR := Lib.hid hbr
    have HRV := Lib.hid hbv
    have HE := Lib.hid how
    have HLE := Lib.hid hle
    have HSZ := Lib.hid hsz
    have HGL := Lib.hid hgl
    have HB := Lib.hid hb
    have hle2 : l.length ≤ k := by omega
    have HMB := Lib.hid (show ∀ b ∈ [w.heap.size], b < w.heap.size + 2 from fun b hb => by
      have e : b = w.heap.size := by simpa using hb
      omega)
    have HML := Lib.hid (show ∀ b ∈ [w.heap.size], w.heap.size ≤ b from fun b hb => by
      have e : b = w.heap.size := by simpa using hb
      omega)
    have hRV := lt_of_block hbv
    have hvE := how.one
    clear hbr hbv how hle hsz hgl hb
    by_cases hlt : (k : Int) < n
    · have hd1 : decide ((k : Int) < n) = true := decide_eq_true hlt
      obtain ⟨s, q4, e4, hT⟩ : ∃ a0 a1 a2, Rd.text S q er 100 = (a0, a1, a2) := ⟨_, _, _, rfl⟩
      have hq4 := Rd.text_le S q er 100 hq
      have hss := text_size S q er 100
      have HT := Lib.hid (fun W : World => rtextA S q er 100 s q4 e4 W hSm hq (by omega) (by omega) hT)
      rw [hT] at hq4 hss
      dsimp only at hq4 hss
      have HG2 := Lib.hid (HGL.out.step hlt (by omega) hT)
      have HSZ2 := Lib.hid (show ∀ x ∈ l ++ [s], x.size ≤ 1000000 by
        intro x hx
        rcases List.mem_append.1 hx with hx | hx
        · exact HSZ.out x hx
        · have e : x = s := by simpa using hx
          rw [e]; omega)
      clear hT hss
      have HK301 := Lib.hid (KK.refl [w.heap.size] wr)
      have hk302 := HK301.out.size
      have hk303 : w.heap.size < wr.heap.size := lt_of_block HR.out
      have hk304 : w.heap.size + 1 < wr.heap.size := lt_of_block HRV.out
      have hc305 : wr.cell? ⟨w.heap.size, 0, none⟩ = some (.string S) := by rw [cell_of_row _ _ _ _ _ _ HR.out]; rfl
      have hc306 : wr.cell? ⟨w.heap.size, 1, none⟩ = some (.int .i64 (q : Int)) := by rw [cell_of_row _ _ _ _ _ _ HR.out]; rfl
      have hc307 : wr.cell? ⟨w.heap.size, 2, none⟩ = some (.int .i64 er) := by rw [cell_of_row _ _ _ _ _ _ HR.out]; rfl
      go_wp2_with fail
      clear hc305 hc306 hc307
      refine (HT.out wr).mono ?_
      rintro e w21 ⟨rfl, hb21⟩
      have HF308 := Lib.hid (blk_below HR.out hb21)
      have HF309 := Lib.hid (blk_below HRV.out hb21)
      have HK310 := Lib.hid (HK301.out.trans (KK.of_below hb21))
      clear hb21 HK301 HR HRV
      have hk311 := HK310.out.size
      have hk312 : w.heap.size < w21.heap.size := lt_of_block HF308.out
      have hk313 : w.heap.size + 1 < w21.heap.size := lt_of_block HF309.out
      have HF314 := Lib.hid (blk_alloc HF308.out (.cells #[.string S, .int .i64 (q4 : Int), .int .i64 e4] 130 (0, 0)))
      have HF315 := Lib.hid (blk_alloc HF309.out (.cells #[.string S, .int .i64 (q4 : Int), .int .i64 e4] 130 (0, 0)))
      have HF316 := Lib.hid (blk_new w21 (.cells #[.string S, .int .i64 (q4 : Int), .int .i64 e4] 130 (0, 0)))
      have HK317 := Lib.hid (HK310.out.alloc (.cells #[.string S, .int .i64 (q4 : Int), .int .i64 e4] 130 (0, 0)))
      clear HK310
      have hc318 : (w21.alloc (.cells #[.string S, .int .i64 (q4 : Int), .int .i64 e4] 130 (0, 0))).cell? ⟨w21.heap.size, 0, none⟩ = some (.string S) := by rw [cell_of_row _ _ _ _ _ _ HF316.out]; rfl
      have hc319 : (w21.alloc (.cells #[.string S, .int .i64 (q4 : Int), .int .i64 e4] 130 (0, 0))).cell? ⟨w21.heap.size, 1, none⟩ = some (.int .i64 (q4 : Int)) := by rw [cell_of_row _ _ _ _ _ _ HF316.out]; rfl
      have hc320 : (w21.alloc (.cells #[.string S, .int .i64 (q4 : Int), .int .i64 e4] 130 (0, 0))).cell? ⟨w21.heap.size, 2, none⟩ = some (.int .i64 e4) := by rw [cell_of_row _ _ _ _ _ _ HF316.out]; rfl
      go_wp2_with (first
        | refine wpList_store_rowY rfl 130 (.tmp 1) (.tmp 30) rfl (w.heap.size) #[.string S, .int .i64 (q4 : Int), .int .i64 e4] rfl rfl 130 _ HF314.out (info_scA _ _ _) rfl (one_scA _ _ _) (w.heap.size) (w21.alloc (.cells #[.string S, .int .i64 (q4 : Int), .int .i64 e4] 130 (0, 0))) (Below.refl _ _) (Nat.le_refl _) ?_)
      intro W22 hbk hoth hbel _
      clear hc318 hc319 hc320
      have HF321 := Lib.hid hbk.out
      have HF322 := Lib.hid (blk_oth HF315.out hoth.out (by omega))
      have HF323 := Lib.hid (blk_oth HF316.out hoth.out (by omega))
      have HK324 := Lib.hid (HK317.out.row (b := w.heap.size) (Or.inl (by simp)) hbel.out hoth.out)
      clear hbk hoth hbel HK317 HF314 HF315 HF316
      have hk325 := HK324.out.size
      have hk326 : w.heap.size < W22.heap.size := lt_of_block HF321.out
      have hk327 : w.heap.size + 1 < W22.heap.size := lt_of_block HF322.out
      have hk328 : w21.heap.size < W22.heap.size := lt_of_block HF323.out
      have HEa := Lib.hid (HE.out.kk HK324.out HMB.out)
      have HBt := Lib.hid (HK324.out.below HB.out HML.out HB.out.size)
      have hz1 : w.heap.size + 2 ≤ W22.heap.size := by have := lt_of_block HF322.out; omega
      have HRa := Lib.hid (Below.refl (w.heap.size + 2) W22)
      go_wp2_with (at_builtin; refine wpList_appX rfl (.tmp 31) (.tmp 33) 45 9 _ 16 rfl Try.underlying45 info_stA rfl (by omega) (by omega) stC_len stC_one (w.heap.size + 2) W22 (HRa.out.alloc hz1 _) (by simp; omega) v l rfl (HEa.out.alloc _) W22.heap.size 1 s #[.string s] 9 (0, 0) rfl (heap_alloc_new W22 _) rfl (by omega) ?_)
      intro v7 w7 HO7 HB7 HZ7 HG7
      have HR7 := Lib.hid ((HB7.out.block (w.heap.size) (by omega)).trans HF321.out)
      have HRV7 := Lib.hid ((HB7.out.block (w.heap.size + 1) (by omega)).trans HF322.out)
      have HL7 := Lib.hid (HBt.out.trans (HB7.out.mono (by omega)))
      have hv7 := HO7.out.one
      go_wp2_with fail
      go_roundw
      case rel => exact ⟨k + 1, q4, e4, l ++ [s], _, rfl, by go_num, by omega, HR7.out, HRV7.out, hq4, HO7.out, by rw [List.length_append, HLE.out]; rfl, HSZ2.out, HG2.out, HL7.out⟩
      case measure => simp [intOf] <;> omega
    · have hd1 : decide ((k : Int) < n) = false := decide_eq_false hlt
      obtain ⟨n2, q5, e5, hN2⟩ : ∃ a0 a1 a2, Rd.num S q er 8 = (a0, a1, a2) := ⟨_, _, _, rfl⟩
      have hq5 := Rd.num_le S q er 8 hq
      have H2 := Lib.hid (fun W : World => rnumA S q er 8 n2 q5 e5 W hSm hq (by omega) (by omega) hN2)
      have hm8 : 0 ≤ n2 ∧ n2 ≤ 8 := by have := num_mx S q er 8 (by omega); rw [hN2] at this; exact this
      obtain ⟨hm0, hm8⟩ := hm8
      rw [hN2] at hq5
      dsimp only at hq5
      have HGP := Lib.hid (GP.start HGL.out hlt hN2)
      have hl8 : l.length ≤ 8 := by omega
      clear hN2
      have HK301 := Lib.hid (KK.refl [w.heap.size] wr)
      have hk302 := HK301.out.size
      have hk303 : w.heap.size < wr.heap.size := lt_of_block HR.out
      have hk304 : w.heap.size + 1 < wr.heap.size := lt_of_block HRV.out
      have hc305 : wr.cell? ⟨w.heap.size, 0, none⟩ = some (.string S) := by rw [cell_of_row _ _ _ _ _ _ HR.out]; rfl
      have hc306 : wr.cell? ⟨w.heap.size, 1, none⟩ = some (.int .i64 (q : Int)) := by rw [cell_of_row _ _ _ _ _ _ HR.out]; rfl
      have hc307 : wr.cell? ⟨w.heap.size, 2, none⟩ = some (.int .i64 er) := by rw [cell_of_row _ _ _ _ _ _ HR.out]; rfl
      go_wp2_with fail
      clear hc305 hc306 hc307
      refine (H2.out wr).mono ?_
      rintro e w21 ⟨rfl, hb21⟩
      have HF308 := Lib.hid (blk_below HR.out hb21)
      have HF309 := Lib.hid (blk_below HRV.out hb21)
      have HK310 := Lib.hid (HK301.out.trans (KK.of_below hb21))
      clear hb21 HK301 HR HRV
      have hk311 := HK310.out.size
      have hk312 : w.heap.size < w21.heap.size := lt_of_block HF308.out
      have hk313 : w.heap.size + 1 < w21.heap.size := lt_of_block HF309.out
      go_wp2_with (first
        | refine wpList_store_rowY rfl 130 (.tmp 1) (.tmp 38) rfl (w.heap.size) #[.string S, .int .i64 (q5 : Int), .int .i64 e5] rfl rfl 130 _ HF308.out (info_scA _ _ _) rfl (one_scA _ _ _) (w.heap.size) w21 (Below.refl _ _) (Nat.le_refl _) ?_)
      intro W22 hbk hoth hbel _
      have HF314 := Lib.hid hbk.out
      have HF315 := Lib.hid (blk_oth HF309.out hoth.out (by omega))
      have HK316 := Lib.hid (HK310.out.row (b := w.heap.size) (Or.inl (by simp)) hbel.out hoth.out)
      clear hbk hoth hbel HK310 HF308 HF309
      have hk317 := HK316.out.size
      have hk318 : w.heap.size < W22.heap.size := lt_of_block HF314.out
      have hk319 : w.heap.size + 1 < W22.heap.size := lt_of_block HF315.out
      have HEa := Lib.hid (HE.out.kk HK316.out HMB.out)
      have HBt := Lib.hid (HK316.out.below HB.out HML.out HB.out.size)
      go_wp2_with fail
      clear hd1
      go_loopw [6, 11] (fun vv i wr => ∃ (j q : Nat) (er : Int) (ps : List Pr) (v2 : Value), v2 = vv ∧ i = .int .i64 (j : Int) ∧ (j : Int) ≤ n2 ∧ wr.heap[w.heap.size]? = some (.cells #[.string S, .int .i64 (q : Int), .int .i64 er] 130 (0, 0)) ∧ wr.heap[w.heap.size + 1]? = some (.cells #[.string ⟨#[]⟩, .int .i64 0, .int .i64 0] 130 (0, 0)) ∧ q ≤ S.size ∧ OwX stC 1 9 wr (w.heap.size + 2) v l ∧ OwX prC 4 140 wr (w.heap.size + 2) v2 ps ∧ ps.length = j ∧ (∀ p ∈ ps, p.1.size ≤ 1000000) ∧ IntsOk ps ∧ GP X S q er n2 l ps j ∧ Below w.heap.size w wr) (fun _ i _ => 8 - (intOf i).toNat)
      case atStart => exact ⟨0, q5, e5, [], _, rfl, rfl, by omega, HF314.out, HF315.out, hq5, HEa.out, OwX.nil _, rfl, (by intro s hs; cases hs), (by intro s hs; cases hs), HGP.out, HBt.out⟩
      case round =>
        obtain ⟨j, q6, er6, ps, v2, rfl, rfl, hjn, hbr, hbv, hq6, how, hop, hle, hsz, hin, hgp, hb⟩ := hrel
        have HR2 := Lib.hid hbr
        have HRV2 := Lib.hid hbv
        have HE2 := Lib.hid how
        have HP2 := Lib.hid hop
        have HLE2 := Lib.hid hle
        have HSP := Lib.hid hsz
        have HIN := Lib.hid hin
        have HGP2 := Lib.hid hgp
        have HB2 := Lib.hid hb
        have hle3 : ps.length ≤ j := by omega
        have hRV2 := lt_of_block hbv
        have hvP := hop.one
        clear hbr hbv how hop hle hsz hin hgp hb
        by_cases hlt2 : (j : Int) < n2
        · have hd1 : decide ((j : Int) < n2) = true := decide_eq_true hlt2
          obtain ⟨s, q7, e7, hT⟩ : ∃ a0 a1 a2, Rd.text S q6 er6 100 = (a0, a1, a2) := ⟨_, _, _, rfl⟩
          have hq7 := Rd.text_le S q6 er6 100 hq6
          have hss := text_size S q6 er6 100
          have HT := Lib.hid (fun W : World => rtextA S q6 er6 100 s q7 e7 W hSm hq6 (by omega) (by omega) hT)
          rw [hT] at hq7 hss
          dsimp only at hq7 hss
          have HG2 := Lib.hid (HGP2.out.step hlt2 (by omega) hT)
          have hbd := rvV_bd S q7 e7
          have hq8 := rvM_le S q7 e7 hq7
          have HVR := Lib.hid (fun W : World => rvread_any S q7 e7 W hSm hq7)
          obtain ⟨a, d, t, hV⟩ : ∃ a d t, rvV S q7 e7 = (a, d, t) := ⟨_, _, _, rfl⟩
          obtain ⟨q8, hq8e⟩ : ∃ x, x = (rvM S q7 e7).2.2.2.1 := ⟨_, rfl⟩
          obtain ⟨e8, he8e⟩ : ∃ x, x = rvE S q7 e7 := ⟨_, rfl⟩
          rw [hV, ← hq8e, ← he8e] at HVR HG2
          rw [hV] at hbd
          rw [← hq8e] at hq8
          have HV : Hid (∀ W : World, Calls Try.prog 150 #[.agg #[.string S, .int .i64 (q7 : Int), .int .i64 e7]] W fun e w' => e = .returned (.tuple #[.agg #[.string S, .int .i64 (q8 : Int), .int .i64 e8], .agg #[.int .i64 a, .int .i64 d, .string t]]) ∧ Below W.heap.size W w') := Lib.hid (fun W => HVR.out W)
          have hbd : -9223372036854775808 ≤ d ∧ d ≤ 9223372036854775807 ∧ t.size ≤ S.size := hbd
          obtain ⟨b1, b2, b3⟩ := hbd
          have HSP2 := Lib.hid (show ∀ x ∈ ps ++ [(s, a, d, t)], x.1.size ≤ 1000000 by
            intro x hx
            rcases List.mem_append.1 hx with hx | hx
            · exact HSP.out x hx
            · have e : x = (s, a, d, t) := by simpa using hx
              rw [e]; show s.size ≤ 1000000; omega)
          have HIN2 := Lib.hid (show IntsOk (ps ++ [(s, a, d, t)]) by
            intro x hx
            rcases List.mem_append.1 hx with hx | hx
            · exact HIN.out x hx
            · have e : x = (s, a, d, t) := by simpa using hx
              rw [e]; exact ⟨b1, b2⟩)
          clear hT hss hV hq8e he8e HVR b1 b2 b3
          have HK601 := Lib.hid (KK.refl [w.heap.size] wr)
          have hk602 := HK601.out.size
          have hk603 : w.heap.size < wr.heap.size := lt_of_block HR2.out
          have hk604 : w.heap.size + 1 < wr.heap.size := lt_of_block HRV2.out
          have hc605 : wr.cell? ⟨w.heap.size, 0, none⟩ = some (.string S) := by rw [cell_of_row _ _ _ _ _ _ HR2.out]; rfl
          have hc606 : wr.cell? ⟨w.heap.size, 1, none⟩ = some (.int .i64 (q6 : Int)) := by rw [cell_of_row _ _ _ _ _ _ HR2.out]; rfl
          have hc607 : wr.cell? ⟨w.heap.size, 2, none⟩ = some (.int .i64 er6) := by rw [cell_of_row _ _ _ _ _ _ HR2.out]; rfl
          go_wp2_with fail
          clear hc605 hc606 hc607
          refine (HT.out wr).mono ?_
          rintro e w31 ⟨rfl, hb31⟩
          have HF608 := Lib.hid (blk_below HR2.out hb31)
          have HF609 := Lib.hid (blk_below HRV2.out hb31)
          have HK610 := Lib.hid (HK601.out.trans (KK.of_below hb31))
          clear hb31 HK601 HR2 HRV2
          have hk611 := HK610.out.size
          have hk612 : w.heap.size < w31.heap.size := lt_of_block HF608.out
          have hk613 : w.heap.size + 1 < w31.heap.size := lt_of_block HF609.out
          have HF614 := Lib.hid (blk_alloc HF608.out (.cells #[.string S, .int .i64 (q7 : Int), .int .i64 e7] 130 (0, 0)))
          have HF615 := Lib.hid (blk_alloc HF609.out (.cells #[.string S, .int .i64 (q7 : Int), .int .i64 e7] 130 (0, 0)))
          have HF616 := Lib.hid (blk_new w31 (.cells #[.string S, .int .i64 (q7 : Int), .int .i64 e7] 130 (0, 0)))
          have HK617 := Lib.hid (HK610.out.alloc (.cells #[.string S, .int .i64 (q7 : Int), .int .i64 e7] 130 (0, 0)))
          clear HK610
          have hc618 : (w31.alloc (.cells #[.string S, .int .i64 (q7 : Int), .int .i64 e7] 130 (0, 0))).cell? ⟨w31.heap.size, 0, none⟩ = some (.string S) := by rw [cell_of_row _ _ _ _ _ _ HF616.out]; rfl
          have hc619 : (w31.alloc (.cells #[.string S, .int .i64 (q7 : Int), .int .i64 e7] 130 (0, 0))).cell? ⟨w31.heap.size, 1, none⟩ = some (.int .i64 (q7 : Int)) := by rw [cell_of_row _ _ _ _ _ _ HF616.out]; rfl
          have hc620 : (w31.alloc (.cells #[.string S, .int .i64 (q7 : Int), .int .i64 e7] 130 (0, 0))).cell? ⟨w31.heap.size, 2, none⟩ = some (.int .i64 e7) := by rw [cell_of_row _ _ _ _ _ _ HF616.out]; rfl
          go_wp2_with fail
          clear hc618 hc619 hc620
          refine (HV.out (w31.alloc (.cells #[.string S, .int .i64 (q7 : Int), .int .i64 e7] 130 (0, 0)))).mono ?_
          rintro e w32 ⟨rfl, hb32⟩
          have HF621 := Lib.hid (blk_below HF614.out hb32)
          have HF622 := Lib.hid (blk_below HF615.out hb32)
          have HF623 := Lib.hid (blk_below HF616.out hb32)
          have HK624 := Lib.hid (HK617.out.trans (KK.of_below hb32))
          clear hb32 HK617 HF614 HF608 HF615 HF609 HF616
          have hk625 := HK624.out.size
          have hk626 : w.heap.size < w32.heap.size := lt_of_block HF621.out
          have hk627 : w.heap.size + 1 < w32.heap.size := lt_of_block HF622.out
          have hk628 : w31.heap.size < w32.heap.size := lt_of_block HF623.out
          have HF629 := Lib.hid (blk_alloc HF621.out (.cells #[.int .i64 0, .int .i64 0, .string ⟨#[]⟩] 78 (0, 0)))
          have HF630 := Lib.hid (blk_alloc HF622.out (.cells #[.int .i64 0, .int .i64 0, .string ⟨#[]⟩] 78 (0, 0)))
          have HF631 := Lib.hid (blk_alloc HF623.out (.cells #[.int .i64 0, .int .i64 0, .string ⟨#[]⟩] 78 (0, 0)))
          have HF632 := Lib.hid (blk_new w32 (.cells #[.int .i64 0, .int .i64 0, .string ⟨#[]⟩] 78 (0, 0)))
          have HK633 := Lib.hid (HK624.out.alloc (.cells #[.int .i64 0, .int .i64 0, .string ⟨#[]⟩] 78 (0, 0)))
          clear HK624
          go_wp2_with (first
            | refine wpList_store_rowY rfl 130 (.tmp 12) (.tmp 53) rfl (w31.heap.size) #[.string S, .int .i64 (q8 : Int), .int .i64 e8] rfl rfl 130 _ HF631.out (info_scA _ _ _) rfl (one_scA _ _ _) (w31.heap.size) (w32.alloc (.cells #[.int .i64 0, .int .i64 0, .string ⟨#[]⟩] 78 (0, 0))) (Below.refl _ _) (Nat.le_refl _) ?_)
          intro W33 hbk hoth hbel _
          have HF634 := Lib.hid (blk_oth HF629.out hoth.out (by omega))
          have HF635 := Lib.hid (blk_oth HF630.out hoth.out (by omega))
          have HF636 := Lib.hid hbk.out
          have HF637 := Lib.hid (blk_oth HF632.out hoth.out (by omega))
          have HK638 := Lib.hid (HK633.out.row (b := w31.heap.size) (Or.inr (by omega)) hbel.out hoth.out)
          clear hbk hoth hbel HK633 HF629 HF630 HF631 HF632
          have hk639 := HK638.out.size
          have hk640 : w.heap.size < W33.heap.size := lt_of_block HF634.out
          have hk641 : w.heap.size + 1 < W33.heap.size := lt_of_block HF635.out
          have hk642 : w31.heap.size < W33.heap.size := lt_of_block HF636.out
          have hk643 : w32.heap.size < W33.heap.size := lt_of_block HF637.out
          go_wp2_with (first
            | refine wpList_store_rowY rfl 78 (.tmp 14) (.tmp 54) rfl (w32.heap.size) #[.int .i64 a, .int .i64 d, .string t] rfl rfl 78 _ HF637.out (info_val _ _ _) rfl (one_val _ _ _) (w32.heap.size) W33 (Below.refl _ _) (Nat.le_refl _) ?_)
          intro W34 hbk hoth hbel _
          have HF644 := Lib.hid (blk_oth HF634.out hoth.out (by omega))
          have HF645 := Lib.hid (blk_oth HF635.out hoth.out (by omega))
          have HF646 := Lib.hid (blk_oth HF636.out hoth.out (by omega))
          have HF647 := Lib.hid hbk.out
          have HK648 := Lib.hid (HK638.out.row (b := w32.heap.size) (Or.inr (by omega)) hbel.out hoth.out)
          clear hbk hoth hbel HK638 HF634 HF635 HF636 HF637
          have hk649 := HK648.out.size
          have hk650 : w.heap.size < W34.heap.size := lt_of_block HF644.out
          have hk651 : w.heap.size + 1 < W34.heap.size := lt_of_block HF645.out
          have hk652 : w31.heap.size < W34.heap.size := lt_of_block HF646.out
          have hk653 : w32.heap.size < W34.heap.size := lt_of_block HF647.out
          have hc654 : W34.cell? ⟨w31.heap.size, 0, none⟩ = some (.string S) := by rw [cell_of_row _ _ _ _ _ _ HF646.out]; rfl
          have hc655 : W34.cell? ⟨w31.heap.size, 1, none⟩ = some (.int .i64 (q8 : Int)) := by rw [cell_of_row _ _ _ _ _ _ HF646.out]; rfl
          have hc656 : W34.cell? ⟨w31.heap.size, 2, none⟩ = some (.int .i64 e8) := by rw [cell_of_row _ _ _ _ _ _ HF646.out]; rfl
          go_wp2_with (first
            | refine wpList_store_rowY rfl 130 (.tmp 1) (.tmp 55) rfl (w.heap.size) #[.string S, .int .i64 (q8 : Int), .int .i64 e8] rfl rfl 130 _ HF644.out (info_scA _ _ _) rfl (one_scA _ _ _) (w.heap.size) W34 (Below.refl _ _) (Nat.le_refl _) ?_)
          intro W35 hbk hoth hbel _
          clear hc654 hc655 hc656
          have HF657 := Lib.hid hbk.out
          have HF658 := Lib.hid (blk_oth HF645.out hoth.out (by omega))
          have HF659 := Lib.hid (blk_oth HF646.out hoth.out (by omega))
          have HF660 := Lib.hid (blk_oth HF647.out hoth.out (by omega))
          have HK661 := Lib.hid (HK648.out.row (b := w.heap.size) (Or.inl (by simp)) hbel.out hoth.out)
          clear hbk hoth hbel HK648 HF644 HF645 HF646 HF647
          have hk662 := HK661.out.size
          have hk663 : w.heap.size < W35.heap.size := lt_of_block HF657.out
          have hk664 : w.heap.size + 1 < W35.heap.size := lt_of_block HF658.out
          have hk665 : w31.heap.size < W35.heap.size := lt_of_block HF659.out
          have hk666 : w32.heap.size < W35.heap.size := lt_of_block HF660.out
          have HEa2 := Lib.hid (HE2.out.kk HK661.out HMB.out)
          have HPa2 := Lib.hid (HP2.out.kk HK661.out HMB.out)
          have HBt := Lib.hid (HK661.out.below HB2.out HML.out HB2.out.size)
          have hc667 : W35.cell? ⟨w32.heap.size, 0, none⟩ = some (.int .i64 a) := by rw [cell_of_row _ _ _ _ _ _ HF660.out]; rfl
          have hc668 : W35.cell? ⟨w32.heap.size, 1, none⟩ = some (.int .i64 d) := by rw [cell_of_row _ _ _ _ _ _ HF660.out]; rfl
          have hc669 : W35.cell? ⟨w32.heap.size, 2, none⟩ = some (.string t) := by rw [cell_of_row _ _ _ _ _ _ HF660.out]; rfl
          have hz1 : w.heap.size + 2 ≤ W35.heap.size := by have := lt_of_block HF658.out; omega
          have HRa := Lib.hid (Below.refl (w.heap.size + 2) W35)
          go_wp2_with (at_builtin; refine wpList_appX rfl (.tmp 56) (.tmp 60) 46 140 _ 48 rfl Try.underlying46 info_prA rfl (by omega) (by omega) prC_len prC_one (w.heap.size + 2) W35 (HRa.out.alloc hz1 _) (by simp; omega) v2 ps rfl (HPa2.out.alloc _) W35.heap.size 1 (s, a, d, t) #[.string s, .int .i64 a, .int .i64 d, .string t] 140 (0, 0) rfl (heap_alloc_new W35 _) rfl (by omega) ?_)
          intro v7 w7 HO7 HB7 HZ7 HG7
          clear hc667 hc668 hc669
          have HR7 := Lib.hid ((HB7.out.block (w.heap.size) (by omega)).trans HF657.out)
          have HRV7 := Lib.hid ((HB7.out.block (w.heap.size + 1) (by omega)).trans HF658.out)
          have HL7 := Lib.hid (HBt.out.trans (HB7.out.mono (by omega)))
          have HI7 := Lib.hid ((HEa2.out.alloc _).other (HPa2.out.alloc _) (by decide) HG7.out)
          have hv7 := HO7.out.one
          go_wp2_with fail
          go_roundw
          case rel => exact ⟨j + 1, q8, e8, ps ++ [(s, a, d, t)], _, rfl, by go_num, by omega, HR7.out, HRV7.out, hq8, HI7.out, HO7.out, by rw [List.length_append, HLE2.out]; rfl, HSP2.out, HIN2.out, HG2.out, HL7.out⟩
          case measure => simp [intOf] <;> omega
        · have hd1 : decide ((j : Int) < n2) = false := decide_eq_false hlt2
          have HD := Lib.hid (fun ss0 ps0 (hx : X ss0 ps0) => HGP2.out.done hlt2 hx)
          have HK601 := Lib.hid (KK.refl [w.heap.size, w.heap.size + 1] wr)
          have hk602 := HK601.out.size
          have hk603 : w.heap.size < wr.heap.size := lt_of_block HR2.out
          have hk604 : w.heap.size + 1 < wr.heap.size := lt_of_block HRV2.out
          have hc605 : wr.cell? ⟨w.heap.size, 0, none⟩ = some (.string S) := by rw [cell_of_row _ _ _ _ _ _ HR2.out]; rfl
          have hc606 : wr.cell? ⟨w.heap.size, 1, none⟩ = some (.int .i64 (q6 : Int)) := by rw [cell_of_row _ _ _ _ _ _ HR2.out]; rfl
          have hc607 : wr.cell? ⟨w.heap.size, 2, none⟩ = some (.int .i64 er6) := by rw [cell_of_row _ _ _ _ _ _ HR2.out]; rfl
          go_wp2_with (first
            | refine wpList_store_rowY rfl 130 (.tmp 2) (.tmp 62) rfl (w.heap.size + 1) #[.string S, .int .i64 (q6 : Int), .int .i64 er6] rfl rfl 130 _ HRV2.out (info_scA _ _ _) rfl (one_scA _ _ _) (w.heap.size + 1) wr (Below.refl _ _) (Nat.le_refl _) ?_)
          intro W31 hbk hoth hbel _
          clear hc605 hc606 hc607
          have HF608 := Lib.hid (blk_oth HR2.out hoth.out (by omega))
          have HF609 := Lib.hid hbk.out
          have HK610 := Lib.hid (HK601.out.row (b := w.heap.size + 1) (Or.inl (by simp)) hbel.out hoth.out)
          clear hbk hoth hbel HK601 HR2 HRV2
          have hk611 := HK610.out.size
          have hk612 : w.heap.size < W31.heap.size := lt_of_block HF608.out
          have hk613 : w.heap.size + 1 < W31.heap.size := lt_of_block HF609.out
          have HBt := Lib.hid (HK610.out.below HB2.out (show ∀ b ∈ [w.heap.size, w.heap.size + 1], w.heap.size ≤ b from fun b hb => by
            rcases List.mem_cons.1 hb with e | hb
            · omega
            · have e : b = w.heap.size + 1 := by simpa using hb
              omega) HB2.out.size)
          have HEa2 := Lib.hid (HE2.out.kk HK610.out (show ∀ b ∈ [w.heap.size, w.heap.size + 1], b < w.heap.size + 2 from fun b hb => by
            rcases List.mem_cons.1 hb with e | hb
            · omega
            · have e : b = w.heap.size + 1 := by simpa using hb
              omega))
          have HPa2 := Lib.hid (HP2.out.kk HK610.out (show ∀ b ∈ [w.heap.size, w.heap.size + 1], b < w.heap.size + 2 from fun b hb => by
            rcases List.mem_cons.1 hb with e | hb
            · omega
            · have e : b = w.heap.size + 1 := by simpa using hb
              omega))
          go_wp2_with fail
          refine bodyPost_ret (results_cvv rfl _ _ (w.heap.size + 1) #[.string S, .int .i64 (q6 : Int), .int .i64 er6] rfl (run_loadVar_row _ (w.heap.size + 1) 130 130 _ (0, 0) _ HF609.out Try.underlying130 rfl (info_scA _ _ _))) rfl ?_
          exact ⟨l, ps, v, v2, q6, er6, rfl, ⟨HEa2.out.mono (by omega), HPa2.out.mono (by omega), hl8, by omega, HSZ.out, HSP.out, HIN.out⟩, HD.out, HBt.out⟩
end Go.Proofs.Ytdjjabjegmbmaaa

namespace Go.Proofs.Ytdjjabjegmbmaaa
open Go.RowKit Vi Zp

theorem OwX.hothA {α : Type} {f : α → List Value} {s : Nat} {T : TypeId} {w W : World} {B g : Nat} {v : Value} {l : List α} (h : OwX f s T w B v l) (ho : ∀ k, k ≠ g → W.heap[k]? = w.heap[k]?) (hg : g < B) : OwX f s T W B v l := by
  rcases h with ⟨h1, h | ⟨b, cap, cur, h2, h3, h4, h5⟩⟩
  · exact ⟨h1, .inl h⟩
  · exact ⟨h1, .inr ⟨b, cap, cur, h2, h3, (ho b (by omega)).trans h4, h5⟩⟩
theorem RdOk.hoth {w W : World} {B g : Nat} {v v2 : Value} {l : List ByteArray} {ps : List Pr} (h : RdOk w B v v2 l ps) (ho : ∀ k, k ≠ g → W.heap[k]? = w.heap[k]?) (hg : g < B) : RdOk W B v v2 l ps :=
  ⟨h.rl.hothA ho hg, h.rp.hothA ho hg, h.nl, h.np, h.sl, h.sp, h.i⟩
theorem RdOk.set {w : World} {B b : Nat} {v v2 : Value} {l : List ByteArray} {ps : List Pr} (h : RdOk w B v v2 l ps) (hb : b < B) (i : Nat) (u : Value) : RdOk (w.setCell ⟨b, i, none⟩ u) B v v2 l ps :=
  h.hoth (g := b) (fun _ hk => Below.heap_setCell _ _ _ _ hk) hb
theorem RdOk.kept {w W : World} {B : Nat} {v v2 : Value} {l : List ByteArray} {ps : List Pr} (h : RdOk w B v v2 l ps) (hb : Below w.heap.size w W) : RdOk W B v v2 l ps :=
  ⟨h.rl.kept hb, h.rp.kept hb, h.nl, h.np, h.sl, h.sp, h.i⟩
theorem RdOk.mono {w : World} {B B' : Nat} {v v2 : Value} {l : List ByteArray} {ps : List Pr} (h : RdOk w B v v2 l ps) (hb : B' ≤ B) : RdOk w B' v v2 l ps :=
  ⟨h.rl.mono hb, h.rp.mono hb, h.nl, h.np, h.sl, h.sp, h.i⟩
/-- its two slices, as the checks want them -/
theorem RdOk.lp {w : World} {B : Nat} {v v2 : Value} {l : List ByteArray} {ps : List Pr} (h : RdOk w B v v2 l ps) : ∃ A c A2 c2, v = .slice A l.length c ∧ v2 = .slice A2 ps.length c2 ∧ LP w A l.length l A2 ps.length ps ∧ l.length ≤ c ∧ c ≤ maxLen ∧ ps.length ≤ c2 ∧ c2 ≤ maxLen := by
  obtain ⟨A, c, e, r, k1, k2⟩ := h.rl.rd stC_len
  obtain ⟨A2, c2, e2, r2, k3, k4⟩ := h.rp.rd prC_len
  exact ⟨A, c, A2, c2, e, e2, ⟨sln_of r, r2⟩, k1, k2, k3, k4⟩
theorem RdOk.ok {w : World} {B : Nat} {v v2 : Value} {l : List ByteArray} {ps : List Pr} (h : RdOk w B v v2 l ps) : LOk l.length l ps.length ps := by
  have a1 := h.nl
  have a2 := h.np
  refine ⟨?_, ?_, fun s hs => ?_, fun p hp => ?_⟩
  · unfold maxLen; omega
  · unfold maxLen; omega
  · have := h.sl s hs; unfold maxLen; omega
  · have := h.sp p hp; unfold maxLen; omega
theorem ba_neA {a b : ByteArray} (h : a ≠ b) : (a.toList == b.toList) = false := by
  rw [beq_eq_false_iff_ne, Lib.toList_data, Lib.toList_data]
  exact fun e => h (Zp.ba_ext e)
theorem info_nd (a b c : Value) : (Try.prog.info? 48).map (·.size) = some (#[a, b, c] : Array Value).size := by kernel_rfl
theorem one_nd (i : ByteArray) (A A2 : Option Addr) (n c n2 c2 : Nat) : (#[.string i, .slice A n c, .slice A2 n2 c2] : Array Value).all (·.oneCell') = true := by simp [Value.oneCell']
theorem info_ed (a b c d e : Value) : (Try.prog.info? 59).map (·.size) = some (#[a, b, c, d, e] : Array Value).size := by kernel_rfl
theorem one_ed (i f g : ByteArray) (A A2 : Option Addr) (n c n2 c2 : Nat) : (#[.string i, .string f, .string g, .slice A n c, .slice A2 n2 c2] : Array Value).all (·.oneCell') = true := by simp [Value.oneCell']
def TakeN (ok bad : Value) (i S : ByteArray) (w : World) (e : Ending) (w' : World) : Prop :=
  (∃ (ss : List ByteArray) (ps : List Pr) (vL vP : Value), IsN i S ss ps ∧ (∀ ss' ps', IsN i S ss' ps' → ss' = ss ∧ ps' = ps) ∧ e = .returned (.tuple #[.agg #[.string i, vL, vP], ok]) ∧ RdOk w' w.heap.size vL vP ss ps ∧ Below w.heap.size w w') ∨
  ((∀ ss ps, ¬ IsN i S ss ps) ∧ e = .returned (.tuple #[.agg #[.string ⟨#[]⟩, .slice none 0 0, .slice none 0 0], bad]) ∧ Below w.heap.size w w')
def TakeE (ok bad : Value) (i S : ByteArray) (w : World) (e : Ending) (w' : World) : Prop :=
  (∃ (f g : ByteArray) (ss : List ByteArray) (ps : List Pr) (vL vP : Value), IsE i S f g ss ps ∧ (∀ f' g' ss' ps', IsE i S f' g' ss' ps' → f' = f ∧ g' = g ∧ ss' = ss ∧ ps' = ps) ∧ e = .returned (.tuple #[.agg #[.string i, .string f, .string g, vL, vP], ok]) ∧ RdOk w' w.heap.size vL vP ss ps ∧ Below w.heap.size w w') ∨
  ((∀ f g ss ps, ¬ IsE i S f g ss ps) ∧ e = .returned (.tuple #[.agg #[.string ⟨#[]⟩, .string ⟨#[]⟩, .string ⟨#[]⟩, .slice none 0 0, .slice none 0 0], bad]) ∧ Below w.heap.size w w')
theorem IsE.start {i S f' g' : ByteArray} {m1 m2 : Int} (hm1 : 12 ≤ m1) (hm2 : 12 ≤ m2) {q1 q2 : Nat} {e1 e2 : Int} (h1 : Rd.text S 0 0 m1 = (f', q1, e1)) (h2 : Rd.text S q1 e1 m2 = (g', q2, e2)) : StartP (fun ss ps => ∃ f g, IsE i S f g ss ps) S q2 e2 := fun ss ps ⟨f, g, h⟩ => by
  obtain ⟨_, _, k1, k2, k3, k4⟩ := h.front hm1 hm2 h1 h2
  exact ⟨k1, k2, k3, k4⟩
set_option maxHeartbeats 8000000 in
set_option maxRecDepth 100000 in
theorem tnode_any (i S : ByteArray) (w : World) (hi : i.size ≤ maxLen) (hS : S.size ≤ 999999) :
    Calls Try.prog 36 #[.string i, .string S] w (TakeN (.int .i64 0) (.int .i64 3) i S w) := by
  have hSm : S.size ≤ 1000000 := by omega
  have HST := Lib.hid (IsN.start i S)
  have HB1 := Lib.hid (Below.refl w.heap.size w)
  go_enter Try.func36, Try.ntmps36
  have HF2 := Lib.hid (blk_new w (.cells #[.string ⟨#[]⟩, .slice none 0 0, .slice none 0 0] 48 (0, 0)))
  have HB3 := Lib.hid (HB1.out.alloc HB1.out.size (.cells #[.string ⟨#[]⟩, .slice none 0 0, .slice none 0 0] 48 (0, 0)))
  clear HB1
  have HF4 := Lib.hid (blk_alloc HF2.out (.cells #[.string i, .slice none 0 0, .slice none 0 0] 48 (0, 0)))
  clear HF2
  have HF5 : Hid (((w.alloc (.cells #[.string ⟨#[]⟩, .slice none 0 0, .slice none 0 0] 48 (0, 0))).alloc (.cells #[.string i, .slice none 0 0, .slice none 0 0] 48 (0, 0))).heap[w.heap.size + 1]? = some (.cells #[.string i, .slice none 0 0, .slice none 0 0] 48 (0, 0))) := Lib.hid (blk_newN (W := (w.alloc (.cells #[.string ⟨#[]⟩, .slice none 0 0, .slice none 0 0] 48 (0, 0)))) (o := (.cells #[.string i, .slice none 0 0, .slice none 0 0] 48 (0, 0))) (by simp))
  have HB6 := Lib.hid (HB3.out.alloc (by have := HB3.out.size; simp at this ⊢ <;> omega) (.cells #[.string i, .slice none 0 0, .slice none 0 0] 48 (0, 0)))
  clear HB3
  go_wp2_with fail
  refine (new_any S ((w.alloc (.cells #[.string ⟨#[]⟩, .slice none 0 0, .slice none 0 0] 48 (0, 0))).alloc (.cells #[.string i, .slice none 0 0, .slice none 0 0] 48 (0, 0)))).mono ?_
  rintro e w1 ⟨rfl, hs, hb⟩
  obtain ⟨B, hBe⟩ : ∃ B, B = ((w.alloc (.cells #[.string ⟨#[]⟩, .slice none 0 0, .slice none 0 0] 48 (0, 0))).alloc (.cells #[.string i, .slice none 0 0, .slice none 0 0] 48 (0, 0))).heap.size := ⟨_, rfl⟩
  rw [← hBe] at hs
  have HF7 := Lib.hid (blk_below HF4.out hb)
  have hk8 : w.heap.size < B := by rw [hBe]; exact lt_of_block HF4.out
  have HF9 := Lib.hid (blk_below HF5.out hb)
  have hk10 : w.heap.size + 1 < B := by rw [hBe]; exact lt_of_block HF5.out
  have HB11 := Lib.hid (HB6.out.trans (hb.mono HB6.out.size))
  have hBw : w.heap.size ≤ B := by rw [hBe]; exact HB6.out.size
  have HBE := Lib.hid hBe
  have HS12 := Lib.hid hs
  clear hb hs hBe HB6 HF4 HF5
  rw [← HBE.out]
  go_wp2_with fail
  refine (cread_any (IsN i S) S 0 0 B w1 hS (Nat.zero_le _) HS12.out HST.out).mono ?_
  rintro e w2 ⟨l, ps, vL, vP, rfl, hro, hd, hk⟩
  have hBA : w.heap.size + 2 ≤ w1.heap.size := by have := lt_of_block HF9.out; omega
  have HF13 := Lib.hid (blk_but HF7.out hk (by omega))
  have HF14 := Lib.hid (blk_but HF9.out hk (by omega))
  have HB15 := Lib.hid (But.below HB11.out hk hBw HB11.out.size)
  have HRO := Lib.hid hro
  have HD := Lib.hid hd
  obtain ⟨base, hbase⟩ : ∃ x, x = w1.heap.size := ⟨_, rfl⟩
  rw [← hbase] at HRO hBA
  clear hk hro hd hbase HB11 HF7 HF9
  obtain ⟨A, c, A2, c2, rfl, rfl, _, _⟩ := HRO.out.lp
  obtain ⟨n, hn⟩ : ∃ n, n = l.length := ⟨_, rfl⟩
  obtain ⟨n2, hn2⟩ : ∃ n, n = ps.length := ⟨_, rfl⟩
  have HOK := Lib.hid (show LOk n l n2 ps by rw [hn, hn2]; exact HRO.out.ok)
  have HLP := Lib.hid (fun (W : World) (q : RdOk W base (.slice A n c) (.slice A2 n2 c2) l ps) => show LP W A n l A2 n2 ps by
    obtain ⟨A', c', A2', c2', e1, e2, h, _⟩ := q.lp
    rw [← hn] at e1 h
    rw [← hn2] at e2 h
    cases e1
    cases e2
    exact h)
  rw [← hn, ← hn2] at HRO
  rw [← hn, ← hn2]
  clear hn hn2
  have hc16 : w2.cell? ⟨w.heap.size + 1, 0, none⟩ = some (.string i) := by rw [cell_of_row _ _ _ _ _ _ HF14.out]; rfl
  have hc17 : w2.cell? ⟨w.heap.size + 1, 1, none⟩ = some (.slice none 0 0) := by rw [cell_of_row _ _ _ _ _ _ HF14.out]; rfl
  have hc18 : w2.cell? ⟨w.heap.size + 1, 2, none⟩ = some (.slice none 0 0) := by rw [cell_of_row _ _ _ _ _ _ HF14.out]; rfl
  have hz19 : w2.frozen? ⟨w.heap.size + 1, 1, none⟩ = false := frozen_of_row _ _ _ _ _ HF14.out
  have hz20 : w2.frozen? ⟨w.heap.size + 1, 2, none⟩ = false := frozen_of_row _ _ _ _ _ HF14.out
  go_upto_region 3 with (fail)
  clear hc16 hc17 hc18 hz19 hz20
  have HF21 := Lib.hid (show (w2.setCell ⟨w.heap.size + 1, 1, none⟩ (.slice A n c)).heap[w.heap.size]? = some (.cells #[.string ⟨#[]⟩, .slice none 0 0, .slice none 0 0] 48 (0, 0)) by rw [Below.heap_setCell _ _ _ _ (by show w.heap.size ≠ w.heap.size + 1; omega)]; exact HF13.out)
  have HF22 := Lib.hid (show (w2.setCell ⟨w.heap.size + 1, 1, none⟩ (.slice A n c)).heap[w.heap.size + 1]? = some (.cells #[.string i, .slice A n c, .slice none 0 0] 48 (0, 0)) by have h := heap_setCell_at (i := 1) (u := .slice A n c) HF14.out; exact h)
  have HB23 := Lib.hid (HB15.out.setCell (p := ⟨w.heap.size + 1, 1, none⟩) (by show w.heap.size ≤ w.heap.size + 1; omega) (.slice A n c))
  have HF24 := Lib.hid (show ((w2.setCell ⟨w.heap.size + 1, 1, none⟩ (.slice A n c)).setCell ⟨w.heap.size + 1, 2, none⟩ (.slice A2 n2 c2)).heap[w.heap.size]? = some (.cells #[.string ⟨#[]⟩, .slice none 0 0, .slice none 0 0] 48 (0, 0)) by rw [Below.heap_setCell _ _ _ _ (by show w.heap.size ≠ w.heap.size + 1; omega)]; exact HF21.out)
  have HF25 := Lib.hid (show ((w2.setCell ⟨w.heap.size + 1, 1, none⟩ (.slice A n c)).setCell ⟨w.heap.size + 1, 2, none⟩ (.slice A2 n2 c2)).heap[w.heap.size + 1]? = some (.cells #[.string i, .slice A n c, .slice A2 n2 c2] 48 (0, 0)) by have h := heap_setCell_at (i := 2) (u := .slice A2 n2 c2) HF22.out; exact h)
  have HB26 := Lib.hid (HB23.out.setCell (p := ⟨w.heap.size + 1, 2, none⟩) (by show w.heap.size ≤ w.heap.size + 1; omega) (.slice A2 n2 c2))
  have HRO2 := Lib.hid ((HRO.out.set (b := w.heap.size + 1) (by omega) 1 (.slice A n c)).set (b := w.heap.size + 1) (by omega) 2 (.slice A2 n2 c2))
  obtain ⟨wk, hwk⟩ : ∃ x, x = ((w2.setCell ⟨w.heap.size + 1, 1, none⟩ (.slice A n c)).setCell ⟨w.heap.size + 1, 2, none⟩ (.slice A2 n2 c2)) := ⟨_, rfl⟩
  rw [← hwk] at HF24 HF25 HB26 HRO2
  rw [← hwk]
  clear hwk HRO
  have HRO := HRO2
  clear HRO2
  have HUN := Lib.hid (fun ss' ps' (h : IsN i S ss' ps') => show ss' = l ∧ ps' = ps from ⟨(HD.out ss' ps' h).1.symm, (HD.out ss' ps' h).2.symm⟩)
  by_cases hz : ndW i l ps = 0
  · obtain ⟨T, hT⟩ : ∃ T, T = ptS l ps := ⟨_, rfl⟩
    have HPN := Lib.hid (fun (W : World) (q : LP W A n l A2 n2 ps) => pnode_yes i A A2 n c n2 c2 l ps W q HOK.out hi hz HRO.out.i)
    rw [← hT] at HPN
    by_cases hs : T = S
    · have HIS := Lib.hid (show IsN i S l ps from ⟨hz, HRO.out.i, by rw [← hT, hs]⟩)
      have hqe : (T.toList == S.toList) = true := by rw [hs]; simp
      have hqn : (T.toList != S.toList) = false := by rw [hs]; simp
      clear hz hT hs
      have hc27 : wk.cell? ⟨w.heap.size + 1, 0, none⟩ = some (.string i) := by rw [cell_of_row _ _ _ _ _ _ HF25.out]; rfl
      have hc28 : wk.cell? ⟨w.heap.size + 1, 1, none⟩ = some (.slice A n c) := by rw [cell_of_row _ _ _ _ _ _ HF25.out]; rfl
      have hc29 : wk.cell? ⟨w.heap.size + 1, 2, none⟩ = some (.slice A2 n2 c2) := by rw [cell_of_row _ _ _ _ _ _ HF25.out]; rfl
      go_wp2_with fail
      clear hc27 hc28 hc29
      refine (HPN.out wk (HLP.out _ HRO.out)).mono ?_
      rintro e w3 ⟨rfl, hb3⟩
      have HF30 := Lib.hid (blk_below HF24.out hb3)
      have HF31 := Lib.hid (blk_below HF25.out hb3)
      have HB32 := Lib.hid (HB26.out.trans (hb3.mono HB26.out.size))
      have HRO3 := Lib.hid (HRO.out.kept hb3)
      clear hb3 HB26 HF24 HF25
      have hk33 : w.heap.size < w3.heap.size := lt_of_block HF30.out
      have hk34 : w.heap.size + 1 < w3.heap.size := lt_of_block HF31.out
      have hc35 : w3.cell? ⟨w.heap.size + 1, 0, none⟩ = some (.string i) := by rw [cell_of_row _ _ _ _ _ _ HF31.out]; rfl
      have hc36 : w3.cell? ⟨w.heap.size + 1, 1, none⟩ = some (.slice A n c) := by rw [cell_of_row _ _ _ _ _ _ HF31.out]; rfl
      have hc37 : w3.cell? ⟨w.heap.size + 1, 2, none⟩ = some (.slice A2 n2 c2) := by rw [cell_of_row _ _ _ _ _ _ HF31.out]; rfl
      go_wp2_with (first
        | refine wpList_store_rowY rfl 48 (.tmp 4) (.tmp 32) rfl (w.heap.size) #[.string i, .slice A n c, .slice A2 n2 c2] rfl rfl 48 _ HF30.out (info_nd _ _ _) rfl (one_nd _ _ _ _ _ _ _) w.heap.size w HB32.out (by omega) ?_)
      intro W4 hbk hoth hbel _
      clear hc35 hc36 hc37
      have HF38 := Lib.hid hbk.out
      have HF39 := Lib.hid (blk_oth HF31.out hoth.out (by omega))
      have HB40 := Lib.hid hbel.out
      have HRO4 := Lib.hid (HRO3.out.hoth hoth.out (by omega))
      clear hbk hoth hbel HB32  HF30 HF31
      go_wp2_with fail
      refine bodyPost_ret (results_ctY rfl _ _ (w.heap.size) #[.string i, .slice A n c, .slice A2 n2 c2] rfl (run_loadVar_row _ (w.heap.size) 48 48 _ (0, 0) _ HF38.out Try.underlying48 rfl (info_nd _ _ _))) rfl ?_
      exact Or.inl ⟨l, ps, _, _, HIS.out, HUN.out, rfl, HRO4.out.mono (by omega), HB40.out⟩
    · have HNO := Lib.hid (show ∀ ss0 ps0, ¬ IsN i S ss0 ps0 from fun ss0 ps0 h0 => by
        obtain ⟨rfl, rfl⟩ := HUN.out ss0 ps0 h0
        exact hs (by rw [hT]; exact h0.2.2))
      have hqe := ba_neA hs
      have hqn : (T.toList != S.toList) = true := by rw [bne, hqe]; rfl
      clear hz hT hs
      have hc27 : wk.cell? ⟨w.heap.size + 1, 0, none⟩ = some (.string i) := by rw [cell_of_row _ _ _ _ _ _ HF25.out]; rfl
      have hc28 : wk.cell? ⟨w.heap.size + 1, 1, none⟩ = some (.slice A n c) := by rw [cell_of_row _ _ _ _ _ _ HF25.out]; rfl
      have hc29 : wk.cell? ⟨w.heap.size + 1, 2, none⟩ = some (.slice A2 n2 c2) := by rw [cell_of_row _ _ _ _ _ _ HF25.out]; rfl
      go_wp2_with fail
      clear hc27 hc28 hc29
      refine (HPN.out wk (HLP.out _ HRO.out)).mono ?_
      rintro e w3 ⟨rfl, hb3⟩
      have HF30 := Lib.hid (blk_below HF24.out hb3)
      have HF31 := Lib.hid (blk_below HF25.out hb3)
      have HB32 := Lib.hid (HB26.out.trans (hb3.mono HB26.out.size))
      have HRO3 := Lib.hid (HRO.out.kept hb3)
      clear hb3 HB26 HF24 HF25
      have hk33 : w.heap.size < w3.heap.size := lt_of_block HF30.out
      have hk34 : w.heap.size + 1 < w3.heap.size := lt_of_block HF31.out
      have hc35 : w3.cell? ⟨w.heap.size + 1, 0, none⟩ = some (.string i) := by rw [cell_of_row _ _ _ _ _ _ HF31.out]; rfl
      have hc36 : w3.cell? ⟨w.heap.size + 1, 1, none⟩ = some (.slice A n c) := by rw [cell_of_row _ _ _ _ _ _ HF31.out]; rfl
      have hc37 : w3.cell? ⟨w.heap.size + 1, 2, none⟩ = some (.slice A2 n2 c2) := by rw [cell_of_row _ _ _ _ _ _ HF31.out]; rfl
      go_wp2_with (first
        | refine wpList_store_rowY rfl 48 (.tmp 4) (.tmp 31) rfl (w.heap.size) #[.string ⟨#[]⟩, .slice none 0 0, .slice none 0 0] rfl rfl 48 _ HF30.out (info_nd _ _ _) rfl (one_nd _ _ _ _ _ _ _) w.heap.size w HB32.out (by omega) ?_)
      intro W4 hbk hoth hbel _
      clear hc35 hc36 hc37
      have HF38 := Lib.hid hbk.out
      have HF39 := Lib.hid (blk_oth HF31.out hoth.out (by omega))
      have HB40 := Lib.hid hbel.out
      clear hbk hoth hbel HB32  HF30 HF31
      go_wp2_with fail
      refine bodyPost_ret (results_ctY rfl _ _ (w.heap.size) #[.string ⟨#[]⟩, .slice none 0 0, .slice none 0 0] rfl (run_loadVar_row _ (w.heap.size) 48 48 _ (0, 0) _ HF38.out Try.underlying48 rfl (info_nd _ _ _))) rfl ?_
      exact Or.inr ⟨HNO.out, rfl, HB40.out⟩
  · have HNO := Lib.hid (show ∀ ss0 ps0, ¬ IsN i S ss0 ps0 from fun ss0 ps0 h0 => by
      obtain ⟨rfl, rfl⟩ := HUN.out ss0 ps0 h0
      exact hz h0.1)
    obtain ⟨z, hzz⟩ : ∃ z, z = ndW i l ps := ⟨_, rfl⟩
    have HPN := Lib.hid (fun (W : World) (q : LP W A n l A2 n2 ps) => pnode_no i A A2 n c n2 c2 l ps W q HOK.out hi hz)
    rw [← hzz] at HPN hz
    have hz1 : (z != 0) = true := by simpa using hz
    clear hz hzz
    have hc27 : wk.cell? ⟨w.heap.size + 1, 0, none⟩ = some (.string i) := by rw [cell_of_row _ _ _ _ _ _ HF25.out]; rfl
    have hc28 : wk.cell? ⟨w.heap.size + 1, 1, none⟩ = some (.slice A n c) := by rw [cell_of_row _ _ _ _ _ _ HF25.out]; rfl
    have hc29 : wk.cell? ⟨w.heap.size + 1, 2, none⟩ = some (.slice A2 n2 c2) := by rw [cell_of_row _ _ _ _ _ _ HF25.out]; rfl
    go_wp2_with fail
    clear hc27 hc28 hc29
    refine (HPN.out wk (HLP.out _ HRO.out)).mono ?_
    rintro e w3 ⟨rfl, hb3⟩
    have HF30 := Lib.hid (blk_below HF24.out hb3)
    have HF31 := Lib.hid (blk_below HF25.out hb3)
    have HB32 := Lib.hid (HB26.out.trans (hb3.mono HB26.out.size))
    have HRO3 := Lib.hid (HRO.out.kept hb3)
    clear hb3 HB26 HF24 HF25
    have hk33 : w.heap.size < w3.heap.size := lt_of_block HF30.out
    have hk34 : w.heap.size + 1 < w3.heap.size := lt_of_block HF31.out
    have hc35 : w3.cell? ⟨w.heap.size + 1, 0, none⟩ = some (.string i) := by rw [cell_of_row _ _ _ _ _ _ HF31.out]; rfl
    have hc36 : w3.cell? ⟨w.heap.size + 1, 1, none⟩ = some (.slice A n c) := by rw [cell_of_row _ _ _ _ _ _ HF31.out]; rfl
    have hc37 : w3.cell? ⟨w.heap.size + 1, 2, none⟩ = some (.slice A2 n2 c2) := by rw [cell_of_row _ _ _ _ _ _ HF31.out]; rfl
    go_wp2_with (first
      | refine wpList_store_rowY rfl 48 (.tmp 4) (.tmp 31) rfl (w.heap.size) #[.string ⟨#[]⟩, .slice none 0 0, .slice none 0 0] rfl rfl 48 _ HF30.out (info_nd _ _ _) rfl (one_nd _ _ _ _ _ _ _) w.heap.size w HB32.out (by omega) ?_)
    intro W4 hbk hoth hbel _
    clear hc35 hc36 hc37
    have HF38 := Lib.hid hbk.out
    have HF39 := Lib.hid (blk_oth HF31.out hoth.out (by omega))
    have HB40 := Lib.hid hbel.out
    clear hbk hoth hbel HB32  HF30 HF31
    go_wp2_with fail
    refine bodyPost_ret (results_ctY rfl _ _ (w.heap.size) #[.string ⟨#[]⟩, .slice none 0 0, .slice none 0 0] rfl (run_loadVar_row _ (w.heap.size) 48 48 _ (0, 0) _ HF38.out Try.underlying48 rfl (info_nd _ _ _))) rfl ?_
    exact Or.inr ⟨HNO.out, rfl, HB40.out⟩
set_option maxHeartbeats 8000000 in
set_option maxRecDepth 100000 in
theorem tedge_any (i S : ByteArray) (w : World) (hi : i.size ≤ maxLen) (hS : S.size ≤ 999999) :
    Calls Try.prog 38 #[.string i, .string S] w (TakeE (.int .i64 0) (.int .i64 3) i S w) := by
  have hSm : S.size ≤ 1000000 := by omega
  obtain ⟨f, q1, e1, hT1⟩ : ∃ a0 a1 a2, Rd.text S 0 0 12 = (a0, a1, a2) := ⟨_, _, _, rfl⟩
  have hq1 := Rd.text_le S 0 0 12 (Nat.zero_le _)
  have hf := text_size S 0 0 12
  rw [hT1] at hq1 hf
  dsimp only at hq1 hf
  obtain ⟨g, q2, e2, hT2⟩ : ∃ a0 a1 a2, Rd.text S q1 e1 12 = (a0, a1, a2) := ⟨_, _, _, rfl⟩
  have hq2 := Rd.text_le S q1 e1 12 hq1
  have hg := text_size S q1 e1 12
  rw [hT2] at hq2 hg
  dsimp only at hq2 hg
  have hf : f.size ≤ maxLen := by unfold maxLen; omega
  have hg : g.size ≤ maxLen := by unfold maxLen; omega
  have HT1 := Lib.hid (fun (W : World) (B : Nat) (s : Sc W B true S 0 0) => textU W B S 0 0 12 hSm (Nat.zero_le _) s (by omega))
  have HT2 := Lib.hid (fun (W : World) (B : Nat) (s : Sc W B true S q1 e1) => textU W B S q1 e1 12 hSm hq1 s (by omega))
  rw [hT1] at HT1
  rw [hT2] at HT2
  dsimp only at HT1 HT2
  have HFR := Lib.hid (fun (f0 g0 : ByteArray) (ss : List ByteArray) (ps : List Pr) (h : IsE i S f0 g0 ss ps) => h.front (m1 := 12) (m2 := 12) (by omega) (by omega) hT1 hT2)
  have HST := Lib.hid (IsE.start (i := i) (m1 := 12) (m2 := 12) (by omega) (by omega) hT1 hT2)
  clear hT1 hT2
  have HB1 := Lib.hid (Below.refl w.heap.size w)
  go_enter Try.func38, Try.ntmps38
  have HF2 := Lib.hid (blk_new w (.cells #[.string ⟨#[]⟩, .string ⟨#[]⟩, .string ⟨#[]⟩, .slice none 0 0, .slice none 0 0] 59 (0, 0)))
  have HB3 := Lib.hid (HB1.out.alloc HB1.out.size (.cells #[.string ⟨#[]⟩, .string ⟨#[]⟩, .string ⟨#[]⟩, .slice none 0 0, .slice none 0 0] 59 (0, 0)))
  clear HB1
  go_wp2_with fail
  refine (new_any S (w.alloc (.cells #[.string ⟨#[]⟩, .string ⟨#[]⟩, .string ⟨#[]⟩, .slice none 0 0, .slice none 0 0] 59 (0, 0)))).mono ?_
  rintro e w1 ⟨rfl, hs, hb⟩
  obtain ⟨B, hBe⟩ : ∃ B, B = (w.alloc (.cells #[.string ⟨#[]⟩, .string ⟨#[]⟩, .string ⟨#[]⟩, .slice none 0 0, .slice none 0 0] 59 (0, 0))).heap.size := ⟨_, rfl⟩
  rw [← hBe] at hs
  have HF4 := Lib.hid (blk_below HF2.out hb)
  have hk5 : w.heap.size < B := by rw [hBe]; exact lt_of_block HF2.out
  have HB6 := Lib.hid (HB3.out.trans (hb.mono HB3.out.size))
  have hBw : w.heap.size ≤ B := by rw [hBe]; exact HB3.out.size
  have HBE := Lib.hid hBe
  have HS7 := Lib.hid hs
  clear hb hs hBe HB3 HF2
  rw [← HBE.out]
  go_wp2_with fail
  refine (HT1.out w1 B HS7.out).mono ?_
  rintro e w2 ⟨rfl, hs, hk⟩
  have HF8 := Lib.hid (blk_but HF4.out hk (by omega))
  have HB9 := Lib.hid (But.below HB6.out hk hBw HB6.out.size)
  have HS10 := Lib.hid hs
  clear hs hk HB6 HS7 HF4
  go_wp2_with fail
  refine (HT2.out w2 B HS10.out).mono ?_
  rintro e w3 ⟨rfl, hs, hk⟩
  have HF11 := Lib.hid (blk_but HF8.out hk (by omega))
  have HB12 := Lib.hid (But.below HB9.out hk hBw HB9.out.size)
  have HS13 := Lib.hid hs
  clear hs hk HB9 HS10 HF8
  have hk14 : B < w3.heap.size := HS13.out.lt
  have HF15 := Lib.hid (blk_alloc HF11.out (.cells #[.string i, .string f, .string g, .slice none 0 0, .slice none 0 0] 59 (0, 0)))
  have HF16 := Lib.hid (blk_new w3 (.cells #[.string i, .string f, .string g, .slice none 0 0, .slice none 0 0] 59 (0, 0)))
  have HB17 := Lib.hid (HB12.out.alloc HB12.out.size (.cells #[.string i, .string f, .string g, .slice none 0 0, .slice none 0 0] 59 (0, 0)))
  clear HB12
  have HS18 := Lib.hid (HS13.out.alloc (.cells #[.string i, .string f, .string g, .slice none 0 0, .slice none 0 0] 59 (0, 0)))
  clear HS13
  go_wp2_with fail
  refine (cread_any (fun ss ps => ∃ f g, IsE i S f g ss ps) S q2 e2 B (w3.alloc (.cells #[.string i, .string f, .string g, .slice none 0 0, .slice none 0 0] 59 (0, 0))) hS hq2 HS18.out HST.out).mono ?_
  rintro e w4 ⟨l, ps, vL, vP, rfl, hro, hd, hk⟩
  have hBA : w.heap.size + 1 ≤ (w3.alloc (.cells #[.string i, .string f, .string g, .slice none 0 0, .slice none 0 0] 59 (0, 0))).heap.size := by have := lt_of_block HF15.out; simp at this ⊢; omega
  have hNA := lt_of_block HF16.out
  have HF19 := Lib.hid (blk_but HF15.out hk (by omega))
  have HF20 := Lib.hid (blk_but HF16.out hk (by omega))
  have HB21 := Lib.hid (But.below HB17.out hk hBw HB17.out.size)
  have HRO := Lib.hid hro
  have HD := Lib.hid hd
  obtain ⟨base, hbase⟩ : ∃ x, x = (w3.alloc (.cells #[.string i, .string f, .string g, .slice none 0 0, .slice none 0 0] 59 (0, 0))).heap.size := ⟨_, rfl⟩
  rw [← hbase] at HRO hBA hNA
  clear hk hro hd hbase HB17 HF15 HF11 HF16
  obtain ⟨A, c, A2, c2, rfl, rfl, _, _⟩ := HRO.out.lp
  obtain ⟨n, hn⟩ : ∃ n, n = l.length := ⟨_, rfl⟩
  obtain ⟨n2, hn2⟩ : ∃ n, n = ps.length := ⟨_, rfl⟩
  have HOK := Lib.hid (show LOk n l n2 ps by rw [hn, hn2]; exact HRO.out.ok)
  have HLP := Lib.hid (fun (W : World) (q : RdOk W base (.slice A n c) (.slice A2 n2 c2) l ps) => show LP W A n l A2 n2 ps by
    obtain ⟨A', c', A2', c2', e1, e2, h, _⟩ := q.lp
    rw [← hn] at e1 h
    rw [← hn2] at e2 h
    cases e1
    cases e2
    exact h)
  rw [← hn, ← hn2] at HRO
  rw [← hn, ← hn2]
  clear hn hn2
  have hc22 : w4.cell? ⟨w3.heap.size, 0, none⟩ = some (.string i) := by rw [cell_of_row _ _ _ _ _ _ HF20.out]; rfl
  have hc23 : w4.cell? ⟨w3.heap.size, 1, none⟩ = some (.string f) := by rw [cell_of_row _ _ _ _ _ _ HF20.out]; rfl
  have hc24 : w4.cell? ⟨w3.heap.size, 2, none⟩ = some (.string g) := by rw [cell_of_row _ _ _ _ _ _ HF20.out]; rfl
  have hc25 : w4.cell? ⟨w3.heap.size, 3, none⟩ = some (.slice none 0 0) := by rw [cell_of_row _ _ _ _ _ _ HF20.out]; rfl
  have hc26 : w4.cell? ⟨w3.heap.size, 4, none⟩ = some (.slice none 0 0) := by rw [cell_of_row _ _ _ _ _ _ HF20.out]; rfl
  have hz27 : w4.frozen? ⟨w3.heap.size, 3, none⟩ = false := frozen_of_row _ _ _ _ _ HF20.out
  have hz28 : w4.frozen? ⟨w3.heap.size, 4, none⟩ = false := frozen_of_row _ _ _ _ _ HF20.out
  go_upto_region 4 with (fail)
  clear hc22 hc23 hc24 hc25 hc26 hz27 hz28
  have HF29 := Lib.hid (show (w4.setCell ⟨w3.heap.size, 3, none⟩ (.slice A n c)).heap[w.heap.size]? = some (.cells #[.string ⟨#[]⟩, .string ⟨#[]⟩, .string ⟨#[]⟩, .slice none 0 0, .slice none 0 0] 59 (0, 0)) by rw [Below.heap_setCell _ _ _ _ (by show w.heap.size ≠ w3.heap.size; omega)]; exact HF19.out)
  have HF30 := Lib.hid (show (w4.setCell ⟨w3.heap.size, 3, none⟩ (.slice A n c)).heap[w3.heap.size]? = some (.cells #[.string i, .string f, .string g, .slice A n c, .slice none 0 0] 59 (0, 0)) by have h := heap_setCell_at (i := 3) (u := .slice A n c) HF20.out; exact h)
  have HB31 := Lib.hid (HB21.out.setCell (p := ⟨w3.heap.size, 3, none⟩) (by show w.heap.size ≤ w3.heap.size; omega) (.slice A n c))
  have HF32 := Lib.hid (show ((w4.setCell ⟨w3.heap.size, 3, none⟩ (.slice A n c)).setCell ⟨w3.heap.size, 4, none⟩ (.slice A2 n2 c2)).heap[w.heap.size]? = some (.cells #[.string ⟨#[]⟩, .string ⟨#[]⟩, .string ⟨#[]⟩, .slice none 0 0, .slice none 0 0] 59 (0, 0)) by rw [Below.heap_setCell _ _ _ _ (by show w.heap.size ≠ w3.heap.size; omega)]; exact HF29.out)
  have HF33 := Lib.hid (show ((w4.setCell ⟨w3.heap.size, 3, none⟩ (.slice A n c)).setCell ⟨w3.heap.size, 4, none⟩ (.slice A2 n2 c2)).heap[w3.heap.size]? = some (.cells #[.string i, .string f, .string g, .slice A n c, .slice A2 n2 c2] 59 (0, 0)) by have h := heap_setCell_at (i := 4) (u := .slice A2 n2 c2) HF30.out; exact h)
  have HB34 := Lib.hid (HB31.out.setCell (p := ⟨w3.heap.size, 4, none⟩) (by show w.heap.size ≤ w3.heap.size; omega) (.slice A2 n2 c2))
  have HRO2 := Lib.hid ((HRO.out.set (b := w3.heap.size) (by omega) 3 (.slice A n c)).set (b := w3.heap.size) (by omega) 4 (.slice A2 n2 c2))
  obtain ⟨wk, hwk⟩ : ∃ x, x = ((w4.setCell ⟨w3.heap.size, 3, none⟩ (.slice A n c)).setCell ⟨w3.heap.size, 4, none⟩ (.slice A2 n2 c2)) := ⟨_, rfl⟩
  rw [← hwk] at HF32 HF33 HB34 HRO2
  rw [← hwk]
  clear hwk HRO
  have HRO := HRO2
  clear HRO2
  have hsl : ∀ f' g' ss' ps', IsE i S f' g' ss' ps' → f' = f ∧ g' = g ∧ ss' = l ∧ ps' = ps := fun f' g' ss' ps' h => by
    obtain ⟨k1, k2, _⟩ := HFR.out f' g' ss' ps' h
    obtain ⟨k3, k4⟩ := HD.out ss' ps' ⟨f', g', h⟩
    exact ⟨k1.symm, k2.symm, k3.symm, k4.symm⟩
  have HUN := Lib.hid hsl
  clear hsl
  by_cases hz : edW i f g l ps = 0
  · obtain ⟨T, hT⟩ : ∃ T, T = (tS f ++ tS g) ++ ptS l ps := ⟨_, rfl⟩
    have HPN := Lib.hid (fun (W : World) (q : LP W A n l A2 n2 ps) => pedge_yes i f g A A2 n c n2 c2 l ps W q HOK.out hi hf hg hz HRO.out.i)
    rw [← hT] at HPN
    by_cases hs : T = S
    · have HIS := Lib.hid (show IsE i S f g l ps from ⟨hz, HRO.out.i, by rw [← hT, hs]⟩)
      have hqe : (T.toList == S.toList) = true := by rw [hs]; simp
      have hqn : (T.toList != S.toList) = false := by rw [hs]; simp
      clear hz hT hs
      have hc35 : wk.cell? ⟨w3.heap.size, 0, none⟩ = some (.string i) := by rw [cell_of_row _ _ _ _ _ _ HF33.out]; rfl
      have hc36 : wk.cell? ⟨w3.heap.size, 1, none⟩ = some (.string f) := by rw [cell_of_row _ _ _ _ _ _ HF33.out]; rfl
      have hc37 : wk.cell? ⟨w3.heap.size, 2, none⟩ = some (.string g) := by rw [cell_of_row _ _ _ _ _ _ HF33.out]; rfl
      have hc38 : wk.cell? ⟨w3.heap.size, 3, none⟩ = some (.slice A n c) := by rw [cell_of_row _ _ _ _ _ _ HF33.out]; rfl
      have hc39 : wk.cell? ⟨w3.heap.size, 4, none⟩ = some (.slice A2 n2 c2) := by rw [cell_of_row _ _ _ _ _ _ HF33.out]; rfl
      go_wp2_with fail
      clear hc35 hc36 hc37 hc38 hc39
      refine (HPN.out wk (HLP.out _ HRO.out)).mono ?_
      rintro e w5 ⟨rfl, hb5⟩
      have HF40 := Lib.hid (blk_below HF32.out hb5)
      have HF41 := Lib.hid (blk_below HF33.out hb5)
      have HB42 := Lib.hid (HB34.out.trans (hb5.mono HB34.out.size))
      have HRO3 := Lib.hid (HRO.out.kept hb5)
      clear hb5 HB34 HF32 HF33
      have hk43 : w.heap.size < w5.heap.size := lt_of_block HF40.out
      have hk44 : w3.heap.size < w5.heap.size := lt_of_block HF41.out
      have hc45 : w5.cell? ⟨w3.heap.size, 0, none⟩ = some (.string i) := by rw [cell_of_row _ _ _ _ _ _ HF41.out]; rfl
      have hc46 : w5.cell? ⟨w3.heap.size, 1, none⟩ = some (.string f) := by rw [cell_of_row _ _ _ _ _ _ HF41.out]; rfl
      have hc47 : w5.cell? ⟨w3.heap.size, 2, none⟩ = some (.string g) := by rw [cell_of_row _ _ _ _ _ _ HF41.out]; rfl
      have hc48 : w5.cell? ⟨w3.heap.size, 3, none⟩ = some (.slice A n c) := by rw [cell_of_row _ _ _ _ _ _ HF41.out]; rfl
      have hc49 : w5.cell? ⟨w3.heap.size, 4, none⟩ = some (.slice A2 n2 c2) := by rw [cell_of_row _ _ _ _ _ _ HF41.out]; rfl
      go_wp2_with (first
        | refine wpList_store_rowY rfl 59 (.tmp 4) (.tmp 38) rfl (w.heap.size) #[.string i, .string f, .string g, .slice A n c, .slice A2 n2 c2] rfl rfl 59 _ HF40.out (info_ed _ _ _ _ _) rfl (one_ed _ _ _ _ _ _ _ _ _) w.heap.size w HB42.out (by omega) ?_)
      intro W6 hbk hoth hbel _
      clear hc45 hc46 hc47 hc48 hc49
      have HF50 := Lib.hid hbk.out
      have HF51 := Lib.hid (blk_oth HF41.out hoth.out (by omega))
      have HB52 := Lib.hid hbel.out
      have HRO4 := Lib.hid (HRO3.out.hoth hoth.out (by omega))
      clear hbk hoth hbel HB42  HF40 HF41
      go_wp2_with fail
      refine bodyPost_ret (results_ctY rfl _ _ (w.heap.size) #[.string i, .string f, .string g, .slice A n c, .slice A2 n2 c2] rfl (run_loadVar_row _ (w.heap.size) 59 59 _ (0, 0) _ HF50.out Try.underlying59 rfl (info_ed _ _ _ _ _))) rfl ?_
      exact Or.inl ⟨f, g, l, ps, _, _, HIS.out, HUN.out, rfl, HRO4.out.mono (by omega), HB52.out⟩
    · have HNO := Lib.hid (show ∀ f0 g0 ss0 ps0, ¬ IsE i S f0 g0 ss0 ps0 from fun f0 g0 ss0 ps0 h0 => by
        obtain ⟨rfl, rfl, rfl, rfl⟩ := HUN.out f0 g0 ss0 ps0 h0
        exact hs (by rw [hT]; exact h0.2.2))
      have hqe := ba_neA hs
      have hqn : (T.toList != S.toList) = true := by rw [bne, hqe]; rfl
      clear hz hT hs
      have hc35 : wk.cell? ⟨w3.heap.size, 0, none⟩ = some (.string i) := by rw [cell_of_row _ _ _ _ _ _ HF33.out]; rfl
      have hc36 : wk.cell? ⟨w3.heap.size, 1, none⟩ = some (.string f) := by rw [cell_of_row _ _ _ _ _ _ HF33.out]; rfl
      have hc37 : wk.cell? ⟨w3.heap.size, 2, none⟩ = some (.string g) := by rw [cell_of_row _ _ _ _ _ _ HF33.out]; rfl
      have hc38 : wk.cell? ⟨w3.heap.size, 3, none⟩ = some (.slice A n c) := by rw [cell_of_row _ _ _ _ _ _ HF33.out]; rfl
      have hc39 : wk.cell? ⟨w3.heap.size, 4, none⟩ = some (.slice A2 n2 c2) := by rw [cell_of_row _ _ _ _ _ _ HF33.out]; rfl
      go_wp2_with fail
      clear hc35 hc36 hc37 hc38 hc39
      refine (HPN.out wk (HLP.out _ HRO.out)).mono ?_
      rintro e w5 ⟨rfl, hb5⟩
      have HF40 := Lib.hid (blk_below HF32.out hb5)
      have HF41 := Lib.hid (blk_below HF33.out hb5)
      have HB42 := Lib.hid (HB34.out.trans (hb5.mono HB34.out.size))
      have HRO3 := Lib.hid (HRO.out.kept hb5)
      clear hb5 HB34 HF32 HF33
      have hk43 : w.heap.size < w5.heap.size := lt_of_block HF40.out
      have hk44 : w3.heap.size < w5.heap.size := lt_of_block HF41.out
      have hc45 : w5.cell? ⟨w3.heap.size, 0, none⟩ = some (.string i) := by rw [cell_of_row _ _ _ _ _ _ HF41.out]; rfl
      have hc46 : w5.cell? ⟨w3.heap.size, 1, none⟩ = some (.string f) := by rw [cell_of_row _ _ _ _ _ _ HF41.out]; rfl
      have hc47 : w5.cell? ⟨w3.heap.size, 2, none⟩ = some (.string g) := by rw [cell_of_row _ _ _ _ _ _ HF41.out]; rfl
      have hc48 : w5.cell? ⟨w3.heap.size, 3, none⟩ = some (.slice A n c) := by rw [cell_of_row _ _ _ _ _ _ HF41.out]; rfl
      have hc49 : w5.cell? ⟨w3.heap.size, 4, none⟩ = some (.slice A2 n2 c2) := by rw [cell_of_row _ _ _ _ _ _ HF41.out]; rfl
      go_wp2_with (first
        | refine wpList_store_rowY rfl 59 (.tmp 4) (.tmp 37) rfl (w.heap.size) #[.string ⟨#[]⟩, .string ⟨#[]⟩, .string ⟨#[]⟩, .slice none 0 0, .slice none 0 0] rfl rfl 59 _ HF40.out (info_ed _ _ _ _ _) rfl (one_ed _ _ _ _ _ _ _ _ _) w.heap.size w HB42.out (by omega) ?_)
      intro W6 hbk hoth hbel _
      clear hc45 hc46 hc47 hc48 hc49
      have HF50 := Lib.hid hbk.out
      have HF51 := Lib.hid (blk_oth HF41.out hoth.out (by omega))
      have HB52 := Lib.hid hbel.out
      clear hbk hoth hbel HB42  HF40 HF41
      go_wp2_with fail
      refine bodyPost_ret (results_ctY rfl _ _ (w.heap.size) #[.string ⟨#[]⟩, .string ⟨#[]⟩, .string ⟨#[]⟩, .slice none 0 0, .slice none 0 0] rfl (run_loadVar_row _ (w.heap.size) 59 59 _ (0, 0) _ HF50.out Try.underlying59 rfl (info_ed _ _ _ _ _))) rfl ?_
      exact Or.inr ⟨HNO.out, rfl, HB52.out⟩
  · have HNO := Lib.hid (show ∀ f0 g0 ss0 ps0, ¬ IsE i S f0 g0 ss0 ps0 from fun f0 g0 ss0 ps0 h0 => by
      obtain ⟨rfl, rfl, rfl, rfl⟩ := HUN.out f0 g0 ss0 ps0 h0
      exact hz h0.1)
    obtain ⟨z, hzz⟩ : ∃ z, z = edW i f g l ps := ⟨_, rfl⟩
    have HPN := Lib.hid (fun (W : World) (q : LP W A n l A2 n2 ps) => pedge_no i f g A A2 n c n2 c2 l ps W q HOK.out hi hf hg hz)
    rw [← hzz] at HPN hz
    have hz1 : (z != 0) = true := by simpa using hz
    clear hz hzz
    have hc35 : wk.cell? ⟨w3.heap.size, 0, none⟩ = some (.string i) := by rw [cell_of_row _ _ _ _ _ _ HF33.out]; rfl
    have hc36 : wk.cell? ⟨w3.heap.size, 1, none⟩ = some (.string f) := by rw [cell_of_row _ _ _ _ _ _ HF33.out]; rfl
    have hc37 : wk.cell? ⟨w3.heap.size, 2, none⟩ = some (.string g) := by rw [cell_of_row _ _ _ _ _ _ HF33.out]; rfl
    have hc38 : wk.cell? ⟨w3.heap.size, 3, none⟩ = some (.slice A n c) := by rw [cell_of_row _ _ _ _ _ _ HF33.out]; rfl
    have hc39 : wk.cell? ⟨w3.heap.size, 4, none⟩ = some (.slice A2 n2 c2) := by rw [cell_of_row _ _ _ _ _ _ HF33.out]; rfl
    go_wp2_with fail
    clear hc35 hc36 hc37 hc38 hc39
    refine (HPN.out wk (HLP.out _ HRO.out)).mono ?_
    rintro e w5 ⟨rfl, hb5⟩
    have HF40 := Lib.hid (blk_below HF32.out hb5)
    have HF41 := Lib.hid (blk_below HF33.out hb5)
    have HB42 := Lib.hid (HB34.out.trans (hb5.mono HB34.out.size))
    have HRO3 := Lib.hid (HRO.out.kept hb5)
    clear hb5 HB34 HF32 HF33
    have hk43 : w.heap.size < w5.heap.size := lt_of_block HF40.out
    have hk44 : w3.heap.size < w5.heap.size := lt_of_block HF41.out
    have hc45 : w5.cell? ⟨w3.heap.size, 0, none⟩ = some (.string i) := by rw [cell_of_row _ _ _ _ _ _ HF41.out]; rfl
    have hc46 : w5.cell? ⟨w3.heap.size, 1, none⟩ = some (.string f) := by rw [cell_of_row _ _ _ _ _ _ HF41.out]; rfl
    have hc47 : w5.cell? ⟨w3.heap.size, 2, none⟩ = some (.string g) := by rw [cell_of_row _ _ _ _ _ _ HF41.out]; rfl
    have hc48 : w5.cell? ⟨w3.heap.size, 3, none⟩ = some (.slice A n c) := by rw [cell_of_row _ _ _ _ _ _ HF41.out]; rfl
    have hc49 : w5.cell? ⟨w3.heap.size, 4, none⟩ = some (.slice A2 n2 c2) := by rw [cell_of_row _ _ _ _ _ _ HF41.out]; rfl
    go_wp2_with (first
      | refine wpList_store_rowY rfl 59 (.tmp 4) (.tmp 37) rfl (w.heap.size) #[.string ⟨#[]⟩, .string ⟨#[]⟩, .string ⟨#[]⟩, .slice none 0 0, .slice none 0 0] rfl rfl 59 _ HF40.out (info_ed _ _ _ _ _) rfl (one_ed _ _ _ _ _ _ _ _ _) w.heap.size w HB42.out (by omega) ?_)
    intro W6 hbk hoth hbel _
    clear hc45 hc46 hc47 hc48 hc49
    have HF50 := Lib.hid hbk.out
    have HF51 := Lib.hid (blk_oth HF41.out hoth.out (by omega))
    have HB52 := Lib.hid hbel.out
    clear hbk hoth hbel HB42  HF40 HF41
    go_wp2_with fail
    refine bodyPost_ret (results_ctY rfl _ _ (w.heap.size) #[.string ⟨#[]⟩, .string ⟨#[]⟩, .string ⟨#[]⟩, .slice none 0 0, .slice none 0 0] rfl (run_loadVar_row _ (w.heap.size) 59 59 _ (0, 0) _ HF50.out Try.underlying59 rfl (info_ed _ _ _ _ _))) rfl ?_
    exact Or.inr ⟨HNO.out, rfl, HB52.out⟩
end Go.Proofs.Ytdjjabjegmbmaaa

namespace Go.Proofs.Ytdjjabjegmbmaaa
open Go.RowKit Vi Zp

set_option maxHeartbeats 8000000 in
set_option maxRecDepth 100000 in
theorem rtnode_any (i S : ByteArray) (w : World) (hi : i.size ≤ maxLen) (hS : S.size ≤ 999999) :
    Calls Try.prog 37 #[.string i, .string S] w (TakeN (.bool true) (.bool false) i S w) := by
  have hSm : S.size ≤ 1000000 := by omega
  have HST := Lib.hid (IsN.start i S)
  have HB1 := Lib.hid (Below.refl w.heap.size w)
  go_enter Try.func37, Try.ntmps37
  have HF2 := Lib.hid (blk_new w (.cells #[.string ⟨#[]⟩, .slice none 0 0, .slice none 0 0] 48 (0, 0)))
  have HB3 := Lib.hid (HB1.out.alloc HB1.out.size (.cells #[.string ⟨#[]⟩, .slice none 0 0, .slice none 0 0] 48 (0, 0)))
  clear HB1
  go_wp2_with fail
  refine (rread_any (IsN i S) S 0 0 (w.alloc (.cells #[.string ⟨#[]⟩, .slice none 0 0, .slice none 0 0] 48 (0, 0))) hS (Nat.zero_le _) HST.out).mono ?_
  rintro e w1 ⟨l, ps, vL, vP, q, er, rfl, hro, hd, hb⟩
  have hBA : w.heap.size < (w.alloc (.cells #[.string ⟨#[]⟩, .slice none 0 0, .slice none 0 0] 48 (0, 0))).heap.size := lt_of_block HF2.out
  have HF4 := Lib.hid (blk_below HF2.out hb)
  have HB5 := Lib.hid (HB3.out.trans (hb.mono HB3.out.size))
  have HRO := Lib.hid hro
  have HD := Lib.hid hd
  obtain ⟨base, hbase⟩ : ∃ x, x = (w.alloc (.cells #[.string ⟨#[]⟩, .slice none 0 0, .slice none 0 0] 48 (0, 0))).heap.size := ⟨_, rfl⟩
  rw [← hbase] at HRO hBA
  clear hb hro hd hbase HB3 HF2
  obtain ⟨A, c, A2, c2, rfl, rfl, _, _⟩ := HRO.out.lp
  obtain ⟨n, hn⟩ : ∃ n, n = l.length := ⟨_, rfl⟩
  obtain ⟨n2, hn2⟩ : ∃ n, n = ps.length := ⟨_, rfl⟩
  have HOK := Lib.hid (show LOk n l n2 ps by rw [hn, hn2]; exact HRO.out.ok)
  have HLP := Lib.hid (fun (W : World) (q : RdOk W base (.slice A n c) (.slice A2 n2 c2) l ps) => show LP W A n l A2 n2 ps by
    obtain ⟨A', c', A2', c2', e1, e2, h, _⟩ := q.lp
    rw [← hn] at e1 h
    rw [← hn2] at e2 h
    cases e1
    cases e2
    exact h)
  rw [← hn, ← hn2] at HRO
  rw [← hn, ← hn2]
  clear hn hn2
  have hk6 : w.heap.size < w1.heap.size := lt_of_block HF4.out
  have HF7 := Lib.hid (blk_alloc HF4.out (.cells #[.string S, .int .i64 (q : Int), .int .i64 er] 130 (0, 0)))
  have HF8 := Lib.hid (blk_new w1 (.cells #[.string S, .int .i64 (q : Int), .int .i64 er] 130 (0, 0)))
  have HB9 := Lib.hid (HB5.out.alloc HB5.out.size (.cells #[.string S, .int .i64 (q : Int), .int .i64 er] 130 (0, 0)))
  clear HB5

  have HF10 := Lib.hid (blk_alloc HF7.out (.cells #[.string i, .slice A n c, .slice A2 n2 c2] 48 (0, 0)))
  clear HF7
  have HF11 := Lib.hid (blk_alloc HF8.out (.cells #[.string i, .slice A n c, .slice A2 n2 c2] 48 (0, 0)))
  clear HF8
  have HF12 : Hid (((w1.alloc (.cells #[.string S, .int .i64 (q : Int), .int .i64 er] 130 (0, 0))).alloc (.cells #[.string i, .slice A n c, .slice A2 n2 c2] 48 (0, 0))).heap[w1.heap.size + 1]? = some (.cells #[.string i, .slice A n c, .slice A2 n2 c2] 48 (0, 0))) := Lib.hid (blk_newN (W := (w1.alloc (.cells #[.string S, .int .i64 (q : Int), .int .i64 er] 130 (0, 0)))) (o := (.cells #[.string i, .slice A n c, .slice A2 n2 c2] 48 (0, 0))) (by simp))
  have HB13 := Lib.hid (HB9.out.alloc (by have := HB9.out.size; simp at this ⊢ <;> omega) (.cells #[.string i, .slice A n c, .slice A2 n2 c2] 48 (0, 0)))
  clear HB9
  have HRO2 := Lib.hid ((HRO.out.kept ((Below.refl _ w1).alloc (Nat.le_refl _) (.cells #[.string S, .int .i64 (q : Int), .int .i64 er] 130 (0, 0)))).kept ((Below.refl _ _).alloc (Nat.le_refl _) (.cells #[.string i, .slice A n c, .slice A2 n2 c2] 48 (0, 0))))
  have HUN := Lib.hid (fun ss' ps' (h : IsN i S ss' ps') => show er = 0 ∧ ss' = l ∧ ps' = ps from ⟨(HD.out ss' ps' h).1, (HD.out ss' ps' h).2.1.symm, (HD.out ss' ps' h).2.2.symm⟩)
  by_cases her : er = 0
  rotate_left
  · have HNO := Lib.hid (show ∀ ss0 ps0, ¬ IsN i S ss0 ps0 from fun ss0 ps0 h0 => her (HUN.out ss0 ps0 h0).1)
    have hez : (er != 0) = true := by simpa using her
    clear her
    have hc14 : ((w1.alloc (.cells #[.string S, .int .i64 (q : Int), .int .i64 er] 130 (0, 0))).alloc (.cells #[.string i, .slice A n c, .slice A2 n2 c2] 48 (0, 0))).cell? ⟨w1.heap.size, 0, none⟩ = some (.string S) := by rw [cell_of_row _ _ _ _ _ _ HF11.out]; rfl
    have hc15 : ((w1.alloc (.cells #[.string S, .int .i64 (q : Int), .int .i64 er] 130 (0, 0))).alloc (.cells #[.string i, .slice A n c, .slice A2 n2 c2] 48 (0, 0))).cell? ⟨w1.heap.size, 1, none⟩ = some (.int .i64 (q : Int)) := by rw [cell_of_row _ _ _ _ _ _ HF11.out]; rfl
    have hc16 : ((w1.alloc (.cells #[.string S, .int .i64 (q : Int), .int .i64 er] 130 (0, 0))).alloc (.cells #[.string i, .slice A n c, .slice A2 n2 c2] 48 (0, 0))).cell? ⟨w1.heap.size, 2, none⟩ = some (.int .i64 er) := by rw [cell_of_row _ _ _ _ _ _ HF11.out]; rfl
    go_wp2_with (first
      | refine wpList_store_rowY rfl 48 (.tmp 4) (.tmp 35) rfl (w.heap.size) #[.string ⟨#[]⟩, .slice none 0 0, .slice none 0 0] rfl rfl 48 _ HF10.out (info_nd _ _ _) rfl (one_nd _ _ _ _ _ _ _) w.heap.size w HB13.out (by omega) ?_)
    intro W2 hbk hoth hbel _
    clear hc14 hc15 hc16
    have HF17 := Lib.hid hbk.out
    have HF18 := Lib.hid (blk_oth HF11.out hoth.out (by omega))
    have HF19 := Lib.hid (blk_oth HF12.out hoth.out (by omega))
    have HB20 := Lib.hid hbel.out
    clear hbk hoth hbel HB13  HF10 HF11 HF12
    go_wp2_with fail
    refine bodyPost_ret (results_ctY rfl _ _ (w.heap.size) #[.string ⟨#[]⟩, .slice none 0 0, .slice none 0 0] rfl (run_loadVar_row _ (w.heap.size) 48 48 _ (0, 0) _ HF17.out Try.underlying48 rfl (info_nd _ _ _))) rfl ?_
    exact Or.inr ⟨HNO.out, rfl, HB20.out⟩
  have hez : (er != 0) = false := by rw [her]; rfl
  have HER := Lib.hid her
  clear her
  obtain ⟨z, hzz⟩ : ∃ z, z = ndW i l ps := ⟨_, rfl⟩
  have HNC := Lib.hid (fun (W : World) (q : LP W A n l A2 n2 ps) => rnode_any i A A2 n c n2 c2 l ps W q HOK.out hi)
  rw [← hzz] at HNC
  by_cases hz : z = 0
  · have hz0 : ndW i l ps = 0 := by rw [← hzz]; exact hz
    have hz1 : (z != 0) = false := by rw [hz]; rfl
    obtain ⟨T, hT⟩ : ∃ T, T = ptS l ps := ⟨_, rfl⟩
    have HPN := Lib.hid (fun (W : World) (q : LP W A n l A2 n2 ps) => rpnode_yes i A A2 n c n2 c2 l ps W q HOK.out hi hz0 HRO.out.i)
    rw [← hT] at HPN
    by_cases hs : T = S
    · have HIS := Lib.hid (show IsN i S l ps from ⟨hz0, HRO.out.i, by rw [← hT, hs]⟩)
      have hqe : (T.toList == S.toList) = true := by rw [hs]; simp
      have hqn : (T.toList != S.toList) = false := by rw [hs]; simp
      clear hz hz0 hzz hT hs
      have hc14 : ((w1.alloc (.cells #[.string S, .int .i64 (q : Int), .int .i64 er] 130 (0, 0))).alloc (.cells #[.string i, .slice A n c, .slice A2 n2 c2] 48 (0, 0))).cell? ⟨w1.heap.size, 0, none⟩ = some (.string S) := by rw [cell_of_row _ _ _ _ _ _ HF11.out]; rfl
      have hc15 : ((w1.alloc (.cells #[.string S, .int .i64 (q : Int), .int .i64 er] 130 (0, 0))).alloc (.cells #[.string i, .slice A n c, .slice A2 n2 c2] 48 (0, 0))).cell? ⟨w1.heap.size, 1, none⟩ = some (.int .i64 (q : Int)) := by rw [cell_of_row _ _ _ _ _ _ HF11.out]; rfl
      have hc16 : ((w1.alloc (.cells #[.string S, .int .i64 (q : Int), .int .i64 er] 130 (0, 0))).alloc (.cells #[.string i, .slice A n c, .slice A2 n2 c2] 48 (0, 0))).cell? ⟨w1.heap.size, 2, none⟩ = some (.int .i64 er) := by rw [cell_of_row _ _ _ _ _ _ HF11.out]; rfl
      have hc17 : ((w1.alloc (.cells #[.string S, .int .i64 (q : Int), .int .i64 er] 130 (0, 0))).alloc (.cells #[.string i, .slice A n c, .slice A2 n2 c2] 48 (0, 0))).cell? ⟨w1.heap.size + 1, 0, none⟩ = some (.string i) := by rw [cell_of_row _ _ _ _ _ _ HF12.out]; rfl
      have hc18 : ((w1.alloc (.cells #[.string S, .int .i64 (q : Int), .int .i64 er] 130 (0, 0))).alloc (.cells #[.string i, .slice A n c, .slice A2 n2 c2] 48 (0, 0))).cell? ⟨w1.heap.size + 1, 1, none⟩ = some (.slice A n c) := by rw [cell_of_row _ _ _ _ _ _ HF12.out]; rfl
      have hc19 : ((w1.alloc (.cells #[.string S, .int .i64 (q : Int), .int .i64 er] 130 (0, 0))).alloc (.cells #[.string i, .slice A n c, .slice A2 n2 c2] 48 (0, 0))).cell? ⟨w1.heap.size + 1, 2, none⟩ = some (.slice A2 n2 c2) := by rw [cell_of_row _ _ _ _ _ _ HF12.out]; rfl
      go_wp2_with fail
      clear hc14 hc15 hc16 hc17 hc18 hc19
      refine (HNC.out ((w1.alloc (.cells #[.string S, .int .i64 (q : Int), .int .i64 er] 130 (0, 0))).alloc (.cells #[.string i, .slice A n c, .slice A2 n2 c2] 48 (0, 0))) (HLP.out _ HRO2.out)).mono ?_
      rintro e w2 ⟨rfl, hb2⟩
      have HF20 := Lib.hid (blk_below HF10.out hb2)
      have HF21 := Lib.hid (blk_below HF11.out hb2)
      have HF22 := Lib.hid (blk_below HF12.out hb2)
      have HB23 := Lib.hid (HB13.out.trans (hb2.mono HB13.out.size))
      have HRO5 := Lib.hid (HRO2.out.kept hb2)
      clear hb2 HB13 HF10 HF4 HF11 HF12
      have hc24 : w2.cell? ⟨w1.heap.size + 1, 0, none⟩ = some (.string i) := by rw [cell_of_row _ _ _ _ _ _ HF22.out]; rfl
      have hc25 : w2.cell? ⟨w1.heap.size + 1, 1, none⟩ = some (.slice A n c) := by rw [cell_of_row _ _ _ _ _ _ HF22.out]; rfl
      have hc26 : w2.cell? ⟨w1.heap.size + 1, 2, none⟩ = some (.slice A2 n2 c2) := by rw [cell_of_row _ _ _ _ _ _ HF22.out]; rfl
      go_wp2_with fail
      clear hc24 hc25 hc26
      refine (HPN.out w2 (HLP.out _ HRO5.out)).mono ?_
      rintro e w3 ⟨rfl, hb3⟩
      have HF27 := Lib.hid (blk_below HF20.out hb3)
      have HF28 := Lib.hid (blk_below HF21.out hb3)
      have HF29 := Lib.hid (blk_below HF22.out hb3)
      have HB30 := Lib.hid (HB23.out.trans (hb3.mono HB23.out.size))
      have HRO6 := Lib.hid (HRO5.out.kept hb3)
      clear hb3 HB23 HF20 HF21 HF22
      have hc31 : w3.cell? ⟨w1.heap.size + 1, 0, none⟩ = some (.string i) := by rw [cell_of_row _ _ _ _ _ _ HF29.out]; rfl
      have hc32 : w3.cell? ⟨w1.heap.size + 1, 1, none⟩ = some (.slice A n c) := by rw [cell_of_row _ _ _ _ _ _ HF29.out]; rfl
      have hc33 : w3.cell? ⟨w1.heap.size + 1, 2, none⟩ = some (.slice A2 n2 c2) := by rw [cell_of_row _ _ _ _ _ _ HF29.out]; rfl
      have hk34 : w.heap.size < w3.heap.size := lt_of_block HF27.out
      have hk35 : w1.heap.size < w3.heap.size := lt_of_block HF28.out
      have hk36 : w1.heap.size + 1 < w3.heap.size := lt_of_block HF29.out
      go_wp2_with (first
        | refine wpList_store_rowY rfl 48 (.tmp 4) (.tmp 36) rfl (w.heap.size) #[.string i, .slice A n c, .slice A2 n2 c2] rfl rfl 48 _ HF27.out (info_nd _ _ _) rfl (one_nd _ _ _ _ _ _ _) w.heap.size w HB30.out (by omega) ?_)
      intro W4 hbk hoth hbel _
      clear hc31 hc32 hc33
      have HF37 := Lib.hid hbk.out
      have HF38 := Lib.hid (blk_oth HF28.out hoth.out (by omega))
      have HF39 := Lib.hid (blk_oth HF29.out hoth.out (by omega))
      have HB40 := Lib.hid hbel.out
      have HRO9 := Lib.hid (HRO6.out.hoth hoth.out (by omega))
      clear hbk hoth hbel HB30  HF27 HF28 HF29
      go_wp2_with fail
      refine bodyPost_ret (results_ctY rfl _ _ (w.heap.size) #[.string i, .slice A n c, .slice A2 n2 c2] rfl (run_loadVar_row _ (w.heap.size) 48 48 _ (0, 0) _ HF37.out Try.underlying48 rfl (info_nd _ _ _))) rfl ?_
      exact Or.inl ⟨l, ps, _, _, HIS.out, (fun ss0 ps0 h0 => (HUN.out ss0 ps0 h0).2), rfl, HRO9.out.mono (by omega), HB40.out⟩
    · have HNO := Lib.hid (show ∀ ss0 ps0, ¬ IsN i S ss0 ps0 from fun ss0 ps0 h0 => by
        obtain ⟨her0, rfl, rfl⟩ := HUN.out ss0 ps0 h0
        exact hs (by rw [hT]; exact h0.2.2))
      have hqe := ba_neA hs
      have hqn : (T.toList != S.toList) = true := by rw [bne, hqe]; rfl
      clear hz hz0 hzz hT hs
      have hc14 : ((w1.alloc (.cells #[.string S, .int .i64 (q : Int), .int .i64 er] 130 (0, 0))).alloc (.cells #[.string i, .slice A n c, .slice A2 n2 c2] 48 (0, 0))).cell? ⟨w1.heap.size, 0, none⟩ = some (.string S) := by rw [cell_of_row _ _ _ _ _ _ HF11.out]; rfl
      have hc15 : ((w1.alloc (.cells #[.string S, .int .i64 (q : Int), .int .i64 er] 130 (0, 0))).alloc (.cells #[.string i, .slice A n c, .slice A2 n2 c2] 48 (0, 0))).cell? ⟨w1.heap.size, 1, none⟩ = some (.int .i64 (q : Int)) := by rw [cell_of_row _ _ _ _ _ _ HF11.out]; rfl
      have hc16 : ((w1.alloc (.cells #[.string S, .int .i64 (q : Int), .int .i64 er] 130 (0, 0))).alloc (.cells #[.string i, .slice A n c, .slice A2 n2 c2] 48 (0, 0))).cell? ⟨w1.heap.size, 2, none⟩ = some (.int .i64 er) := by rw [cell_of_row _ _ _ _ _ _ HF11.out]; rfl
      have hc17 : ((w1.alloc (.cells #[.string S, .int .i64 (q : Int), .int .i64 er] 130 (0, 0))).alloc (.cells #[.string i, .slice A n c, .slice A2 n2 c2] 48 (0, 0))).cell? ⟨w1.heap.size + 1, 0, none⟩ = some (.string i) := by rw [cell_of_row _ _ _ _ _ _ HF12.out]; rfl
      have hc18 : ((w1.alloc (.cells #[.string S, .int .i64 (q : Int), .int .i64 er] 130 (0, 0))).alloc (.cells #[.string i, .slice A n c, .slice A2 n2 c2] 48 (0, 0))).cell? ⟨w1.heap.size + 1, 1, none⟩ = some (.slice A n c) := by rw [cell_of_row _ _ _ _ _ _ HF12.out]; rfl
      have hc19 : ((w1.alloc (.cells #[.string S, .int .i64 (q : Int), .int .i64 er] 130 (0, 0))).alloc (.cells #[.string i, .slice A n c, .slice A2 n2 c2] 48 (0, 0))).cell? ⟨w1.heap.size + 1, 2, none⟩ = some (.slice A2 n2 c2) := by rw [cell_of_row _ _ _ _ _ _ HF12.out]; rfl
      go_wp2_with fail
      clear hc14 hc15 hc16 hc17 hc18 hc19
      refine (HNC.out ((w1.alloc (.cells #[.string S, .int .i64 (q : Int), .int .i64 er] 130 (0, 0))).alloc (.cells #[.string i, .slice A n c, .slice A2 n2 c2] 48 (0, 0))) (HLP.out _ HRO2.out)).mono ?_
      rintro e w2 ⟨rfl, hb2⟩
      have HF20 := Lib.hid (blk_below HF10.out hb2)
      have HF21 := Lib.hid (blk_below HF11.out hb2)
      have HF22 := Lib.hid (blk_below HF12.out hb2)
      have HB23 := Lib.hid (HB13.out.trans (hb2.mono HB13.out.size))
      have HRO5 := Lib.hid (HRO2.out.kept hb2)
      clear hb2 HB13 HF10 HF4 HF11 HF12
      have hc24 : w2.cell? ⟨w1.heap.size + 1, 0, none⟩ = some (.string i) := by rw [cell_of_row _ _ _ _ _ _ HF22.out]; rfl
      have hc25 : w2.cell? ⟨w1.heap.size + 1, 1, none⟩ = some (.slice A n c) := by rw [cell_of_row _ _ _ _ _ _ HF22.out]; rfl
      have hc26 : w2.cell? ⟨w1.heap.size + 1, 2, none⟩ = some (.slice A2 n2 c2) := by rw [cell_of_row _ _ _ _ _ _ HF22.out]; rfl
      go_wp2_with fail
      clear hc24 hc25 hc26
      refine (HPN.out w2 (HLP.out _ HRO5.out)).mono ?_
      rintro e w3 ⟨rfl, hb3⟩
      have HF27 := Lib.hid (blk_below HF20.out hb3)
      have HF28 := Lib.hid (blk_below HF21.out hb3)
      have HF29 := Lib.hid (blk_below HF22.out hb3)
      have HB30 := Lib.hid (HB23.out.trans (hb3.mono HB23.out.size))
      have HRO6 := Lib.hid (HRO5.out.kept hb3)
      clear hb3 HB23 HF20 HF21 HF22
      have hc31 : w3.cell? ⟨w1.heap.size + 1, 0, none⟩ = some (.string i) := by rw [cell_of_row _ _ _ _ _ _ HF29.out]; rfl
      have hc32 : w3.cell? ⟨w1.heap.size + 1, 1, none⟩ = some (.slice A n c) := by rw [cell_of_row _ _ _ _ _ _ HF29.out]; rfl
      have hc33 : w3.cell? ⟨w1.heap.size + 1, 2, none⟩ = some (.slice A2 n2 c2) := by rw [cell_of_row _ _ _ _ _ _ HF29.out]; rfl
      have hk34 : w.heap.size < w3.heap.size := lt_of_block HF27.out
      have hk35 : w1.heap.size < w3.heap.size := lt_of_block HF28.out
      have hk36 : w1.heap.size + 1 < w3.heap.size := lt_of_block HF29.out
      go_wp2_with (first
        | refine wpList_store_rowY rfl 48 (.tmp 4) (.tmp 35) rfl (w.heap.size) #[.string ⟨#[]⟩, .slice none 0 0, .slice none 0 0] rfl rfl 48 _ HF27.out (info_nd _ _ _) rfl (one_nd _ _ _ _ _ _ _) w.heap.size w HB30.out (by omega) ?_)
      intro W4 hbk hoth hbel _
      clear hc31 hc32 hc33
      have HF37 := Lib.hid hbk.out
      have HF38 := Lib.hid (blk_oth HF28.out hoth.out (by omega))
      have HF39 := Lib.hid (blk_oth HF29.out hoth.out (by omega))
      have HB40 := Lib.hid hbel.out
      clear hbk hoth hbel HB30  HF27 HF28 HF29
      go_wp2_with fail
      refine bodyPost_ret (results_ctY rfl _ _ (w.heap.size) #[.string ⟨#[]⟩, .slice none 0 0, .slice none 0 0] rfl (run_loadVar_row _ (w.heap.size) 48 48 _ (0, 0) _ HF37.out Try.underlying48 rfl (info_nd _ _ _))) rfl ?_
      exact Or.inr ⟨HNO.out, rfl, HB40.out⟩
  · have HNO := Lib.hid (show ∀ ss0 ps0, ¬ IsN i S ss0 ps0 from fun ss0 ps0 h0 => by
      obtain ⟨her0, rfl, rfl⟩ := HUN.out ss0 ps0 h0
      exact hz (by rw [hzz]; exact h0.1))
    have hz1 : (z != 0) = true := by simpa using hz
    clear hz hzz
    have hc14 : ((w1.alloc (.cells #[.string S, .int .i64 (q : Int), .int .i64 er] 130 (0, 0))).alloc (.cells #[.string i, .slice A n c, .slice A2 n2 c2] 48 (0, 0))).cell? ⟨w1.heap.size, 0, none⟩ = some (.string S) := by rw [cell_of_row _ _ _ _ _ _ HF11.out]; rfl
    have hc15 : ((w1.alloc (.cells #[.string S, .int .i64 (q : Int), .int .i64 er] 130 (0, 0))).alloc (.cells #[.string i, .slice A n c, .slice A2 n2 c2] 48 (0, 0))).cell? ⟨w1.heap.size, 1, none⟩ = some (.int .i64 (q : Int)) := by rw [cell_of_row _ _ _ _ _ _ HF11.out]; rfl
    have hc16 : ((w1.alloc (.cells #[.string S, .int .i64 (q : Int), .int .i64 er] 130 (0, 0))).alloc (.cells #[.string i, .slice A n c, .slice A2 n2 c2] 48 (0, 0))).cell? ⟨w1.heap.size, 2, none⟩ = some (.int .i64 er) := by rw [cell_of_row _ _ _ _ _ _ HF11.out]; rfl
    have hc17 : ((w1.alloc (.cells #[.string S, .int .i64 (q : Int), .int .i64 er] 130 (0, 0))).alloc (.cells #[.string i, .slice A n c, .slice A2 n2 c2] 48 (0, 0))).cell? ⟨w1.heap.size + 1, 0, none⟩ = some (.string i) := by rw [cell_of_row _ _ _ _ _ _ HF12.out]; rfl
    have hc18 : ((w1.alloc (.cells #[.string S, .int .i64 (q : Int), .int .i64 er] 130 (0, 0))).alloc (.cells #[.string i, .slice A n c, .slice A2 n2 c2] 48 (0, 0))).cell? ⟨w1.heap.size + 1, 1, none⟩ = some (.slice A n c) := by rw [cell_of_row _ _ _ _ _ _ HF12.out]; rfl
    have hc19 : ((w1.alloc (.cells #[.string S, .int .i64 (q : Int), .int .i64 er] 130 (0, 0))).alloc (.cells #[.string i, .slice A n c, .slice A2 n2 c2] 48 (0, 0))).cell? ⟨w1.heap.size + 1, 2, none⟩ = some (.slice A2 n2 c2) := by rw [cell_of_row _ _ _ _ _ _ HF12.out]; rfl
    go_wp2_with fail
    clear hc14 hc15 hc16 hc17 hc18 hc19
    refine (HNC.out ((w1.alloc (.cells #[.string S, .int .i64 (q : Int), .int .i64 er] 130 (0, 0))).alloc (.cells #[.string i, .slice A n c, .slice A2 n2 c2] 48 (0, 0))) (HLP.out _ HRO2.out)).mono ?_
    rintro e w2 ⟨rfl, hb2⟩
    have HF20 := Lib.hid (blk_below HF10.out hb2)
    have HF21 := Lib.hid (blk_below HF11.out hb2)
    have HF22 := Lib.hid (blk_below HF12.out hb2)
    have HB23 := Lib.hid (HB13.out.trans (hb2.mono HB13.out.size))
    have HRO5 := Lib.hid (HRO2.out.kept hb2)
    clear hb2 HB13 HF10 HF4 HF11 HF12
    have hc24 : w2.cell? ⟨w1.heap.size + 1, 0, none⟩ = some (.string i) := by rw [cell_of_row _ _ _ _ _ _ HF22.out]; rfl
    have hc25 : w2.cell? ⟨w1.heap.size + 1, 1, none⟩ = some (.slice A n c) := by rw [cell_of_row _ _ _ _ _ _ HF22.out]; rfl
    have hc26 : w2.cell? ⟨w1.heap.size + 1, 2, none⟩ = some (.slice A2 n2 c2) := by rw [cell_of_row _ _ _ _ _ _ HF22.out]; rfl
    have hk27 : w.heap.size < w2.heap.size := lt_of_block HF20.out
    have hk28 : w1.heap.size < w2.heap.size := lt_of_block HF21.out
    have hk29 : w1.heap.size + 1 < w2.heap.size := lt_of_block HF22.out
    go_wp2_with (first
      | refine wpList_store_rowY rfl 48 (.tmp 4) (.tmp 35) rfl (w.heap.size) #[.string ⟨#[]⟩, .slice none 0 0, .slice none 0 0] rfl rfl 48 _ HF20.out (info_nd _ _ _) rfl (one_nd _ _ _ _ _ _ _) w.heap.size w HB23.out (by omega) ?_)
    intro W3 hbk hoth hbel _
    clear hc24 hc25 hc26
    have HF30 := Lib.hid hbk.out
    have HF31 := Lib.hid (blk_oth HF21.out hoth.out (by omega))
    have HF32 := Lib.hid (blk_oth HF22.out hoth.out (by omega))
    have HB33 := Lib.hid hbel.out
    clear hbk hoth hbel HB23  HF20 HF21 HF22
    go_wp2_with fail
    refine bodyPost_ret (results_ctY rfl _ _ (w.heap.size) #[.string ⟨#[]⟩, .slice none 0 0, .slice none 0 0] rfl (run_loadVar_row _ (w.heap.size) 48 48 _ (0, 0) _ HF30.out Try.underlying48 rfl (info_nd _ _ _))) rfl ?_
    exact Or.inr ⟨HNO.out, rfl, HB33.out⟩
set_option maxHeartbeats 8000000 in
set_option maxRecDepth 100000 in
theorem rtedge_any (i S : ByteArray) (w : World) (hi : i.size ≤ maxLen) (hS : S.size ≤ 999999) :
    Calls Try.prog 39 #[.string i, .string S] w (TakeE (.bool true) (.bool false) i S w) := by
  have hSm : S.size ≤ 1000000 := by omega
  obtain ⟨f, q1, e1, hT1⟩ : ∃ a0 a1 a2, Rd.text S 0 0 100 = (a0, a1, a2) := ⟨_, _, _, rfl⟩
  have hq1 := Rd.text_le S 0 0 100 (Nat.zero_le _)
  have hf := text_size S 0 0 100
  rw [hT1] at hq1 hf
  dsimp only at hq1 hf
  obtain ⟨g, q2, e2, hT2⟩ : ∃ a0 a1 a2, Rd.text S q1 e1 100 = (a0, a1, a2) := ⟨_, _, _, rfl⟩
  have hq2 := Rd.text_le S q1 e1 100 hq1
  have hg := text_size S q1 e1 100
  rw [hT2] at hq2 hg
  dsimp only at hq2 hg
  have hf : f.size ≤ maxLen := by unfold maxLen; omega
  have hg : g.size ≤ maxLen := by unfold maxLen; omega
  have HT1 := Lib.hid (fun W : World => rtextA S 0 0 100 f q1 e1 W hSm (Nat.zero_le _) (by omega) (by omega) hT1)
  have HT2 := Lib.hid (fun W : World => rtextA S q1 e1 100 g q2 e2 W hSm hq1 (by omega) (by omega) hT2)
  have HFR := Lib.hid (fun (f0 g0 : ByteArray) (ss : List ByteArray) (ps : List Pr) (h : IsE i S f0 g0 ss ps) => h.front (m1 := 100) (m2 := 100) (by omega) (by omega) hT1 hT2)
  have HST := Lib.hid (IsE.start (i := i) (m1 := 100) (m2 := 100) (by omega) (by omega) hT1 hT2)
  clear hT1 hT2
  have HB1 := Lib.hid (Below.refl w.heap.size w)
  go_enter Try.func39, Try.ntmps39
  have HF2 := Lib.hid (blk_new w (.cells #[.string ⟨#[]⟩, .string ⟨#[]⟩, .string ⟨#[]⟩, .slice none 0 0, .slice none 0 0] 59 (0, 0)))
  have HB3 := Lib.hid (HB1.out.alloc HB1.out.size (.cells #[.string ⟨#[]⟩, .string ⟨#[]⟩, .string ⟨#[]⟩, .slice none 0 0, .slice none 0 0] 59 (0, 0)))
  clear HB1
  go_wp2_with fail
  refine (HT1.out (w.alloc (.cells #[.string ⟨#[]⟩, .string ⟨#[]⟩, .string ⟨#[]⟩, .slice none 0 0, .slice none 0 0] 59 (0, 0)))).mono ?_
  rintro e w1 ⟨rfl, hb1⟩
  have HF4 := Lib.hid (blk_below HF2.out hb1)
  have HB5 := Lib.hid (HB3.out.trans (hb1.mono HB3.out.size))
  clear hb1 HB3 HF2
  have hk6 : w.heap.size < w1.heap.size := lt_of_block HF4.out
  have HF7 := Lib.hid (blk_alloc HF4.out (.cells #[.string S, .int .i64 (q1 : Int), .int .i64 e1] 130 (0, 0)))
  have HF8 := Lib.hid (blk_new w1 (.cells #[.string S, .int .i64 (q1 : Int), .int .i64 e1] 130 (0, 0)))
  have HB9 := Lib.hid (HB5.out.alloc HB5.out.size (.cells #[.string S, .int .i64 (q1 : Int), .int .i64 e1] 130 (0, 0)))
  clear HB5
  have hc10 : (w1.alloc (.cells #[.string S, .int .i64 (q1 : Int), .int .i64 e1] 130 (0, 0))).cell? ⟨w1.heap.size, 0, none⟩ = some (.string S) := by rw [cell_of_row _ _ _ _ _ _ HF8.out]; rfl
  have hc11 : (w1.alloc (.cells #[.string S, .int .i64 (q1 : Int), .int .i64 e1] 130 (0, 0))).cell? ⟨w1.heap.size, 1, none⟩ = some (.int .i64 (q1 : Int)) := by rw [cell_of_row _ _ _ _ _ _ HF8.out]; rfl
  have hc12 : (w1.alloc (.cells #[.string S, .int .i64 (q1 : Int), .int .i64 e1] 130 (0, 0))).cell? ⟨w1.heap.size, 2, none⟩ = some (.int .i64 e1) := by rw [cell_of_row _ _ _ _ _ _ HF8.out]; rfl
  go_wp2_with fail
  clear hc10 hc11 hc12
  refine (HT2.out (w1.alloc (.cells #[.string S, .int .i64 (q1 : Int), .int .i64 e1] 130 (0, 0)))).mono ?_
  rintro e w2 ⟨rfl, hb2⟩
  have HF13 := Lib.hid (blk_below HF7.out hb2)
  have HF14 := Lib.hid (blk_below HF8.out hb2)
  have HB15 := Lib.hid (HB9.out.trans (hb2.mono HB9.out.size))
  clear hb2 HB9 HF7 HF4 HF8
  have hk16 : w.heap.size < w2.heap.size := lt_of_block HF13.out
  have hk17 : w1.heap.size < w2.heap.size := lt_of_block HF14.out
  go_wp2_with (first
    | refine wpList_store_rowY rfl 130 (.tmp 6) (.tmp 21) rfl (w1.heap.size) #[.string S, .int .i64 (q2 : Int), .int .i64 e2] rfl rfl 130 _ HF14.out (info_scA _ _ _) rfl (one_scA _ _ _) w.heap.size w HB15.out (by omega) ?_)
  intro W3 hbk hoth hbel _
  have HF18 := Lib.hid (blk_oth HF13.out hoth.out (by omega))
  have HF19 := Lib.hid hbk.out
  have HB20 := Lib.hid hbel.out
  clear hbk hoth hbel HB15  HF13 HF14
  have hk21 : w.heap.size < W3.heap.size := lt_of_block HF18.out
  have hk22 : w1.heap.size < W3.heap.size := lt_of_block HF19.out
  have hc23 : W3.cell? ⟨w1.heap.size, 0, none⟩ = some (.string S) := by rw [cell_of_row _ _ _ _ _ _ HF19.out]; rfl
  have hc24 : W3.cell? ⟨w1.heap.size, 1, none⟩ = some (.int .i64 (q2 : Int)) := by rw [cell_of_row _ _ _ _ _ _ HF19.out]; rfl
  have hc25 : W3.cell? ⟨w1.heap.size, 2, none⟩ = some (.int .i64 e2) := by rw [cell_of_row _ _ _ _ _ _ HF19.out]; rfl
  go_wp2_with fail
  clear hc23 hc24 hc25
  refine (rread_any (fun ss ps => ∃ f g, IsE i S f g ss ps) S q2 e2 W3 hS hq2 HST.out).mono ?_
  rintro e w4 ⟨l, ps, vL, vP, q, er, rfl, hro, hd, hb⟩
  have hBA : w.heap.size < W3.heap.size := lt_of_block HF18.out
  have hRA := lt_of_block HF19.out
  have HF26 := Lib.hid (blk_below HF18.out hb)
  have HF27 := Lib.hid (blk_below HF19.out hb)
  have HB28 := Lib.hid (HB20.out.trans (hb.mono HB20.out.size))
  have HRO := Lib.hid hro
  have HD := Lib.hid hd
  obtain ⟨base, hbase⟩ : ∃ x, x = W3.heap.size := ⟨_, rfl⟩
  rw [← hbase] at HRO hBA hRA
  clear hb hro hd hbase HB20 HF18 HF19
  obtain ⟨A, c, A2, c2, rfl, rfl, _, _⟩ := HRO.out.lp
  obtain ⟨n, hn⟩ : ∃ n, n = l.length := ⟨_, rfl⟩
  obtain ⟨n2, hn2⟩ : ∃ n, n = ps.length := ⟨_, rfl⟩
  have HOK := Lib.hid (show LOk n l n2 ps by rw [hn, hn2]; exact HRO.out.ok)
  have HLP := Lib.hid (fun (W : World) (q : RdOk W base (.slice A n c) (.slice A2 n2 c2) l ps) => show LP W A n l A2 n2 ps by
    obtain ⟨A', c', A2', c2', e1, e2, h, _⟩ := q.lp
    rw [← hn] at e1 h
    rw [← hn2] at e2 h
    cases e1
    cases e2
    exact h)
  rw [← hn, ← hn2] at HRO
  rw [← hn, ← hn2]
  clear hn hn2
  have hk29 : w.heap.size < w4.heap.size := lt_of_block HF26.out
  have hk30 : w1.heap.size < w4.heap.size := lt_of_block HF27.out
  go_wp2_with (first
    | refine wpList_store_rowY rfl 130 (.tmp 6) (.tmp 26) rfl (w1.heap.size) #[.string S, .int .i64 (q : Int), .int .i64 er] rfl rfl 130 _ HF27.out (info_scA _ _ _) rfl (one_scA _ _ _) w.heap.size w HB28.out (by omega) ?_)
  intro W5 hbk hoth hbel _
  have HF31 := Lib.hid (blk_oth HF26.out hoth.out (by omega))
  have HF32 := Lib.hid hbk.out
  have HB33 := Lib.hid hbel.out
  have HRO1 := Lib.hid (HRO.out.hoth hoth.out (by omega))
  clear hbk hoth hbel HB28  HF26 HF27
  have hk34 : w.heap.size < W5.heap.size := lt_of_block HF31.out
  have hk35 : w1.heap.size < W5.heap.size := lt_of_block HF32.out
  have HF36 := Lib.hid (blk_alloc HF31.out (.cells #[.string i, .string f, .string g, .slice A n c, .slice A2 n2 c2] 59 (0, 0)))
  have HF37 := Lib.hid (blk_alloc HF32.out (.cells #[.string i, .string f, .string g, .slice A n c, .slice A2 n2 c2] 59 (0, 0)))
  have HF38 := Lib.hid (blk_new W5 (.cells #[.string i, .string f, .string g, .slice A n c, .slice A2 n2 c2] 59 (0, 0)))
  have HB39 := Lib.hid (HB33.out.alloc HB33.out.size (.cells #[.string i, .string f, .string g, .slice A n c, .slice A2 n2 c2] 59 (0, 0)))
  clear HB33
  have HRO2 := Lib.hid (HRO1.out.kept ((Below.refl _ W5).alloc (Nat.le_refl _) (.cells #[.string i, .string f, .string g, .slice A n c, .slice A2 n2 c2] 59 (0, 0))))
  have hsl : ∀ f' g' ss' ps', IsE i S f' g' ss' ps' → er = 0 ∧ f' = f ∧ g' = g ∧ ss' = l ∧ ps' = ps := fun f' g' ss' ps' h => by
    obtain ⟨k1, k2, _⟩ := HFR.out f' g' ss' ps' h
    obtain ⟨k0, k3, k4⟩ := HD.out ss' ps' ⟨f', g', h⟩
    exact ⟨k0, k1.symm, k2.symm, k3.symm, k4.symm⟩
  have HUN := Lib.hid hsl
  clear hsl
  by_cases her : er = 0
  rotate_left
  · have HNO := Lib.hid (show ∀ f0 g0 ss0 ps0, ¬ IsE i S f0 g0 ss0 ps0 from fun f0 g0 ss0 ps0 h0 => her (HUN.out f0 g0 ss0 ps0 h0).1)
    have hez : (er != 0) = true := by simpa using her
    clear her
    have hc40 : (W5.alloc (.cells #[.string i, .string f, .string g, .slice A n c, .slice A2 n2 c2] 59 (0, 0))).cell? ⟨w1.heap.size, 0, none⟩ = some (.string S) := by rw [cell_of_row _ _ _ _ _ _ HF37.out]; rfl
    have hc41 : W5.cell? ⟨w1.heap.size, 0, none⟩ = some (.string S) := by rw [cell_of_row _ _ _ _ _ _ HF32.out]; rfl
    have hc42 : (W5.alloc (.cells #[.string i, .string f, .string g, .slice A n c, .slice A2 n2 c2] 59 (0, 0))).cell? ⟨w1.heap.size, 1, none⟩ = some (.int .i64 (q : Int)) := by rw [cell_of_row _ _ _ _ _ _ HF37.out]; rfl
    have hc43 : W5.cell? ⟨w1.heap.size, 1, none⟩ = some (.int .i64 (q : Int)) := by rw [cell_of_row _ _ _ _ _ _ HF32.out]; rfl
    have hc44 : (W5.alloc (.cells #[.string i, .string f, .string g, .slice A n c, .slice A2 n2 c2] 59 (0, 0))).cell? ⟨w1.heap.size, 2, none⟩ = some (.int .i64 er) := by rw [cell_of_row _ _ _ _ _ _ HF37.out]; rfl
    have hc45 : W5.cell? ⟨w1.heap.size, 2, none⟩ = some (.int .i64 er) := by rw [cell_of_row _ _ _ _ _ _ HF32.out]; rfl
    have hl46 : w1.heap.size < W5.heap.size := lt_of_block HF32.out
    have hl47 : ¬ w1.heap.size = W5.heap.size := by omega
    go_wp2_with (first
      | refine wpList_store_rowY rfl 59 (.tmp 4) (.tmp 49) rfl (w.heap.size) #[.string ⟨#[]⟩, .string ⟨#[]⟩, .string ⟨#[]⟩, .slice none 0 0, .slice none 0 0] rfl rfl 59 _ HF36.out (info_ed _ _ _ _ _) rfl (one_ed _ _ _ _ _ _ _ _ _) w.heap.size w HB39.out (by omega) ?_)
    intro W6 hbk hoth hbel _
    clear hc40 hc41 hc42 hc43 hc44 hc45 hl46 hl47
    have HF48 := Lib.hid hbk.out
    have HF49 := Lib.hid (blk_oth HF37.out hoth.out (by omega))
    have HF50 := Lib.hid (blk_oth HF38.out hoth.out (by omega))
    have HB51 := Lib.hid hbel.out
    clear hbk hoth hbel HB39  HF36 HF37 HF38
    go_wp2_with fail
    refine bodyPost_ret (results_ctY rfl _ _ (w.heap.size) #[.string ⟨#[]⟩, .string ⟨#[]⟩, .string ⟨#[]⟩, .slice none 0 0, .slice none 0 0] rfl (run_loadVar_row _ (w.heap.size) 59 59 _ (0, 0) _ HF48.out Try.underlying59 rfl (info_ed _ _ _ _ _))) rfl ?_
    exact Or.inr ⟨HNO.out, rfl, HB51.out⟩
  have hez : (er != 0) = false := by rw [her]; rfl
  have HER := Lib.hid her
  clear her
  obtain ⟨z, hzz⟩ : ∃ z, z = edW i f g l ps := ⟨_, rfl⟩
  have HNC := Lib.hid (fun (W : World) (q : LP W A n l A2 n2 ps) => redge_any i f g A A2 n c n2 c2 l ps W q HOK.out hi hf hg)
  rw [← hzz] at HNC
  by_cases hz : z = 0
  · have hz0 : edW i f g l ps = 0 := by rw [← hzz]; exact hz
    have hz1 : (z != 0) = false := by rw [hz]; rfl
    obtain ⟨T, hT⟩ : ∃ T, T = (tS f ++ tS g) ++ ptS l ps := ⟨_, rfl⟩
    have HPN := Lib.hid (fun (W : World) (q : LP W A n l A2 n2 ps) => rpedge_yes i f g A A2 n c n2 c2 l ps W q HOK.out hi hf hg hz0 HRO.out.i)
    rw [← hT] at HPN
    by_cases hs : T = S
    · have HIS := Lib.hid (show IsE i S f g l ps from ⟨hz0, HRO.out.i, by rw [← hT, hs]⟩)
      have hqe : (T.toList == S.toList) = true := by rw [hs]; simp
      have hqn : (T.toList != S.toList) = false := by rw [hs]; simp
      clear hz hz0 hzz hT hs
      have hc40 : (W5.alloc (.cells #[.string i, .string f, .string g, .slice A n c, .slice A2 n2 c2] 59 (0, 0))).cell? ⟨w1.heap.size, 0, none⟩ = some (.string S) := by rw [cell_of_row _ _ _ _ _ _ HF37.out]; rfl
      have hc41 : W5.cell? ⟨w1.heap.size, 0, none⟩ = some (.string S) := by rw [cell_of_row _ _ _ _ _ _ HF32.out]; rfl
      have hc42 : (W5.alloc (.cells #[.string i, .string f, .string g, .slice A n c, .slice A2 n2 c2] 59 (0, 0))).cell? ⟨w1.heap.size, 1, none⟩ = some (.int .i64 (q : Int)) := by rw [cell_of_row _ _ _ _ _ _ HF37.out]; rfl
      have hc43 : W5.cell? ⟨w1.heap.size, 1, none⟩ = some (.int .i64 (q : Int)) := by rw [cell_of_row _ _ _ _ _ _ HF32.out]; rfl
      have hc44 : (W5.alloc (.cells #[.string i, .string f, .string g, .slice A n c, .slice A2 n2 c2] 59 (0, 0))).cell? ⟨w1.heap.size, 2, none⟩ = some (.int .i64 er) := by rw [cell_of_row _ _ _ _ _ _ HF37.out]; rfl
      have hc45 : W5.cell? ⟨w1.heap.size, 2, none⟩ = some (.int .i64 er) := by rw [cell_of_row _ _ _ _ _ _ HF32.out]; rfl
      have hl46 : w1.heap.size < W5.heap.size := lt_of_block HF32.out
      have hl47 : ¬ w1.heap.size = W5.heap.size := by omega
      have hc48 : (W5.alloc (.cells #[.string i, .string f, .string g, .slice A n c, .slice A2 n2 c2] 59 (0, 0))).cell? ⟨W5.heap.size, 0, none⟩ = some (.string i) := by rw [cell_of_row _ _ _ _ _ _ HF38.out]; rfl
      have hc49 : (W5.alloc (.cells #[.string i, .string f, .string g, .slice A n c, .slice A2 n2 c2] 59 (0, 0))).cell? ⟨W5.heap.size, 1, none⟩ = some (.string f) := by rw [cell_of_row _ _ _ _ _ _ HF38.out]; rfl
      have hc50 : (W5.alloc (.cells #[.string i, .string f, .string g, .slice A n c, .slice A2 n2 c2] 59 (0, 0))).cell? ⟨W5.heap.size, 2, none⟩ = some (.string g) := by rw [cell_of_row _ _ _ _ _ _ HF38.out]; rfl
      have hc51 : (W5.alloc (.cells #[.string i, .string f, .string g, .slice A n c, .slice A2 n2 c2] 59 (0, 0))).cell? ⟨W5.heap.size, 3, none⟩ = some (.slice A n c) := by rw [cell_of_row _ _ _ _ _ _ HF38.out]; rfl
      have hc52 : (W5.alloc (.cells #[.string i, .string f, .string g, .slice A n c, .slice A2 n2 c2] 59 (0, 0))).cell? ⟨W5.heap.size, 4, none⟩ = some (.slice A2 n2 c2) := by rw [cell_of_row _ _ _ _ _ _ HF38.out]; rfl
      go_wp2_with fail
      clear hc40 hc41 hc42 hc43 hc44 hc45 hl46 hl47 hc48 hc49 hc50 hc51 hc52
      refine (HNC.out (W5.alloc (.cells #[.string i, .string f, .string g, .slice A n c, .slice A2 n2 c2] 59 (0, 0))) (HLP.out _ HRO2.out)).mono ?_
      rintro e w6 ⟨rfl, hb6⟩
      have HF53 := Lib.hid (blk_below HF36.out hb6)
      have HF54 := Lib.hid (blk_below HF37.out hb6)
      have HF55 := Lib.hid (blk_below HF38.out hb6)
      have HB56 := Lib.hid (HB39.out.trans (hb6.mono HB39.out.size))
      have HRO5 := Lib.hid (HRO2.out.kept hb6)
      clear hb6 HB39 HF36 HF31 HF37 HF32 HF38
      have hc57 : w6.cell? ⟨W5.heap.size, 0, none⟩ = some (.string i) := by rw [cell_of_row _ _ _ _ _ _ HF55.out]; rfl
      have hc58 : w6.cell? ⟨W5.heap.size, 1, none⟩ = some (.string f) := by rw [cell_of_row _ _ _ _ _ _ HF55.out]; rfl
      have hc59 : w6.cell? ⟨W5.heap.size, 2, none⟩ = some (.string g) := by rw [cell_of_row _ _ _ _ _ _ HF55.out]; rfl
      have hc60 : w6.cell? ⟨W5.heap.size, 3, none⟩ = some (.slice A n c) := by rw [cell_of_row _ _ _ _ _ _ HF55.out]; rfl
      have hc61 : w6.cell? ⟨W5.heap.size, 4, none⟩ = some (.slice A2 n2 c2) := by rw [cell_of_row _ _ _ _ _ _ HF55.out]; rfl
      go_wp2_with fail
      clear hc57 hc58 hc59 hc60 hc61
      refine (HPN.out w6 (HLP.out _ HRO5.out)).mono ?_
      rintro e w7 ⟨rfl, hb7⟩
      have HF62 := Lib.hid (blk_below HF53.out hb7)
      have HF63 := Lib.hid (blk_below HF54.out hb7)
      have HF64 := Lib.hid (blk_below HF55.out hb7)
      have HB65 := Lib.hid (HB56.out.trans (hb7.mono HB56.out.size))
      have HRO6 := Lib.hid (HRO5.out.kept hb7)
      clear hb7 HB56 HF53 HF54 HF55
      have hc66 : w7.cell? ⟨W5.heap.size, 0, none⟩ = some (.string i) := by rw [cell_of_row _ _ _ _ _ _ HF64.out]; rfl
      have hc67 : w7.cell? ⟨W5.heap.size, 1, none⟩ = some (.string f) := by rw [cell_of_row _ _ _ _ _ _ HF64.out]; rfl
      have hc68 : w7.cell? ⟨W5.heap.size, 2, none⟩ = some (.string g) := by rw [cell_of_row _ _ _ _ _ _ HF64.out]; rfl
      have hc69 : w7.cell? ⟨W5.heap.size, 3, none⟩ = some (.slice A n c) := by rw [cell_of_row _ _ _ _ _ _ HF64.out]; rfl
      have hc70 : w7.cell? ⟨W5.heap.size, 4, none⟩ = some (.slice A2 n2 c2) := by rw [cell_of_row _ _ _ _ _ _ HF64.out]; rfl
      have hk71 : w.heap.size < w7.heap.size := lt_of_block HF62.out
      have hk72 : w1.heap.size < w7.heap.size := lt_of_block HF63.out
      have hk73 : W5.heap.size < w7.heap.size := lt_of_block HF64.out
      go_wp2_with (first
        | refine wpList_store_rowY rfl 59 (.tmp 4) (.tmp 50) rfl (w.heap.size) #[.string i, .string f, .string g, .slice A n c, .slice A2 n2 c2] rfl rfl 59 _ HF62.out (info_ed _ _ _ _ _) rfl (one_ed _ _ _ _ _ _ _ _ _) w.heap.size w HB65.out (by omega) ?_)
      intro W8 hbk hoth hbel _
      clear hc66 hc67 hc68 hc69 hc70
      have HF74 := Lib.hid hbk.out
      have HF75 := Lib.hid (blk_oth HF63.out hoth.out (by omega))
      have HF76 := Lib.hid (blk_oth HF64.out hoth.out (by omega))
      have HB77 := Lib.hid hbel.out
      have HRO9 := Lib.hid (HRO6.out.hoth hoth.out (by omega))
      clear hbk hoth hbel HB65  HF62 HF63 HF64
      go_wp2_with fail
      refine bodyPost_ret (results_ctY rfl _ _ (w.heap.size) #[.string i, .string f, .string g, .slice A n c, .slice A2 n2 c2] rfl (run_loadVar_row _ (w.heap.size) 59 59 _ (0, 0) _ HF74.out Try.underlying59 rfl (info_ed _ _ _ _ _))) rfl ?_
      exact Or.inl ⟨f, g, l, ps, _, _, HIS.out, (fun f0 g0 ss0 ps0 h0 => (HUN.out f0 g0 ss0 ps0 h0).2), rfl, HRO9.out.mono (by omega), HB77.out⟩
    · have HNO := Lib.hid (show ∀ f0 g0 ss0 ps0, ¬ IsE i S f0 g0 ss0 ps0 from fun f0 g0 ss0 ps0 h0 => by
        obtain ⟨her0, rfl, rfl, rfl, rfl⟩ := HUN.out f0 g0 ss0 ps0 h0
        exact hs (by rw [hT]; exact h0.2.2))
      have hqe := ba_neA hs
      have hqn : (T.toList != S.toList) = true := by rw [bne, hqe]; rfl
      clear hz hz0 hzz hT hs
      have hc40 : (W5.alloc (.cells #[.string i, .string f, .string g, .slice A n c, .slice A2 n2 c2] 59 (0, 0))).cell? ⟨w1.heap.size, 0, none⟩ = some (.string S) := by rw [cell_of_row _ _ _ _ _ _ HF37.out]; rfl
      have hc41 : W5.cell? ⟨w1.heap.size, 0, none⟩ = some (.string S) := by rw [cell_of_row _ _ _ _ _ _ HF32.out]; rfl
      have hc42 : (W5.alloc (.cells #[.string i, .string f, .string g, .slice A n c, .slice A2 n2 c2] 59 (0, 0))).cell? ⟨w1.heap.size, 1, none⟩ = some (.int .i64 (q : Int)) := by rw [cell_of_row _ _ _ _ _ _ HF37.out]; rfl
      have hc43 : W5.cell? ⟨w1.heap.size, 1, none⟩ = some (.int .i64 (q : Int)) := by rw [cell_of_row _ _ _ _ _ _ HF32.out]; rfl
      have hc44 : (W5.alloc (.cells #[.string i, .string f, .string g, .slice A n c, .slice A2 n2 c2] 59 (0, 0))).cell? ⟨w1.heap.size, 2, none⟩ = some (.int .i64 er) := by rw [cell_of_row _ _ _ _ _ _ HF37.out]; rfl
      have hc45 : W5.cell? ⟨w1.heap.size, 2, none⟩ = some (.int .i64 er) := by rw [cell_of_row _ _ _ _ _ _ HF32.out]; rfl
      have hl46 : w1.heap.size < W5.heap.size := lt_of_block HF32.out
      have hl47 : ¬ w1.heap.size = W5.heap.size := by omega
      have hc48 : (W5.alloc (.cells #[.string i, .string f, .string g, .slice A n c, .slice A2 n2 c2] 59 (0, 0))).cell? ⟨W5.heap.size, 0, none⟩ = some (.string i) := by rw [cell_of_row _ _ _ _ _ _ HF38.out]; rfl
      have hc49 : (W5.alloc (.cells #[.string i, .string f, .string g, .slice A n c, .slice A2 n2 c2] 59 (0, 0))).cell? ⟨W5.heap.size, 1, none⟩ = some (.string f) := by rw [cell_of_row _ _ _ _ _ _ HF38.out]; rfl
      have hc50 : (W5.alloc (.cells #[.string i, .string f, .string g, .slice A n c, .slice A2 n2 c2] 59 (0, 0))).cell? ⟨W5.heap.size, 2, none⟩ = some (.string g) := by rw [cell_of_row _ _ _ _ _ _ HF38.out]; rfl
      have hc51 : (W5.alloc (.cells #[.string i, .string f, .string g, .slice A n c, .slice A2 n2 c2] 59 (0, 0))).cell? ⟨W5.heap.size, 3, none⟩ = some (.slice A n c) := by rw [cell_of_row _ _ _ _ _ _ HF38.out]; rfl
      have hc52 : (W5.alloc (.cells #[.string i, .string f, .string g, .slice A n c, .slice A2 n2 c2] 59 (0, 0))).cell? ⟨W5.heap.size, 4, none⟩ = some (.slice A2 n2 c2) := by rw [cell_of_row _ _ _ _ _ _ HF38.out]; rfl
      go_wp2_with fail
      clear hc40 hc41 hc42 hc43 hc44 hc45 hl46 hl47 hc48 hc49 hc50 hc51 hc52
      refine (HNC.out (W5.alloc (.cells #[.string i, .string f, .string g, .slice A n c, .slice A2 n2 c2] 59 (0, 0))) (HLP.out _ HRO2.out)).mono ?_
      rintro e w6 ⟨rfl, hb6⟩
      have HF53 := Lib.hid (blk_below HF36.out hb6)
      have HF54 := Lib.hid (blk_below HF37.out hb6)
      have HF55 := Lib.hid (blk_below HF38.out hb6)
      have HB56 := Lib.hid (HB39.out.trans (hb6.mono HB39.out.size))
      have HRO5 := Lib.hid (HRO2.out.kept hb6)
      clear hb6 HB39 HF36 HF31 HF37 HF32 HF38
      have hc57 : w6.cell? ⟨W5.heap.size, 0, none⟩ = some (.string i) := by rw [cell_of_row _ _ _ _ _ _ HF55.out]; rfl
      have hc58 : w6.cell? ⟨W5.heap.size, 1, none⟩ = some (.string f) := by rw [cell_of_row _ _ _ _ _ _ HF55.out]; rfl
      have hc59 : w6.cell? ⟨W5.heap.size, 2, none⟩ = some (.string g) := by rw [cell_of_row _ _ _ _ _ _ HF55.out]; rfl
      have hc60 : w6.cell? ⟨W5.heap.size, 3, none⟩ = some (.slice A n c) := by rw [cell_of_row _ _ _ _ _ _ HF55.out]; rfl
      have hc61 : w6.cell? ⟨W5.heap.size, 4, none⟩ = some (.slice A2 n2 c2) := by rw [cell_of_row _ _ _ _ _ _ HF55.out]; rfl
      go_wp2_with fail
      clear hc57 hc58 hc59 hc60 hc61
      refine (HPN.out w6 (HLP.out _ HRO5.out)).mono ?_
      rintro e w7 ⟨rfl, hb7⟩
      have HF62 := Lib.hid (blk_below HF53.out hb7)
      have HF63 := Lib.hid (blk_below HF54.out hb7)
      have HF64 := Lib.hid (blk_below HF55.out hb7)
      have HB65 := Lib.hid (HB56.out.trans (hb7.mono HB56.out.size))
      have HRO6 := Lib.hid (HRO5.out.kept hb7)
      clear hb7 HB56 HF53 HF54 HF55
      have hc66 : w7.cell? ⟨W5.heap.size, 0, none⟩ = some (.string i) := by rw [cell_of_row _ _ _ _ _ _ HF64.out]; rfl
      have hc67 : w7.cell? ⟨W5.heap.size, 1, none⟩ = some (.string f) := by rw [cell_of_row _ _ _ _ _ _ HF64.out]; rfl
      have hc68 : w7.cell? ⟨W5.heap.size, 2, none⟩ = some (.string g) := by rw [cell_of_row _ _ _ _ _ _ HF64.out]; rfl
      have hc69 : w7.cell? ⟨W5.heap.size, 3, none⟩ = some (.slice A n c) := by rw [cell_of_row _ _ _ _ _ _ HF64.out]; rfl
      have hc70 : w7.cell? ⟨W5.heap.size, 4, none⟩ = some (.slice A2 n2 c2) := by rw [cell_of_row _ _ _ _ _ _ HF64.out]; rfl
      have hk71 : w.heap.size < w7.heap.size := lt_of_block HF62.out
      have hk72 : w1.heap.size < w7.heap.size := lt_of_block HF63.out
      have hk73 : W5.heap.size < w7.heap.size := lt_of_block HF64.out
      go_wp2_with (first
        | refine wpList_store_rowY rfl 59 (.tmp 4) (.tmp 49) rfl (w.heap.size) #[.string ⟨#[]⟩, .string ⟨#[]⟩, .string ⟨#[]⟩, .slice none 0 0, .slice none 0 0] rfl rfl 59 _ HF62.out (info_ed _ _ _ _ _) rfl (one_ed _ _ _ _ _ _ _ _ _) w.heap.size w HB65.out (by omega) ?_)
      intro W8 hbk hoth hbel _
      clear hc66 hc67 hc68 hc69 hc70
      have HF74 := Lib.hid hbk.out
      have HF75 := Lib.hid (blk_oth HF63.out hoth.out (by omega))
      have HF76 := Lib.hid (blk_oth HF64.out hoth.out (by omega))
      have HB77 := Lib.hid hbel.out
      clear hbk hoth hbel HB65  HF62 HF63 HF64
      go_wp2_with fail
      refine bodyPost_ret (results_ctY rfl _ _ (w.heap.size) #[.string ⟨#[]⟩, .string ⟨#[]⟩, .string ⟨#[]⟩, .slice none 0 0, .slice none 0 0] rfl (run_loadVar_row _ (w.heap.size) 59 59 _ (0, 0) _ HF74.out Try.underlying59 rfl (info_ed _ _ _ _ _))) rfl ?_
      exact Or.inr ⟨HNO.out, rfl, HB77.out⟩
  · have HNO := Lib.hid (show ∀ f0 g0 ss0 ps0, ¬ IsE i S f0 g0 ss0 ps0 from fun f0 g0 ss0 ps0 h0 => by
      obtain ⟨her0, rfl, rfl, rfl, rfl⟩ := HUN.out f0 g0 ss0 ps0 h0
      exact hz (by rw [hzz]; exact h0.1))
    have hz1 : (z != 0) = true := by simpa using hz
    clear hz hzz
    have hc40 : (W5.alloc (.cells #[.string i, .string f, .string g, .slice A n c, .slice A2 n2 c2] 59 (0, 0))).cell? ⟨w1.heap.size, 0, none⟩ = some (.string S) := by rw [cell_of_row _ _ _ _ _ _ HF37.out]; rfl
    have hc41 : W5.cell? ⟨w1.heap.size, 0, none⟩ = some (.string S) := by rw [cell_of_row _ _ _ _ _ _ HF32.out]; rfl
    have hc42 : (W5.alloc (.cells #[.string i, .string f, .string g, .slice A n c, .slice A2 n2 c2] 59 (0, 0))).cell? ⟨w1.heap.size, 1, none⟩ = some (.int .i64 (q : Int)) := by rw [cell_of_row _ _ _ _ _ _ HF37.out]; rfl
    have hc43 : W5.cell? ⟨w1.heap.size, 1, none⟩ = some (.int .i64 (q : Int)) := by rw [cell_of_row _ _ _ _ _ _ HF32.out]; rfl
    have hc44 : (W5.alloc (.cells #[.string i, .string f, .string g, .slice A n c, .slice A2 n2 c2] 59 (0, 0))).cell? ⟨w1.heap.size, 2, none⟩ = some (.int .i64 er) := by rw [cell_of_row _ _ _ _ _ _ HF37.out]; rfl
    have hc45 : W5.cell? ⟨w1.heap.size, 2, none⟩ = some (.int .i64 er) := by rw [cell_of_row _ _ _ _ _ _ HF32.out]; rfl
    have hl46 : w1.heap.size < W5.heap.size := lt_of_block HF32.out
    have hl47 : ¬ w1.heap.size = W5.heap.size := by omega
    have hc48 : (W5.alloc (.cells #[.string i, .string f, .string g, .slice A n c, .slice A2 n2 c2] 59 (0, 0))).cell? ⟨W5.heap.size, 0, none⟩ = some (.string i) := by rw [cell_of_row _ _ _ _ _ _ HF38.out]; rfl
    have hc49 : (W5.alloc (.cells #[.string i, .string f, .string g, .slice A n c, .slice A2 n2 c2] 59 (0, 0))).cell? ⟨W5.heap.size, 1, none⟩ = some (.string f) := by rw [cell_of_row _ _ _ _ _ _ HF38.out]; rfl
    have hc50 : (W5.alloc (.cells #[.string i, .string f, .string g, .slice A n c, .slice A2 n2 c2] 59 (0, 0))).cell? ⟨W5.heap.size, 2, none⟩ = some (.string g) := by rw [cell_of_row _ _ _ _ _ _ HF38.out]; rfl
    have hc51 : (W5.alloc (.cells #[.string i, .string f, .string g, .slice A n c, .slice A2 n2 c2] 59 (0, 0))).cell? ⟨W5.heap.size, 3, none⟩ = some (.slice A n c) := by rw [cell_of_row _ _ _ _ _ _ HF38.out]; rfl
    have hc52 : (W5.alloc (.cells #[.string i, .string f, .string g, .slice A n c, .slice A2 n2 c2] 59 (0, 0))).cell? ⟨W5.heap.size, 4, none⟩ = some (.slice A2 n2 c2) := by rw [cell_of_row _ _ _ _ _ _ HF38.out]; rfl
    go_wp2_with fail
    clear hc40 hc41 hc42 hc43 hc44 hc45 hl46 hl47 hc48 hc49 hc50 hc51 hc52
    refine (HNC.out (W5.alloc (.cells #[.string i, .string f, .string g, .slice A n c, .slice A2 n2 c2] 59 (0, 0))) (HLP.out _ HRO2.out)).mono ?_
    rintro e w6 ⟨rfl, hb6⟩
    have HF53 := Lib.hid (blk_below HF36.out hb6)
    have HF54 := Lib.hid (blk_below HF37.out hb6)
    have HF55 := Lib.hid (blk_below HF38.out hb6)
    have HB56 := Lib.hid (HB39.out.trans (hb6.mono HB39.out.size))
    have HRO5 := Lib.hid (HRO2.out.kept hb6)
    clear hb6 HB39 HF36 HF31 HF37 HF32 HF38
    have hc57 : w6.cell? ⟨W5.heap.size, 0, none⟩ = some (.string i) := by rw [cell_of_row _ _ _ _ _ _ HF55.out]; rfl
    have hc58 : w6.cell? ⟨W5.heap.size, 1, none⟩ = some (.string f) := by rw [cell_of_row _ _ _ _ _ _ HF55.out]; rfl
    have hc59 : w6.cell? ⟨W5.heap.size, 2, none⟩ = some (.string g) := by rw [cell_of_row _ _ _ _ _ _ HF55.out]; rfl
    have hc60 : w6.cell? ⟨W5.heap.size, 3, none⟩ = some (.slice A n c) := by rw [cell_of_row _ _ _ _ _ _ HF55.out]; rfl
    have hc61 : w6.cell? ⟨W5.heap.size, 4, none⟩ = some (.slice A2 n2 c2) := by rw [cell_of_row _ _ _ _ _ _ HF55.out]; rfl
    have hk62 : w.heap.size < w6.heap.size := lt_of_block HF53.out
    have hk63 : w1.heap.size < w6.heap.size := lt_of_block HF54.out
    have hk64 : W5.heap.size < w6.heap.size := lt_of_block HF55.out
    go_wp2_with (first
      | refine wpList_store_rowY rfl 59 (.tmp 4) (.tmp 49) rfl (w.heap.size) #[.string ⟨#[]⟩, .string ⟨#[]⟩, .string ⟨#[]⟩, .slice none 0 0, .slice none 0 0] rfl rfl 59 _ HF53.out (info_ed _ _ _ _ _) rfl (one_ed _ _ _ _ _ _ _ _ _) w.heap.size w HB56.out (by omega) ?_)
    intro W7 hbk hoth hbel _
    clear hc57 hc58 hc59 hc60 hc61
    have HF65 := Lib.hid hbk.out
    have HF66 := Lib.hid (blk_oth HF54.out hoth.out (by omega))
    have HF67 := Lib.hid (blk_oth HF55.out hoth.out (by omega))
    have HB68 := Lib.hid hbel.out
    clear hbk hoth hbel HB56  HF53 HF54 HF55
    go_wp2_with fail
    refine bodyPost_ret (results_ctY rfl _ _ (w.heap.size) #[.string ⟨#[]⟩, .string ⟨#[]⟩, .string ⟨#[]⟩, .slice none 0 0, .slice none 0 0] rfl (run_loadVar_row _ (w.heap.size) 59 59 _ (0, 0) _ HF65.out Try.underlying59 rfl (info_ed _ _ _ _ _))) rfl ?_
    exact Or.inr ⟨HNO.out, rfl, HB68.out⟩
end Go.Proofs.Ytdjjabjegmbmaaa

namespace Go.Proofs.Ytdjjabjegmbmaaa
open Go.RowKit Vi Zp

set_option maxRecDepth 100000 in
set_option maxHeartbeats 2000000 in
theorem stexts_yes (A A2 : Option Addr) (n c c2 : Nat) (ss : List ByteArray) (w : World) (h : SlN w A n ss) (h2 : SlN w A2 n ss) (hn : (n : Int) ≤ 9223372036854775807) :
    Calls Try.prog 54 #[.slice A n c, .slice A2 n c2] w fun e w' => e = .returned (.bool true) ∧ Below w.heap.size w w' := by
  have H := Lib.hid h
  have H2 := Lib.hid h2
  have L := Lib.hid h.1
  clear h h2
  go_enter Try.func54, Try.ntmps54
  go_wp2_with fail
  go_loopw [5] (fun i wr => ∃ k : Nat, i = .int .i64 (k : Int) ∧ k ≤ n ∧ Below w.heap.size w wr) (fun i _ => n - (intOf i).toNat)
  case atStart => exact ⟨0, rfl, Nat.zero_le _, Below.refl _ _⟩
  case round =>
    obtain ⟨k, rfl, hk, hb⟩ := hrel
    have HB := Lib.hid hb
    clear hb
    by_cases hlt : k < n
    · have hd1 : decide ((k : Int) < (n : Int)) = true := decide_eq_true (by omega)
      have hl : k < ss.length := by rw [L.out]; exact hlt
      obtain ⟨b, off, rfl, hc⟩ := (H.out.later HB.out).2 (by omega)
      obtain ⟨b2, off2, rfl, hc2⟩ := (H2.out.later HB.out).2 (by omega)
      have a0 := hc k hl
      have a2 := hc2 k hl
      obtain ⟨s, hs⟩ : ∃ s, ss[k] = s := ⟨_, rfl⟩
      rw [hs] at a0 a2
      have hi0 : (0 : Int) ≤ (k : Int) := by omega
      clear hc hc2 hs
      go_wp2_with fail
      go_quiet (fail)
      go_wp2_with fail
      go_roundw
      case rel => exact ⟨k + 1, by go_num, by omega, ⟨HB.out.os, HB.out.tape, HB.out.output, HB.out.size, HB.out.block⟩⟩
      case measure => simp [intOf] <;> omega
    · have hd1 : decide ((k : Int) < (n : Int)) = false := decide_eq_false (by omega)
      go_wp2_with fail
      go_ret
      exact ⟨rfl, HB.out⟩
set_option maxRecDepth 100000 in
set_option maxHeartbeats 2000000 in
theorem sprops_yes (A A2 : Option Addr) (n c c2 : Nat) (ps : List Pr) (w : World) (h : RdX prC 4 w A n ps) (h2 : RdX prC 4 w A2 n ps) (hn : (n : Int) ≤ 9223372036854775807) :
    Calls Try.prog 49 #[.slice A n c, .slice A2 n c2] w fun e w' => e = .returned (.bool true) ∧ Below w.heap.size w w' := by
  have H := Lib.hid h
  have H2 := Lib.hid h2
  clear h h2
  go_enter Try.func49, Try.ntmps49
  go_wp2_with fail
  go_loopw [5] (fun i wr => ∃ k : Nat, i = .int .i64 (k : Int) ∧ k ≤ n ∧ Below w.heap.size w wr) (fun i _ => n - (intOf i).toNat)
  case atStart => exact ⟨0, rfl, Nat.zero_le _, Below.refl _ _⟩
  case round =>
    obtain ⟨k, rfl, hk, hb⟩ := hrel
    have HB := Lib.hid hb
    clear hb
    by_cases hlt : k < n
    · have hd1 : decide ((k : Int) < (n : Int)) = true := decide_eq_true (by omega)
      obtain ⟨b, off, hl, rfl, hbb, hc⟩ := (H.out.below HB.out).at hlt
      obtain ⟨b2, off2, hl2, rfl, hbb2, hc2⟩ := (H2.out.below HB.out).at hlt
      obtain ⟨x, hx⟩ : ∃ x, ps[k] = x := ⟨_, rfl⟩
      rw [hx] at hc hc2
      obtain ⟨s, a, d, t⟩ := x
      have a0 := hc 0 _ rfl
      have a1 := hc 1 _ rfl
      have a2 := hc 2 _ rfl
      have a3 := hc 3 _ rfl
      have b0 := hc2 0 _ rfl
      have b1 := hc2 1 _ rfl
      have b2' := hc2 2 _ rfl
      have b3 := hc2 3 _ rfl
      rw [Nat.add_zero] at a0 b0
      have hi0 : (0 : Int) ≤ (k : Int) := by omega
      clear hc hc2 hx
      go_wp2_with fail
      go_quiet (fail)
      go_wp2_with fail
      go_roundw
      case rel => exact ⟨k + 1, by go_num, by omega, ⟨HB.out.os, HB.out.tape, HB.out.output, HB.out.size, HB.out.block⟩⟩
      case measure => simp [intOf] <;> omega
    · have hd1 : decide ((k : Int) < (n : Int)) = false := decide_eq_false (by omega)
      go_wp2_with fail
      go_ret
      exact ⟨rfl, HB.out⟩
set_option maxRecDepth 100000 in
set_option maxHeartbeats 2000000 in
theorem snode_yes (i : ByteArray) (A A2 B B2 : Option Addr) (n c c2 m d d2 : Nat) (ss : List ByteArray) (ps : List Pr) (w : World) (h : LP w A n ss B m ps) (h2 : LP w A2 n ss B2 m ps) (hn : (n : Int) ≤ 9223372036854775807) (hm : (m : Int) ≤ 9223372036854775807) :
    Calls Try.prog 40 #[.agg #[.string i, .slice A n c, .slice B m d], .agg #[.string i, .slice A2 n c2, .slice B2 m d2]] w fun e w' => e = .returned (.bool true) ∧ Below w.heap.size w w' := by
  have H := Lib.hid h
  have H2 := Lib.hid h2
  clear h h2
  have hqi : (i.toList == i.toList) = true := by simp
  have HB1 := Lib.hid (Below.refl w.heap.size w)
  go_enter Try.func40, Try.ntmps40
  have HF2 := Lib.hid (blk_new w (.cells #[.string i, .slice A n c, .slice B m d] 48 (0, 0)))
  have HB3 := Lib.hid (HB1.out.alloc HB1.out.size (.cells #[.string i, .slice A n c, .slice B m d] 48 (0, 0)))
  clear HB1
  have HQ4 := Lib.hid (H.out.below ((Below.refl _ w).alloc (Nat.le_refl _) (.cells #[.string i, .slice A n c, .slice B m d] 48 (0, 0))))
  clear H
  have HQ5 := Lib.hid (H2.out.below ((Below.refl _ w).alloc (Nat.le_refl _) (.cells #[.string i, .slice A n c, .slice B m d] 48 (0, 0))))
  clear H2
  have HF6 := Lib.hid (blk_alloc HF2.out (.cells #[.string i, .slice A2 n c2, .slice B2 m d2] 48 (0, 0)))
  clear HF2
  have HF7 : Hid (((w.alloc (.cells #[.string i, .slice A n c, .slice B m d] 48 (0, 0))).alloc (.cells #[.string i, .slice A2 n c2, .slice B2 m d2] 48 (0, 0))).heap[w.heap.size + 1]? = some (.cells #[.string i, .slice A2 n c2, .slice B2 m d2] 48 (0, 0))) := Lib.hid (blk_newN (W := (w.alloc (.cells #[.string i, .slice A n c, .slice B m d] 48 (0, 0)))) (o := (.cells #[.string i, .slice A2 n c2, .slice B2 m d2] 48 (0, 0))) (by simp))
  have HB8 := Lib.hid (HB3.out.alloc (by have := HB3.out.size; simp at this ⊢ <;> omega) (.cells #[.string i, .slice A2 n c2, .slice B2 m d2] 48 (0, 0)))
  clear HB3
  have HQ9 := Lib.hid (HQ4.out.below ((Below.refl _ (w.alloc (.cells #[.string i, .slice A n c, .slice B m d] 48 (0, 0)))).alloc (Nat.le_refl _) (.cells #[.string i, .slice A2 n c2, .slice B2 m d2] 48 (0, 0))))
  clear HQ4
  have HQ10 := Lib.hid (HQ5.out.below ((Below.refl _ (w.alloc (.cells #[.string i, .slice A n c, .slice B m d] 48 (0, 0)))).alloc (Nat.le_refl _) (.cells #[.string i, .slice A2 n c2, .slice B2 m d2] 48 (0, 0))))
  clear HQ5
  have hc11 : ((w.alloc (.cells #[.string i, .slice A n c, .slice B m d] 48 (0, 0))).alloc (.cells #[.string i, .slice A2 n c2, .slice B2 m d2] 48 (0, 0))).cell? ⟨w.heap.size, 0, none⟩ = some (.string i) := by rw [cell_of_row _ _ _ _ _ _ HF6.out]; rfl
  have hc12 : ((w.alloc (.cells #[.string i, .slice A n c, .slice B m d] 48 (0, 0))).alloc (.cells #[.string i, .slice A2 n c2, .slice B2 m d2] 48 (0, 0))).cell? ⟨w.heap.size, 1, none⟩ = some (.slice A n c) := by rw [cell_of_row _ _ _ _ _ _ HF6.out]; rfl
  have hc13 : ((w.alloc (.cells #[.string i, .slice A n c, .slice B m d] 48 (0, 0))).alloc (.cells #[.string i, .slice A2 n c2, .slice B2 m d2] 48 (0, 0))).cell? ⟨w.heap.size, 2, none⟩ = some (.slice B m d) := by rw [cell_of_row _ _ _ _ _ _ HF6.out]; rfl
  have hc14 : ((w.alloc (.cells #[.string i, .slice A n c, .slice B m d] 48 (0, 0))).alloc (.cells #[.string i, .slice A2 n c2, .slice B2 m d2] 48 (0, 0))).cell? ⟨w.heap.size + 1, 0, none⟩ = some (.string i) := by rw [cell_of_row _ _ _ _ _ _ HF7.out]; rfl
  have hc15 : ((w.alloc (.cells #[.string i, .slice A n c, .slice B m d] 48 (0, 0))).alloc (.cells #[.string i, .slice A2 n c2, .slice B2 m d2] 48 (0, 0))).cell? ⟨w.heap.size + 1, 1, none⟩ = some (.slice A2 n c2) := by rw [cell_of_row _ _ _ _ _ _ HF7.out]; rfl
  have hc16 : ((w.alloc (.cells #[.string i, .slice A n c, .slice B m d] 48 (0, 0))).alloc (.cells #[.string i, .slice A2 n c2, .slice B2 m d2] 48 (0, 0))).cell? ⟨w.heap.size + 1, 2, none⟩ = some (.slice B2 m d2) := by rw [cell_of_row _ _ _ _ _ _ HF7.out]; rfl
  go_wp2_with fail
  clear hc11 hc12 hc13 hc14 hc15 hc16
  refine (stexts_yes A A2 n c c2 ss ((w.alloc (.cells #[.string i, .slice A n c, .slice B m d] 48 (0, 0))).alloc (.cells #[.string i, .slice A2 n c2, .slice B2 m d2] 48 (0, 0))) HQ9.out.l HQ10.out.l hn).mono ?_
  rintro e w1 ⟨rfl, hb1⟩
  have HF17 := Lib.hid (blk_below HF6.out hb1)
  have HF18 := Lib.hid (blk_below HF7.out hb1)
  have HB19 := Lib.hid (HB8.out.trans (hb1.mono HB8.out.size))
  have HQ20 := Lib.hid (HQ9.out.below hb1)
  clear HQ9
  have HQ21 := Lib.hid (HQ10.out.below hb1)
  clear HQ10
  clear hb1 HB8 HF6 HF7
  have hc22 : w1.cell? ⟨w.heap.size, 0, none⟩ = some (.string i) := by rw [cell_of_row _ _ _ _ _ _ HF17.out]; rfl
  have hc23 : w1.cell? ⟨w.heap.size, 1, none⟩ = some (.slice A n c) := by rw [cell_of_row _ _ _ _ _ _ HF17.out]; rfl
  have hc24 : w1.cell? ⟨w.heap.size, 2, none⟩ = some (.slice B m d) := by rw [cell_of_row _ _ _ _ _ _ HF17.out]; rfl
  have hc25 : w1.cell? ⟨w.heap.size + 1, 0, none⟩ = some (.string i) := by rw [cell_of_row _ _ _ _ _ _ HF18.out]; rfl
  have hc26 : w1.cell? ⟨w.heap.size + 1, 1, none⟩ = some (.slice A2 n c2) := by rw [cell_of_row _ _ _ _ _ _ HF18.out]; rfl
  have hc27 : w1.cell? ⟨w.heap.size + 1, 2, none⟩ = some (.slice B2 m d2) := by rw [cell_of_row _ _ _ _ _ _ HF18.out]; rfl
  go_wp2_with fail
  clear hc22 hc23 hc24 hc25 hc26 hc27
  refine (sprops_yes B B2 m d d2 ps w1 HQ20.out.p HQ21.out.p hm).mono ?_
  rintro e w2 ⟨rfl, hb2⟩
  have HF28 := Lib.hid (blk_below HF17.out hb2)
  have HF29 := Lib.hid (blk_below HF18.out hb2)
  have HB30 := Lib.hid (HB19.out.trans (hb2.mono HB19.out.size))
  have HQ31 := Lib.hid (HQ20.out.below hb2)
  clear HQ20
  have HQ32 := Lib.hid (HQ21.out.below hb2)
  clear HQ21
  clear hb2 HB19 HF17 HF18
  go_wp2_with fail
  go_ret
  exact ⟨rfl, HB30.out⟩
set_option maxRecDepth 100000 in
set_option maxHeartbeats 2000000 in
theorem sedge_yes (i f g : ByteArray) (A A2 B B2 : Option Addr) (n c c2 m d d2 : Nat) (ss : List ByteArray) (ps : List Pr) (w : World) (h : LP w A n ss B m ps) (h2 : LP w A2 n ss B2 m ps) (hn : (n : Int) ≤ 9223372036854775807) (hm : (m : Int) ≤ 9223372036854775807) :
    Calls Try.prog 41 #[.agg #[.string i, .string f, .string g, .slice A n c, .slice B m d], .agg #[.string i, .string f, .string g, .slice A2 n c2, .slice B2 m d2]] w fun e w' => e = .returned (.bool true) ∧ Below w.heap.size w w' := by
  have H := Lib.hid h
  have H2 := Lib.hid h2
  clear h h2
  have hqi : (i.toList == i.toList) = true := by simp
  have hqf : (f.toList == f.toList) = true := by simp
  have hqg : (g.toList == g.toList) = true := by simp
  have HB1 := Lib.hid (Below.refl w.heap.size w)
  go_enter Try.func41, Try.ntmps41
  have HF2 := Lib.hid (blk_new w (.cells #[.string i, .string f, .string g, .slice A n c, .slice B m d] 59 (0, 0)))
  have HB3 := Lib.hid (HB1.out.alloc HB1.out.size (.cells #[.string i, .string f, .string g, .slice A n c, .slice B m d] 59 (0, 0)))
  clear HB1
  have HQ4 := Lib.hid (H.out.below ((Below.refl _ w).alloc (Nat.le_refl _) (.cells #[.string i, .string f, .string g, .slice A n c, .slice B m d] 59 (0, 0))))
  clear H
  have HQ5 := Lib.hid (H2.out.below ((Below.refl _ w).alloc (Nat.le_refl _) (.cells #[.string i, .string f, .string g, .slice A n c, .slice B m d] 59 (0, 0))))
  clear H2
  have HF6 := Lib.hid (blk_alloc HF2.out (.cells #[.string i, .string f, .string g, .slice A2 n c2, .slice B2 m d2] 59 (0, 0)))
  clear HF2
  have HF7 : Hid (((w.alloc (.cells #[.string i, .string f, .string g, .slice A n c, .slice B m d] 59 (0, 0))).alloc (.cells #[.string i, .string f, .string g, .slice A2 n c2, .slice B2 m d2] 59 (0, 0))).heap[w.heap.size + 1]? = some (.cells #[.string i, .string f, .string g, .slice A2 n c2, .slice B2 m d2] 59 (0, 0))) := Lib.hid (blk_newN (W := (w.alloc (.cells #[.string i, .string f, .string g, .slice A n c, .slice B m d] 59 (0, 0)))) (o := (.cells #[.string i, .string f, .string g, .slice A2 n c2, .slice B2 m d2] 59 (0, 0))) (by simp))
  have HB8 := Lib.hid (HB3.out.alloc (by have := HB3.out.size; simp at this ⊢ <;> omega) (.cells #[.string i, .string f, .string g, .slice A2 n c2, .slice B2 m d2] 59 (0, 0)))
  clear HB3
  have HQ9 := Lib.hid (HQ4.out.below ((Below.refl _ (w.alloc (.cells #[.string i, .string f, .string g, .slice A n c, .slice B m d] 59 (0, 0)))).alloc (Nat.le_refl _) (.cells #[.string i, .string f, .string g, .slice A2 n c2, .slice B2 m d2] 59 (0, 0))))
  clear HQ4
  have HQ10 := Lib.hid (HQ5.out.below ((Below.refl _ (w.alloc (.cells #[.string i, .string f, .string g, .slice A n c, .slice B m d] 59 (0, 0)))).alloc (Nat.le_refl _) (.cells #[.string i, .string f, .string g, .slice A2 n c2, .slice B2 m d2] 59 (0, 0))))
  clear HQ5
  have hc11 : ((w.alloc (.cells #[.string i, .string f, .string g, .slice A n c, .slice B m d] 59 (0, 0))).alloc (.cells #[.string i, .string f, .string g, .slice A2 n c2, .slice B2 m d2] 59 (0, 0))).cell? ⟨w.heap.size, 0, none⟩ = some (.string i) := by rw [cell_of_row _ _ _ _ _ _ HF6.out]; rfl
  have hc12 : ((w.alloc (.cells #[.string i, .string f, .string g, .slice A n c, .slice B m d] 59 (0, 0))).alloc (.cells #[.string i, .string f, .string g, .slice A2 n c2, .slice B2 m d2] 59 (0, 0))).cell? ⟨w.heap.size, 1, none⟩ = some (.string f) := by rw [cell_of_row _ _ _ _ _ _ HF6.out]; rfl
  have hc13 : ((w.alloc (.cells #[.string i, .string f, .string g, .slice A n c, .slice B m d] 59 (0, 0))).alloc (.cells #[.string i, .string f, .string g, .slice A2 n c2, .slice B2 m d2] 59 (0, 0))).cell? ⟨w.heap.size, 2, none⟩ = some (.string g) := by rw [cell_of_row _ _ _ _ _ _ HF6.out]; rfl
  have hc14 : ((w.alloc (.cells #[.string i, .string f, .string g, .slice A n c, .slice B m d] 59 (0, 0))).alloc (.cells #[.string i, .string f, .string g, .slice A2 n c2, .slice B2 m d2] 59 (0, 0))).cell? ⟨w.heap.size, 3, none⟩ = some (.slice A n c) := by rw [cell_of_row _ _ _ _ _ _ HF6.out]; rfl
  have hc15 : ((w.alloc (.cells #[.string i, .string f, .string g, .slice A n c, .slice B m d] 59 (0, 0))).alloc (.cells #[.string i, .string f, .string g, .slice A2 n c2, .slice B2 m d2] 59 (0, 0))).cell? ⟨w.heap.size, 4, none⟩ = some (.slice B m d) := by rw [cell_of_row _ _ _ _ _ _ HF6.out]; rfl
  have hc16 : ((w.alloc (.cells #[.string i, .string f, .string g, .slice A n c, .slice B m d] 59 (0, 0))).alloc (.cells #[.string i, .string f, .string g, .slice A2 n c2, .slice B2 m d2] 59 (0, 0))).cell? ⟨w.heap.size + 1, 0, none⟩ = some (.string i) := by rw [cell_of_row _ _ _ _ _ _ HF7.out]; rfl
  have hc17 : ((w.alloc (.cells #[.string i, .string f, .string g, .slice A n c, .slice B m d] 59 (0, 0))).alloc (.cells #[.string i, .string f, .string g, .slice A2 n c2, .slice B2 m d2] 59 (0, 0))).cell? ⟨w.heap.size + 1, 1, none⟩ = some (.string f) := by rw [cell_of_row _ _ _ _ _ _ HF7.out]; rfl
  have hc18 : ((w.alloc (.cells #[.string i, .string f, .string g, .slice A n c, .slice B m d] 59 (0, 0))).alloc (.cells #[.string i, .string f, .string g, .slice A2 n c2, .slice B2 m d2] 59 (0, 0))).cell? ⟨w.heap.size + 1, 2, none⟩ = some (.string g) := by rw [cell_of_row _ _ _ _ _ _ HF7.out]; rfl
  have hc19 : ((w.alloc (.cells #[.string i, .string f, .string g, .slice A n c, .slice B m d] 59 (0, 0))).alloc (.cells #[.string i, .string f, .string g, .slice A2 n c2, .slice B2 m d2] 59 (0, 0))).cell? ⟨w.heap.size + 1, 3, none⟩ = some (.slice A2 n c2) := by rw [cell_of_row _ _ _ _ _ _ HF7.out]; rfl
  have hc20 : ((w.alloc (.cells #[.string i, .string f, .string g, .slice A n c, .slice B m d] 59 (0, 0))).alloc (.cells #[.string i, .string f, .string g, .slice A2 n c2, .slice B2 m d2] 59 (0, 0))).cell? ⟨w.heap.size + 1, 4, none⟩ = some (.slice B2 m d2) := by rw [cell_of_row _ _ _ _ _ _ HF7.out]; rfl
  go_wp2_with fail
  clear hc11 hc12 hc13 hc14 hc15 hc16 hc17 hc18 hc19 hc20
  refine (stexts_yes A A2 n c c2 ss ((w.alloc (.cells #[.string i, .string f, .string g, .slice A n c, .slice B m d] 59 (0, 0))).alloc (.cells #[.string i, .string f, .string g, .slice A2 n c2, .slice B2 m d2] 59 (0, 0))) HQ9.out.l HQ10.out.l hn).mono ?_
  rintro e w1 ⟨rfl, hb1⟩
  have HF21 := Lib.hid (blk_below HF6.out hb1)
  have HF22 := Lib.hid (blk_below HF7.out hb1)
  have HB23 := Lib.hid (HB8.out.trans (hb1.mono HB8.out.size))
  have HQ24 := Lib.hid (HQ9.out.below hb1)
  clear HQ9
  have HQ25 := Lib.hid (HQ10.out.below hb1)
  clear HQ10
  clear hb1 HB8 HF6 HF7
  have hc26 : w1.cell? ⟨w.heap.size, 0, none⟩ = some (.string i) := by rw [cell_of_row _ _ _ _ _ _ HF21.out]; rfl
  have hc27 : w1.cell? ⟨w.heap.size, 1, none⟩ = some (.string f) := by rw [cell_of_row _ _ _ _ _ _ HF21.out]; rfl
  have hc28 : w1.cell? ⟨w.heap.size, 2, none⟩ = some (.string g) := by rw [cell_of_row _ _ _ _ _ _ HF21.out]; rfl
  have hc29 : w1.cell? ⟨w.heap.size, 3, none⟩ = some (.slice A n c) := by rw [cell_of_row _ _ _ _ _ _ HF21.out]; rfl
  have hc30 : w1.cell? ⟨w.heap.size, 4, none⟩ = some (.slice B m d) := by rw [cell_of_row _ _ _ _ _ _ HF21.out]; rfl
  have hc31 : w1.cell? ⟨w.heap.size + 1, 0, none⟩ = some (.string i) := by rw [cell_of_row _ _ _ _ _ _ HF22.out]; rfl
  have hc32 : w1.cell? ⟨w.heap.size + 1, 1, none⟩ = some (.string f) := by rw [cell_of_row _ _ _ _ _ _ HF22.out]; rfl
  have hc33 : w1.cell? ⟨w.heap.size + 1, 2, none⟩ = some (.string g) := by rw [cell_of_row _ _ _ _ _ _ HF22.out]; rfl
  have hc34 : w1.cell? ⟨w.heap.size + 1, 3, none⟩ = some (.slice A2 n c2) := by rw [cell_of_row _ _ _ _ _ _ HF22.out]; rfl
  have hc35 : w1.cell? ⟨w.heap.size + 1, 4, none⟩ = some (.slice B2 m d2) := by rw [cell_of_row _ _ _ _ _ _ HF22.out]; rfl
  go_wp2_with fail
  clear hc26 hc27 hc28 hc29 hc30 hc31 hc32 hc33 hc34 hc35
  refine (sprops_yes B B2 m d d2 ps w1 HQ24.out.p HQ25.out.p hm).mono ?_
  rintro e w2 ⟨rfl, hb2⟩
  have HF36 := Lib.hid (blk_below HF21.out hb2)
  have HF37 := Lib.hid (blk_below HF22.out hb2)
  have HB38 := Lib.hid (HB23.out.trans (hb2.mono HB23.out.size))
  have HQ39 := Lib.hid (HQ24.out.below hb2)
  clear HQ24
  have HQ40 := Lib.hid (HQ25.out.below hb2)
  clear HQ25
  clear hb2 HB23 HF21 HF22
  go_wp2_with fail
  go_ret
  exact ⟨rfl, HB38.out⟩
/-- a node, an edge, and what is said with it -/
def TkN (j : ByteArray) (l : List ByteArray) (ps : List Pr) (v : Value) (w : World) (e : Ending) (w' : World) : Prop :=
  ∃ A c A2 c2, e = .returned (.tuple #[.agg #[.string j, .slice A l.length c, .slice A2 ps.length c2], v]) ∧ LP w' A l.length l A2 ps.length ps ∧ Below w.heap.size w w'
def TkE (j f g : ByteArray) (l : List ByteArray) (ps : List Pr) (v : Value) (w : World) (e : Ending) (w' : World) : Prop :=
  ∃ A c A2 c2, e = .returned (.tuple #[.agg #[.string j, .string f, .string g, .slice A l.length c, .slice A2 ps.length c2], v]) ∧ LP w' A l.length l A2 ps.length ps ∧ Below w.heap.size w w'
theorem LP.nil (w : World) : LP w none 0 [] none 0 [] := ⟨⟨rfl, fun h => by omega⟩, RdX.nil⟩
theorem TakeN.yes {ok bad : Value} {i S : ByteArray} {w : World} {ss : List ByteArray} {ps : List Pr} (h : IsN i S ss ps) (e : Ending) (w' : World) (k : TakeN ok bad i S w e w') : TkN i ss ps ok w e w' := by
  rcases k with ⟨ss', ps', vL, vP, h1, h2, rfl, h4, h5⟩ | ⟨h1, _⟩
  · obtain ⟨rfl, rfl⟩ := h2 ss ps h
    obtain ⟨A, c, A2, c2, rfl, rfl, r, _⟩ := h4.lp
    exact ⟨A, c, A2, c2, rfl, r, h5⟩
  · exact absurd h (h1 _ _)
theorem TakeN.no {ok bad : Value} {i S : ByteArray} {w : World} (h : ∀ ss ps, ¬ IsN i S ss ps) (e : Ending) (w' : World) (k : TakeN ok bad i S w e w') : TkN ⟨#[]⟩ [] [] bad w e w' := by
  rcases k with ⟨ss', ps', vL, vP, h1, _⟩ | ⟨_, rfl, h3⟩
  · exact absurd h1 (h _ _)
  · exact ⟨none, 0, none, 0, rfl, LP.nil _, h3⟩
theorem TakeE.yes {ok bad : Value} {i S f g : ByteArray} {w : World} {ss : List ByteArray} {ps : List Pr} (h : IsE i S f g ss ps) (e : Ending) (w' : World) (k : TakeE ok bad i S w e w') : TkE i f g ss ps ok w e w' := by
  rcases k with ⟨f', g', ss', ps', vL, vP, h1, h2, rfl, h4, h5⟩ | ⟨h1, _⟩
  · obtain ⟨rfl, rfl, rfl, rfl⟩ := h2 f g ss ps h
    obtain ⟨A, c, A2, c2, rfl, rfl, r, _⟩ := h4.lp
    exact ⟨A, c, A2, c2, rfl, r, h5⟩
  · exact absurd h (h1 _ _ _ _)
theorem TakeE.no {ok bad : Value} {i S : ByteArray} {w : World} (h : ∀ f g ss ps, ¬ IsE i S f g ss ps) (e : Ending) (w' : World) (k : TakeE ok bad i S w e w') : TkE ⟨#[]⟩ ⟨#[]⟩ ⟨#[]⟩ [] [] bad w e w' := by
  rcases k with ⟨f', g', ss', ps', vL, vP, h1, _⟩ | ⟨_, rfl, h3⟩
  · exact absurd h1 (h _ _ _ _)
  · exact ⟨none, 0, none, 0, rfl, LP.nil _, h3⟩
theorem IsN.small {i S : ByteArray} {ss : List ByteArray} {ps : List Pr} (h : IsN i S ss ps) : ss.length ≤ 8 ∧ ps.length ≤ 8 := by
  have := rs_sm (nd_zero h.1).2 h.2.1
  exact ⟨this.l, this.pl⟩
theorem IsE.small {i S f g : ByteArray} {ss : List ByteArray} {ps : List Pr} (h : IsE i S f g ss ps) : ss.length ≤ 8 ∧ ps.length ≤ 8 := by
  have := rs_sm (ed_zero h.1).2.2.2 h.2.1
  exact ⟨this.l, this.pl⟩
/-- both sides take the same -/
theorem both_n (i S : ByteArray) (hi : i.size ≤ maxLen) (hS : S.size ≤ 999999) : ∃ (j : ByteArray) (l : List ByteArray) (ps : List Pr) (z : Int) (b : Bool), l.length ≤ 8 ∧ ps.length ≤ 8 ∧ ((z = 0 ∧ b = true) ∨ (z = 3 ∧ b = false)) ∧
    Hid (∀ W, Calls Try.prog 36 #[.string i, .string S] W (TkN j l ps (.int .i64 z) W)) ∧ Hid (∀ W, Calls Try.prog 37 #[.string i, .string S] W (TkN j l ps (.bool b) W)) := by
  by_cases h : ∃ ss ps, IsN i S ss ps
  · obtain ⟨ss, ps, h⟩ := h
    exact ⟨i, ss, ps, 0, true, h.small.1, h.small.2, Or.inl ⟨rfl, rfl⟩, Lib.hid fun W => (tnode_any i S W hi hS).mono (TakeN.yes h), Lib.hid fun W => (rtnode_any i S W hi hS).mono (TakeN.yes h)⟩
  · have h : ∀ ss ps, ¬ IsN i S ss ps := fun ss ps k => h ⟨ss, ps, k⟩
    exact ⟨_, [], [], 3, false, by simp, by simp, Or.inr ⟨rfl, rfl⟩, Lib.hid fun W => (tnode_any i S W hi hS).mono (TakeN.no h), Lib.hid fun W => (rtnode_any i S W hi hS).mono (TakeN.no h)⟩
theorem both_e (i S : ByteArray) (hi : i.size ≤ maxLen) (hS : S.size ≤ 999999) : ∃ (j f g : ByteArray) (l : List ByteArray) (ps : List Pr) (z : Int) (b : Bool), l.length ≤ 8 ∧ ps.length ≤ 8 ∧ ((z = 0 ∧ b = true) ∨ (z = 3 ∧ b = false)) ∧
    Hid (∀ W, Calls Try.prog 38 #[.string i, .string S] W (TkE j f g l ps (.int .i64 z) W)) ∧ Hid (∀ W, Calls Try.prog 39 #[.string i, .string S] W (TkE j f g l ps (.bool b) W)) := by
  by_cases h : ∃ f g ss ps, IsE i S f g ss ps
  · obtain ⟨f, g, ss, ps, h⟩ := h
    exact ⟨i, f, g, ss, ps, 0, true, h.small.1, h.small.2, Or.inl ⟨rfl, rfl⟩, Lib.hid fun W => (tedge_any i S W hi hS).mono (TakeE.yes h), Lib.hid fun W => (rtedge_any i S W hi hS).mono (TakeE.yes h)⟩
  · have h : ∀ f g ss ps, ¬ IsE i S f g ss ps := fun f g ss ps k => h ⟨f, g, ss, ps, k⟩
    exact ⟨_, _, _, [], [], 3, false, by simp, by simp, Or.inr ⟨rfl, rfl⟩, Lib.hid fun W => (tedge_any i S W hi hS).mono (TakeE.no h), Lib.hid fun W => (rtedge_any i S W hi hS).mono (TakeE.no h)⟩
end Go.Proofs.Ytdjjabjegmbmaaa
