/- elem.TakeNode, TakeEdge, in one. Conditions: as in the texts it is made of. -/
import Derived.Test.YtbjngbacnkmjhaaOpa
import Derived.Test.YtbjngbacnkmjhaaZp
import Derived.Test.YtbjngbacnkmjhaaWr
import Derived.Test.YtbjngbacnkmjhaaPx
import Derived.Test.YtbjngbacnkmjhaaSu
import Derived.Deep.RegionLaw
import Derived.Deep.DeepCutAuto
import Derived.Test.YtbjngbacnkmjhaaWe
import Derived.Lib.SmallJoins
import Derived.Test.YtbjngbacnkmjhaaSh
import Derived.Test.YtbjngbacnkmjhaaNy
import Derived.IntWalk
namespace Go.Proofs.Ytbjngbacnkmjhaa
open Go.RowKit Vi Zp

def tL (s : ByteArray) : List UInt8 := put s.size ++ s.data.toList
def pL (p : Pr) : List UInt8 := tL p.1 ++ (vput p.2.1 p.2.2.1 p.2.2.2).data.toList
def lsL (ss : List ByteArray) : List UInt8 := ss.flatMap tL
def psL (ps : List Pr) : List UInt8 := ps.flatMap pL
def ptL (ss : List ByteArray) (ps : List Pr) : List UInt8 := put ss.length ++ (lsL ss ++ (put ps.length ++ psL ps))
theorem nS_list (n : Nat) : (nS n).data.toList = put n := rfl
theorem tS_list (s : ByteArray) : (tS s).data.toList = tL s := by unfold tS tL; rw [ba_app]
theorem accL_list (a : ByteArray) (ss : List ByteArray) : (accL a ss).data.toList = a.data.toList ++ lsL ss := by
  induction ss generalizing a with
  | nil => show a.data.toList = _; unfold lsL; simp
  | cons s r ih =>
    show (accL (a ++ tS s) r).data.toList = _
    rw [ih, ba_app, tS_list]
    unfold lsL
    rw [List.flatMap_cons, List.append_assoc]
theorem accP_list (a : ByteArray) (ps : List Pr) : (accP a ps).data.toList = a.data.toList ++ psL ps := by
  induction ps generalizing a with
  | nil => show a.data.toList = _; unfold psL; simp
  | cons s r ih =>
    show (accP (a ++ pS s) r).data.toList = _
    rw [ih, ba_app]
    unfold pS
    rw [ba_app, tS_list]
    unfold psL pL
    rw [List.flatMap_cons]
    simp only [List.append_assoc]
theorem ptS_list (ss : List ByteArray) (ps : List Pr) : (ptS ss ps).data.toList = ptL ss ps := by
  unfold ptS ptL
  rw [accP_list, ba_app, accL_list, nS_list, nS_list]
  simp only [List.append_assoc]
theorem num_mx (S : ByteArray) (q : Nat) (er m : Int) (hm : 0 ≤ m) : 0 ≤ (Rd.num S q er m).1 ∧ (Rd.num S q er m).1 ≤ m := by
  unfold Rd.num
  split
  · exact ⟨Int.le_refl _, hm⟩
  · split
    · exact ⟨Int.le_refl _, hm⟩
    · split
      · exact ⟨Int.le_refl _, hm⟩
      · dsimp only; omega
theorem vput_lst (k n : Int) (t : ByteArray) (hv : vok k n t = true) : (vput k n t).data.toList = UInt8.ofNat (k % 256).toNat :: (vrest k n t).data.toList := by
  unfold vput
  rw [if_pos hv, ba_app]; rfl
theorem vok_four {k n : Int} {t : ByteArray} (h : vok k n t = true) : (k = 1 ∧ (n = 0 ∨ n = 1) ∧ t = ⟨#[]⟩) ∨ (k = 2 ∧ t = ⟨#[]⟩) ∨ (k = 3 ∧ n = 0 ∧ t.size ≤ 64) := by
  have em : t.toList.isEmpty = true → t = ⟨#[]⟩ := fun e => by
    have h1 : t.toList = [] := by simpa using e
    rw [Lib.toList_data] at h1
    exact Zp.ba_ext h1
  unfold vok at h
  split at h
  · next h1 =>
    rw [Bool.and_eq_true, Bool.or_eq_true] at h
    exact Or.inl ⟨h1, by simpa using h.1, em h.2⟩
  · split at h
    · next h2 => exact Or.inr (Or.inl ⟨h2, em h⟩)
    · rw [Bool.and_eq_true, Bool.and_eq_true] at h
      exact Or.inr (Or.inr ⟨by simpa using h.1.1, by simpa using h.1.2, of_decide_eq_true h.2⟩)
/-- a value is read where it stands -/
theorem rv_at {S : ByteArray} {q : Nat} {k n : Int} {t : ByteArray} {r : List UInt8} (h : S.data.toList.drop q = (vput k n t).data.toList ++ r) (hv : vok k n t = true) (h0 : -9223372036854775808 ≤ n) (h1 : n ≤ 9223372036854775807) :
    rvE S q 0 = 0 ∧ rvV S q 0 = (k, n, t) ∧ S.data.toList.drop (rvM S q 0).2.2.2.1 = r := by
  rw [vput_lst k n t hv] at h
  have hd : S.data.toList.drop (q + 1) = (vrest k n t).data.toList ++ r := by rw [← List.drop_drop, h]; rfl
  have fin : ∀ q2, rvM S q 0 = (k, n, t, q2, 0) → S.data.toList.drop q2 = r → rvE S q 0 = 0 ∧ rvV S q 0 = (k, n, t) ∧ S.data.toList.drop (rvM S q 0).2.2.2.1 = r := fun q2 hM hr => by
    obtain ⟨r1, r2⟩ := rv_good hM hv
    exact ⟨r1, r2, by rw [hM]; exact hr⟩
  have one : ∀ m : UInt8, k = 1 → (m.toNat : Int) = n → t = ⟨#[]⟩ → S.data.toList.drop (q + 1) = m :: r → S.data.toList.drop q = 1 :: m :: r → rvE S q 0 = 0 ∧ rvV S q 0 = (k, n, t) ∧ S.data.toList.drop (rvM S q 0).2.2.2.1 = r := by
    intro m hk hm ht e1 e0
    subst hk hm ht
    have b0 := byte_is S q 1 (m :: r) e0
    have b1 := byte_is S (q + 1) m r e1
    have b0 : Rd.byte S q 0 = (1, q + 1, 0) := b0
    refine fin (q + 2) ?_ ?_
    · rw [rvM_is b0, if_pos rfl, b1]
    · rw [show q + 2 = q + 1 + 1 from rfl, ← List.drop_drop, e1]; rfl
  rcases vok_four hv with ⟨rfl, hn, rfl⟩ | ⟨rfl, rfl⟩ | ⟨rfl, rfl, ht⟩
  · rcases hn with rfl | rfl
    · exact one 0 rfl rfl rfl (by rw [hd]; rfl) (by rw [h]; rfl)
    · exact one 1 rfl rfl rfl (by rw [hd]; rfl) (by rw [h]; rfl)
  · have e : (vrest 2 n ⟨#[]⟩).data.toList = put (zig n) := by unfold vrest; rw [if_neg (by decide), if_pos rfl]
    rw [e] at hd
    have b0 := byte_is S q 2 _ h
    have b0 : Rd.byte S q 0 = (2, q + 1, 0) := b0
    have b1 := int_is S (q + 1) n r hd h0 h1
    refine fin (q + 1 + (put (zig n)).length) ?_ ?_
    · rw [rvM_is b0, if_neg (by decide), if_pos rfl, b1]
    · rw [← List.drop_drop, hd, List.drop_left]
  · have e : (vrest 3 0 t).data.toList = put t.size ++ t.data.toList := by unfold vrest; rw [if_neg (by decide), if_neg (by decide), ba_app]
    rw [e, List.append_assoc] at hd
    have b0 := byte_is S q 3 _ h
    have b0 : Rd.byte S q 0 = (3, q + 1, 0) := b0
    have b1 := text_is S (q + 1) 64 t r hd (by omega) (by omega)
    refine fin (q + 1 + (put t.size).length + t.size) ?_ ?_
    · rw [rvM_is b0, if_neg (by decide), if_neg (by decide), if_pos rfl, b1]
    · rw [← List.drop_drop, ← List.drop_drop, hd, List.drop_left, ← ba_len t, List.drop_left]
theorem gn_bd (l : List UInt8) (h : gb l = true) : gn l < 18446744073709551616 := by
  obtain ⟨_, _, _, k⟩ := gb_some h; exact k
/-- whatever is read as a value is a number, and a text that is no longer than what it is read of -/
theorem rvV_bd (S : ByteArray) (q : Nat) (er : Int) : -9223372036854775808 ≤ (rvV S q er).2.1 ∧ (rvV S q er).2.1 ≤ 9223372036854775807 ∧ (rvV S q er).2.2.size ≤ S.size := by
  obtain ⟨k, n, t, q2, e2, hM⟩ : ∃ k n t q2 e2, rvM S q er = (k, n, t, q2, e2) := ⟨_, _, _, _, _, rfl⟩
  have zero : rvV S q er = (0, 0, ⟨#[]⟩) → -9223372036854775808 ≤ (rvV S q er).2.1 ∧ (rvV S q er).2.1 ≤ 9223372036854775807 ∧ (rvV S q er).2.2.size ≤ S.size := fun e => by
    rw [e]; exact ⟨by show -9223372036854775808 ≤ (0 : Int); omega, by show (0 : Int) ≤ 9223372036854775807; omega, Nat.zero_le _⟩
  cases hv : vok k n t with
  | false => exact zero (rv_bad hM hv).2
  | true =>
    by_cases he : e2 = 0
    · subst he
      rw [(rv_good hM hv).2]
      show -9223372036854775808 ≤ n ∧ n ≤ 9223372036854775807 ∧ t.size ≤ S.size
      rcases vok_four hv with ⟨_, hn, rfl⟩ | ⟨rfl, rfl⟩ | ⟨rfl, rfl, _⟩
      · refine ⟨by omega, by omega, Nat.zero_le _⟩
      · obtain ⟨kb, q1, e1, hB⟩ : ∃ a b c, Rd.byte S q er = (a, b, c) := ⟨_, _, _, rfl⟩
        rw [rvM_is hB] at hM
        have nd : n = (Rd.int S q1 e1).1 := by
          split at hM
          · simp only [Prod.mk.injEq] at hM; omega
          · split at hM
            · simp only [Prod.mk.injEq] at hM; exact hM.2.1.symm
            · split at hM
              · simp only [Prod.mk.injEq] at hM; omega
              · next h2 _ => simp only [Prod.mk.injEq] at hM; exact absurd hM.1 h2
        have bd : -9223372036854775808 ≤ (Rd.int S q1 e1).1 ∧ (Rd.int S q1 e1).1 ≤ 9223372036854775807 := by
          unfold Rd.int
          split
          · exact ⟨by show -9223372036854775808 ≤ (0 : Int); omega, by show (0 : Int) ≤ 9223372036854775807; omega⟩
          · split
            · exact ⟨by show -9223372036854775808 ≤ (0 : Int); omega, by show (0 : Int) ≤ 9223372036854775807; omega⟩
            · next h2 => exact zag_bd _ (gn_bd _ (by simpa using h2))
        rw [nd]
        exact ⟨bd.1, bd.2, Nat.zero_le _⟩
      · refine ⟨by omega, by omega, ?_⟩
        obtain ⟨kb, q1, e1, hB⟩ : ∃ a b c, Rd.byte S q er = (a, b, c) := ⟨_, _, _, rfl⟩
        rw [rvM_is hB] at hM
        split at hM
        · simp only [Prod.mk.injEq] at hM; omega
        · split at hM
          · simp only [Prod.mk.injEq] at hM; omega
          · split at hM
            · simp only [Prod.mk.injEq] at hM
              rw [← hM.2.2.1]
              unfold Rd.text
              exact Rd.fix_size S _ _ _
            · simp only [Prod.mk.injEq] at hM
              rw [← hM.2.2.1]; exact Nat.zero_le _
    · exact zero (rv_err hM hv he).2
theorem text_size (S : ByteArray) (q : Nat) (er n : Int) : (Rd.text S q er n).1.size ≤ S.size := by unfold Rd.text; exact Rd.fix_size S _ _ _
/-- where reading begins: whatever labels and properties are meant, they stand there -/
def StartP (X : List ByteArray → List Pr → Prop) (S : ByteArray) (q : Nat) (er : Int) : Prop := ∀ ss ps, X ss ps → er = 0 ∧ rsW ss ps = 0 ∧ IntsOk ps ∧ S.data.toList.drop q = ptL ss ps
def GL (X : List ByteArray → List Pr → Prop) (S : ByteArray) (q : Nat) (er n : Int) (l : List ByteArray) (k : Nat) : Prop :=
  ∀ ss ps, X ss ps → er = 0 ∧ n = (ss.length : Int) ∧ l = ss.take k ∧ S.data.toList.drop q = lsL (ss.drop k) ++ (put ps.length ++ psL ps) ∧ rsW ss ps = 0 ∧ IntsOk ps
def GP (X : List ByteArray → List Pr → Prop) (S : ByteArray) (q : Nat) (er n : Int) (l : List ByteArray) (ps : List Pr) (j : Nat) : Prop :=
  ∀ ss0 ps0, X ss0 ps0 → er = 0 ∧ n = (ps0.length : Int) ∧ l = ss0 ∧ ps = ps0.take j ∧ S.data.toList.drop q = psL (ps0.drop j) ∧ rsW ss0 ps0 = 0 ∧ IntsOk ps0
theorem GL.start {X : List ByteArray → List Pr → Prop} {S : ByteArray} {q q1 : Nat} {er e1 n : Int} (h : StartP X S q er) (hn : Rd.num S q er 8 = (n, q1, e1)) : GL X S q1 e1 n [] 0 := by
  intro ss ps hx
  obtain ⟨rfl, h1, h2, h3⟩ := h ss ps hx
  obtain ⟨k1, _, _, _⟩ := rs_zero h1
  unfold ptL at h3
  rw [num_is S q ss.length 8 _ h3 (by omega) (by omega)] at hn
  simp only [Prod.mk.injEq] at hn
  obtain ⟨rfl, rfl, rfl⟩ := hn
  refine ⟨rfl, rfl, rfl, ?_, h1, h2⟩
  rw [← List.drop_drop, h3, List.drop_left, List.drop_zero]
theorem lsL_at (ss : List ByteArray) (k : Nat) (h : k < ss.length) : lsL (ss.drop k) = tL ss[k] ++ lsL (ss.drop (k + 1)) := by
  rw [List.drop_eq_getElem_cons h]; unfold lsL; rw [List.flatMap_cons]
theorem psL_at (ps : List Pr) (k : Nat) (h : k < ps.length) : psL (ps.drop k) = pL ps[k] ++ psL (ps.drop (k + 1)) := by
  rw [List.drop_eq_getElem_cons h]; unfold psL; rw [List.flatMap_cons]
theorem take_sn {α : Type} (l : List α) (k : Nat) (h : k < l.length) : l.take (k + 1) = l.take k ++ [l[k]] := List.take_succ_eq_append_getElem h
theorem GL.step {X : List ByteArray → List Pr → Prop} {S : ByteArray} {q q' : Nat} {er e' n most : Int} {l : List ByteArray} {k : Nat} {s : ByteArray} (h : GL X S q er n l k) (hk : (k : Int) < n) (hm : 12 ≤ most) (ht : Rd.text S q er most = (s, q', e')) : GL X S q' e' n (l ++ [s]) (k + 1) := by
  intro ss ps hx
  obtain ⟨rfl, rfl, rfl, hd, h1, h2⟩ := h ss ps hx
  have hkl : k < ss.length := by omega
  obtain ⟨_, k2, _, _⟩ := rs_zero h1
  have hsm := nm_small ((row0_ok ss k2).1 ss[k] (List.getElem_mem hkl))
  rw [lsL_at ss k hkl] at hd
  unfold tL at hd
  rw [List.append_assoc, List.append_assoc] at hd
  rw [text_is S q most ss[k] _ hd (by omega) (by omega)] at ht
  simp only [Prod.mk.injEq] at ht
  obtain ⟨rfl, rfl, rfl⟩ := ht
  refine ⟨rfl, rfl, (take_sn ss k hkl).symm, ?_, h1, h2⟩
  rw [← List.drop_drop, ← List.drop_drop, hd, List.drop_left, ← ba_len ss[k], List.drop_left]
theorem GP.start {X : List ByteArray → List Pr → Prop} {S : ByteArray} {q q1 : Nat} {er e1 n n1 : Int} {l : List ByteArray} {k : Nat} (h : GL X S q er n l k) (hk : ¬ (k : Int) < n) (hn : Rd.num S q er 8 = (n1, q1, e1)) : GP X S q1 e1 n1 l [] 0 := by
  intro ss ps hx
  obtain ⟨rfl, rfl, rfl, hd, h1, h2⟩ := h ss ps hx
  obtain ⟨_, _, k3, _⟩ := rs_zero h1
  rw [List.drop_eq_nil_of_le (show ss.length ≤ k by omega)] at hd
  have hd : S.data.toList.drop q = put ps.length ++ psL ps := hd
  rw [num_is S q ps.length 8 _ hd (by omega) (by omega)] at hn
  simp only [Prod.mk.injEq] at hn
  obtain ⟨rfl, rfl, rfl⟩ := hn
  refine ⟨rfl, rfl, List.take_of_length_le (by omega), rfl, ?_, h1, h2⟩
  rw [← List.drop_drop, hd, List.drop_left, List.drop_zero]
theorem GP.step {X : List ByteArray → List Pr → Prop} {S : ByteArray} {q q1 : Nat} {er e1 n most : Int} {l : List ByteArray} {ps : List Pr} {j : Nat} {s : ByteArray} (h : GP X S q er n l ps j) (hj : (j : Int) < n) (hm : 12 ≤ most) (ht : Rd.text S q er most = (s, q1, e1)) :
    GP X S (rvM S q1 e1).2.2.2.1 (rvE S q1 e1) n l (ps ++ [(s, rvV S q1 e1)]) (j + 1) := by
  intro ss0 ps0 hx
  obtain ⟨rfl, rfl, rfl, rfl, hd, h1, h2⟩ := h ss0 ps0 hx
  have hjl : j < ps0.length := by omega
  obtain ⟨_, _, _, k4⟩ := rs_zero h1
  have hok := prE_zero _ ps0 k4 ps0[j] (List.getElem_mem hjl)
  have hin := h2 ps0[j] (List.getElem_mem hjl)
  unfold okP at hok
  rw [Bool.and_eq_true] at hok
  have hsm := nm_small hok.1
  rw [psL_at ps0 j hjl] at hd
  unfold pL tL at hd
  rw [List.append_assoc, List.append_assoc] at hd
  rw [text_is S q most ps0[j].1 _ hd (by omega) (by omega)] at ht
  simp only [Prod.mk.injEq] at ht
  obtain ⟨rfl, rfl, rfl⟩ := ht
  have hd2 : S.data.toList.drop (q + (put ps0[j].1.size).length + ps0[j].1.size) = (vput ps0[j].2.1 ps0[j].2.2.1 ps0[j].2.2.2).data.toList ++ psL (ps0.drop (j + 1)) := by
    rw [← List.drop_drop, ← List.drop_drop, hd, List.drop_left, ← ba_len ps0[j].1, List.drop_left]
  obtain ⟨r1, r2, r3⟩ := rv_at hd2 hok.2 hin.1 hin.2
  refine ⟨r1, rfl, rfl, ?_, r3, h1, h2⟩
  rw [r2, take_sn ps0 j hjl]
theorem GP.done {X : List ByteArray → List Pr → Prop} {S : ByteArray} {q : Nat} {er n : Int} {l : List ByteArray} {ps : List Pr} {j : Nat} (h : GP X S q er n l ps j) (hj : ¬ (j : Int) < n) {ss0 : List ByteArray} {ps0 : List Pr} (hx : X ss0 ps0) : er = 0 ∧ l = ss0 ∧ ps = ps0 := by
  obtain ⟨h1, rfl, h3, rfl, _⟩ := h ss0 ps0 hx
  exact ⟨h1, h3, List.take_of_length_le (by omega)⟩
/-- the text of a node, of an edge -/
def IsN (i S : ByteArray) (ss : List ByteArray) (ps : List Pr) : Prop := ndW i ss ps = 0 ∧ IntsOk ps ∧ ptS ss ps = S
def IsE (i S f g : ByteArray) (ss : List ByteArray) (ps : List Pr) : Prop := edW i f g ss ps = 0 ∧ IntsOk ps ∧ (tS f ++ tS g) ++ ptS ss ps = S
theorem IsN.start (i S : ByteArray) : StartP (IsN i S) S 0 0 := fun ss ps h => ⟨rfl, (nd_zero h.1).2, h.2.1, by rw [List.drop_zero, ← h.2.2, ptS_list]⟩
/-- an edge's two nodes are read as they were put -/
theorem IsE.front {i S f g : ByteArray} {ss : List ByteArray} {ps : List Pr} (h : IsE i S f g ss ps) {m1 m2 : Int} (hm1 : 12 ≤ m1) (hm2 : 12 ≤ m2) {f' g' : ByteArray} {q1 q2 : Nat} {e1 e2 : Int} (h1 : Rd.text S 0 0 m1 = (f', q1, e1)) (h2 : Rd.text S q1 e1 m2 = (g', q2, e2)) :
    f' = f ∧ g' = g ∧ e2 = 0 ∧ rsW ss ps = 0 ∧ IntsOk ps ∧ S.data.toList.drop q2 = ptL ss ps := by
  obtain ⟨_, n1, n2, h4⟩ := ed_zero h.1
  have s1 := nm_small n1
  have s2 := nm_small n2
  have hd : S.data.toList.drop 0 = put f.size ++ (f.data.toList ++ (put g.size ++ (g.data.toList ++ ptL ss ps))) := by
    rw [List.drop_zero, ← h.2.2, ba_app, ba_app, tS_list, tS_list, ptS_list]
    unfold tL
    simp only [List.append_assoc]
  rw [text_is S 0 m1 f _ hd (by omega) (by omega)] at h1
  simp only [Prod.mk.injEq] at h1
  obtain ⟨rfl, rfl, rfl⟩ := h1
  have hd2 : S.data.toList.drop (0 + (put f.size).length + f.size) = put g.size ++ (g.data.toList ++ ptL ss ps) := by
    rw [← List.drop_drop, ← List.drop_drop, hd, List.drop_left, ← ba_len f, List.drop_left]
  rw [text_is S _ m2 g _ hd2 (by omega) (by omega)] at h2
  simp only [Prod.mk.injEq] at h2
  obtain ⟨rfl, rfl, rfl⟩ := h2
  refine ⟨rfl, rfl, rfl, h4, h.2.1, ?_⟩
  rw [← List.drop_drop, ← List.drop_drop, hd2, List.drop_left, ← ba_len g, List.drop_left]
end Go.Proofs.Ytbjngbacnkmjhaa
namespace Go.Proofs.Ytbjngbacnkmjhaa
open Go.RowKit Vi Zp

theorem But.kk {B : Nat} {w wr W : World} (h : But B w wr) (k : KK [B] wr W) : But B w W :=
  ⟨k.os.trans h.os, k.tape.trans h.tape, k.output.trans h.output, Nat.le_trans h.size k.size, fun i hi hne => (k.block i (Nat.lt_of_lt_of_le hi h.size) (fun hm => by
    have e : i = B := by simpa using hm
    subst e
    exact hne rfl)).trans (h.block i hi hne)⟩
theorem But.rows {B n : Nat} {w W W7 : World} (h : But B w W) (b : Below n W W7) (hn : w.heap.size ≤ n) : But B w W7 :=
  ⟨b.os.trans h.os, b.tape.trans h.tape, b.output.trans h.output, Nat.le_trans h.size b.size, fun i hi hne => (b.block i (Nat.lt_of_lt_of_le hi hn)).trans (h.block i hi hne)⟩
/-- labels and properties that were read -/
structure RdOk (w' : World) (base : Nat) (vL vP : Value) (l : List ByteArray) (ps : List Pr) : Prop where
  rl : OwX stC 1 9 w' base vL l
  rp : OwX prC 4 187 w' base vP ps
  nl : l.length ≤ 8
  np : ps.length ≤ 8
  sl : ∀ s ∈ l, s.size ≤ 1000000
  sp : ∀ p ∈ ps, p.1.size ≤ 1000000
  i : IntsOk ps
def ReadP (X : List ByteArray → List Pr → Prop) (B : Nat) (w : World) (e : Ending) (w' : World) : Prop :=
  ∃ (l : List ByteArray) (ps : List Pr) (vL vP : Value), e = .returned (.tuple #[vL, vP]) ∧ RdOk w' w.heap.size vL vP l ps ∧ (∀ ss0 ps0, X ss0 ps0 → l = ss0 ∧ ps = ps0) ∧ But B w w'
set_option maxHeartbeats 8000000 in
set_option maxRecDepth 100000 in
theorem cread_any (X : List ByteArray → List Pr → Prop) (S : ByteArray) (q0 : Nat) (er0 : Int) (B : Nat) (w : World) (hS : S.size ≤ 999999) (hq0 : q0 ≤ S.size) (hsc : Sc w B true S q0 er0) (hX : StartP X S q0 er0) :
    Calls Try.prog 203 #[.pointer (some ⟨B, 0, none⟩)] w (ReadP X B w) := by
  have hSm : S.size ≤ 1000000 := by omega
  obtain ⟨n, q1, e1, hN⟩ : ∃ a0 a1 a2, Rd.num S q0 er0 8 = (a0, a1, a2) := ⟨_, _, _, rfl⟩
  have hq1 := Rd.num_le S q0 er0 8 hq0
  have H1 := Lib.hid (fun (W : World) (g : Sc W B true S q0 er0) => numU W B S q0 er0 8 hSm hq0 g (by omega))
  have hn8 : 0 ≤ n ∧ n ≤ 8 := by have := num_mx S q0 er0 8 (by omega); rw [hN] at this; exact this
  obtain ⟨hn0, hn8⟩ := hn8
  rw [hN] at hq1 H1
  dsimp only at hq1 H1
  have HG := Lib.hid (GL.start hX hN)
  have hBw : B < w.heap.size := hsc.lt
  have HS := Lib.hid hsc
  have HB0 := Lib.hid (But.refl B w)
  have HX : Hid True := Lib.hid trivial
  clear hsc hX hN HX
  have HK1 := Lib.hid (KK.refl [B] w)
  go_enter Try.func203, Try.ntmps203
  go_wp2_with fail
  refine (H1.out w HS.out).mono ?_
  rintro e w1 ⟨rfl, hs, hk⟩
  have HK2 := Lib.hid (HK1.out.trans (KK.of_but hk (by simp)))
  have HS3 := Lib.hid (hs)
  clear hs hk HK1 HS 
  have hk4 := HK2.out.size
  have HB1 := Lib.hid (HB0.out.kk HK2.out)
  go_wp2_with fail
  go_loopw [4, 8] (fun vv i wr => ∃ (k q : Nat) (er : Int) (l : List ByteArray) (v : Value), v = vv ∧ i = .int .i64 (k : Int) ∧ (k : Int) ≤ n ∧ Sc wr B true S q er ∧ q ≤ S.size ∧ OwX stC 1 9 wr w.heap.size v l ∧ l.length = k ∧ (∀ s ∈ l, s.size ≤ 1000000) ∧ GL X S q er n l k ∧ But B w wr) (fun _ i _ => 8 - (intOf i).toNat)
  case atStart => exact ⟨0, q1, e1, [], _, rfl, rfl, by omega, HS3.out, hq1, OwX.nil _, rfl, (by intro s hs; cases hs), HG.out, HB1.out⟩
  case round =>
    obtain ⟨k, q, er, l, v, rfl, rfl, hkn, hsc, hq, how, hle, hsz, hgl, hb⟩ := hrel
    have HS0 := Lib.hid hsc
    have HE := Lib.hid how
    have HLE := Lib.hid hle
    have HSZ := Lib.hid hsz
    have HGL := Lib.hid hgl
    have HB := Lib.hid hb
    have hle2 : l.length ≤ k := by omega
    have hMB : ∀ b ∈ [B], b < w.heap.size := fun b hb => by
      have e : b = B := by simpa using hb
      rw [e]; exact hBw
    have HMB := Lib.hid hMB
    have hvE := how.one
    clear hsc how hle hsz hgl hb hMB
    by_cases hlt : (k : Int) < n
    · have hd1 : decide ((k : Int) < n) = true := decide_eq_true hlt
      obtain ⟨s, q4, e4, hT⟩ : ∃ a0 a1 a2, Rd.text S q er 12 = (a0, a1, a2) := ⟨_, _, _, rfl⟩
      have hq4 := Rd.text_le S q er 12 hq
      have hss := text_size S q er 12
      have HT := Lib.hid (fun (W : World) (g : Sc W B true S q er) => textU W B S q er 12 hSm hq g (by omega))
      rw [hT] at hq4 HT hss
      dsimp only at hq4 HT hss
      have HG2 := Lib.hid (HGL.out.step hlt (by omega) hT)
      have HSZ2 := Lib.hid (show ∀ x ∈ l ++ [s], x.size ≤ 1000000 by
        intro x hx
        rcases List.mem_append.1 hx with hx | hx
        · exact HSZ.out x hx
        · have e : x = s := by simpa using hx
          rw [e]; omega)
      clear hT hss
      have HK301 := Lib.hid (KK.refl [B] wr)
      go_wp2_with fail
      refine (HT.out wr HS0.out).mono ?_
      rintro e w21 ⟨rfl, hs, hk⟩
      have HK302 := Lib.hid (HK301.out.trans (KK.of_but hk (by simp)))
      have HS303 := Lib.hid (hs)
      clear hs hk HK301 HS0 
      have hk304 := HK302.out.size
      have HEa := Lib.hid (HE.out.kk HK302.out HMB.out)
      have HBt := Lib.hid (HB.out.kk HK302.out)
      have hz1 := HBt.out.size
      have HRa := Lib.hid (Below.refl w.heap.size w21)
      go_wp2_with (at_builtin; refine wpList_appX rfl (.tmp 10) (.tmp 13) 29 9 _ 16 rfl Try.underlying29 info_stA rfl (by omega) (by omega) stC_len stC_one w.heap.size w21 (HRa.out.alloc hz1 _) (by simp; omega) v l rfl (HEa.out.alloc _) w21.heap.size 1 s #[.string s] 9 (0, 0) rfl (heap_alloc_new w21 _) rfl (by omega) ?_)
      intro v7 w7 HO7 HB7 HZ7 HG7
      have HS7 := Lib.hid (HS303.out.kept (HB7.out.block B hBw))
      have HBB7 := Lib.hid (HBt.out.rows HB7.out (Nat.le_refl _))
      have hv7 := HO7.out.one
      go_wp2_with fail
      go_roundw
      case rel => exact ⟨k + 1, q4, e4, l ++ [s], _, rfl, by go_num, by omega, HS7.out, hq4, HO7.out, by rw [List.length_append, HLE.out]; rfl, HSZ2.out, HG2.out, HBB7.out⟩
      case measure => simp [intOf] <;> omega
    · have hd1 : decide ((k : Int) < n) = false := decide_eq_false hlt
      obtain ⟨n2, q5, e5, hN2⟩ : ∃ a0 a1 a2, Rd.num S q er 8 = (a0, a1, a2) := ⟨_, _, _, rfl⟩
      have hq5 := Rd.num_le S q er 8 hq
      have H2 := Lib.hid (fun (W : World) (g : Sc W B true S q er) => numU W B S q er 8 hSm hq g (by omega))
      have hm8 : 0 ≤ n2 ∧ n2 ≤ 8 := by have := num_mx S q er 8 (by omega); rw [hN2] at this; exact this
      obtain ⟨hm0, hm8⟩ := hm8
      rw [hN2] at hq5 H2
      dsimp only at hq5 H2
      have HGP := Lib.hid (GP.start HGL.out hlt hN2)
      have hl8 : l.length ≤ 8 := by omega
      clear hN2
      have HK301 := Lib.hid (KK.refl [B] wr)
      go_wp2_with fail
      refine (H2.out wr HS0.out).mono ?_
      rintro e w21 ⟨rfl, hs, hk⟩
      have HK302 := Lib.hid (HK301.out.trans (KK.of_but hk (by simp)))
      have HS303 := Lib.hid (hs)
      clear hs hk HK301 HS0 
      have hk304 := HK302.out.size
      have HEa := Lib.hid (HE.out.kk HK302.out HMB.out)
      have HBt := Lib.hid (HB.out.kk HK302.out)
      go_wp2_with fail
      clear hd1
      go_loopw [5, 18] (fun vv i wr => ∃ (j q : Nat) (er : Int) (ps : List Pr) (v2 : Value), v2 = vv ∧ i = .int .i64 (j : Int) ∧ (j : Int) ≤ n2 ∧ Sc wr B true S q er ∧ q ≤ S.size ∧ OwX stC 1 9 wr w.heap.size v l ∧ OwX prC 4 187 wr w.heap.size v2 ps ∧ ps.length = j ∧ (∀ p ∈ ps, p.1.size ≤ 1000000) ∧ IntsOk ps ∧ GP X S q er n2 l ps j ∧ But B w wr) (fun _ i _ => 8 - (intOf i).toNat)
      case atStart => exact ⟨0, q5, e5, [], _, rfl, rfl, by omega, HS303.out, hq5, HEa.out, OwX.nil _, rfl, (by intro s hs; cases hs), (by intro s hs; cases hs), HGP.out, HBt.out⟩
      case round =>
        obtain ⟨j, q6, er6, ps, v2, rfl, rfl, hjn, hsc, hq6, how, hop, hle, hsz, hin, hgp, hb⟩ := hrel
        have HS2 := Lib.hid hsc
        have HE2 := Lib.hid how
        have HP2 := Lib.hid hop
        have HLE2 := Lib.hid hle
        have HSP := Lib.hid hsz
        have HIN := Lib.hid hin
        have HGP2 := Lib.hid hgp
        have HB2 := Lib.hid hb
        have hle3 : ps.length ≤ j := by omega
        have hvP := hop.one
        clear hsc how hop hle hsz hin hgp hb
        by_cases hlt2 : (j : Int) < n2
        · have hd1 : decide ((j : Int) < n2) = true := decide_eq_true hlt2
          obtain ⟨s, q7, e7, hT⟩ : ∃ a0 a1 a2, Rd.text S q6 er6 12 = (a0, a1, a2) := ⟨_, _, _, rfl⟩
          have hq7 := Rd.text_le S q6 er6 12 hq6
          have hss := text_size S q6 er6 12
          have HT := Lib.hid (fun (W : World) (g : Sc W B true S q6 er6) => textU W B S q6 er6 12 hSm hq6 g (by omega))
          rw [hT] at hq7 HT hss
          dsimp only at hq7 HT hss
          have HG2 := Lib.hid (HGP2.out.step hlt2 (by omega) hT)
          have hbd := rvV_bd S q7 e7
          have hq8 := rvM_le S q7 e7 hq7
          have HVR := Lib.hid (fun (W : World) (g : Sc W B true S q7 e7) => vread_any W B S q7 e7 hSm hq7 g)
          obtain ⟨a, d, t, hV⟩ : ∃ a d t, rvV S q7 e7 = (a, d, t) := ⟨_, _, _, rfl⟩
          obtain ⟨q8, hq8e⟩ : ∃ x, x = (rvM S q7 e7).2.2.2.1 := ⟨_, rfl⟩
          obtain ⟨e8, he8e⟩ : ∃ x, x = rvE S q7 e7 := ⟨_, rfl⟩
          rw [hV, ← hq8e, ← he8e] at HVR HG2
          rw [hV] at hbd
          rw [← hq8e] at hq8
          have HV : Hid (∀ (W : World) (_ : Sc W B true S q7 e7), Calls Try.prog 252 #[.pointer (some ⟨B, 0, none⟩)] W fun e w' => e = .returned (.agg #[.int .i64 a, .int .i64 d, .string t]) ∧ Sc w' B true S q8 e8 ∧ But B W w') := Lib.hid (fun W g => HVR.out W g)
          have hbd : -9223372036854775808 ≤ d ∧ d ≤ 9223372036854775807 ∧ t.size ≤ S.size := hbd
          obtain ⟨b1, b2, b3⟩ := hbd
          have HSP2 := Lib.hid (show ∀ x ∈ ps ++ [(s, a, d, t)], x.1.size ≤ 1000000 by
            intro x hx
            rcases List.mem_append.1 hx with hx | hx
            · exact HSP.out x hx
            · have e : x = (s, a, d, t) := by simpa using hx
              rw [e]; show s.size ≤ 1000000; omega)
          have HIN2 := Lib.hid (show IntsOk (ps ++ [(s, a, d, t)]) by
            intro x hx
            rcases List.mem_append.1 hx with hx | hx
            · exact HIN.out x hx
            · have e : x = (s, a, d, t) := by simpa using hx
              rw [e]; exact ⟨b1, b2⟩)
          clear hT hss hV hq8e he8e HVR b1 b2 b3
          have HK501 := Lib.hid (KK.refl [B] wr)
          go_wp2_with fail
          refine (HT.out wr HS2.out).mono ?_
          rintro e w31 ⟨rfl, hs, hk⟩
          have HK502 := Lib.hid (HK501.out.trans (KK.of_but hk (by simp)))
          have HS503 := Lib.hid (hs)
          clear hs hk HK501 HS2 
          have hk504 := HK502.out.size
          go_wp2_with fail
          refine (HV.out w31 HS503.out).mono ?_
          rintro e w32 ⟨rfl, hs, hk⟩
          have HK505 := Lib.hid (HK502.out.trans (KK.of_but hk (by simp)))
          have HS506 := Lib.hid (hs)
          clear hs hk HK502 HS503 
          have hk507 := HK505.out.size
          have HEa2 := Lib.hid (HE2.out.kk HK505.out HMB.out)
          have HPa2 := Lib.hid (HP2.out.kk HK505.out HMB.out)
          have HBt2 := Lib.hid (HB2.out.kk HK505.out)
          have hz1 := HBt2.out.size
          have HRa := Lib.hid (Below.refl w.heap.size w32)
          go_wp2_with (at_builtin; refine wpList_appX rfl (.tmp 20) (.tmp 26) 79 187 _ 48 rfl Try.underlying79 info_prA rfl (by omega) (by omega) prC_len prC_one w.heap.size w32 (HRa.out.alloc hz1 _) (by simp; omega) v2 ps rfl (HPa2.out.alloc _) w32.heap.size 1 (s, a, d, t) #[.string s, .int .i64 a, .int .i64 d, .string t] 187 (0, 0) rfl (heap_alloc_new w32 _) rfl (by omega) ?_)
          intro v7 w7 HO7 HB7 HZ7 HG7
          have HS7 := Lib.hid (HS506.out.kept (HB7.out.block B hBw))
          have HBB7 := Lib.hid (HBt2.out.rows HB7.out (Nat.le_refl _))
          have HI7 := Lib.hid ((HEa2.out.alloc _).other (HPa2.out.alloc _) (by decide) HG7.out)
          have hv7 := HO7.out.one
          go_wp2_with fail
          go_roundw
          case rel => exact ⟨j + 1, q8, e8, ps ++ [(s, a, d, t)], _, rfl, by go_num, by omega, HS7.out, hq8, HI7.out, HO7.out, by rw [List.length_append, HLE2.out]; rfl, HSP2.out, HIN2.out, HG2.out, HBB7.out⟩
          case measure => simp [intOf] <;> omega
        · have hd1 : decide ((j : Int) < n2) = false := decide_eq_false hlt2
          have HD := Lib.hid (fun ss0 ps0 (hx : X ss0 ps0) => (HGP2.out.done hlt2 hx).2)
          go_wp2_with fail
          go_ret2
          exact ⟨l, ps, v, v2, rfl, ⟨HE2.out, HP2.out, hl8, by omega, HSZ.out, HSP.out, HIN.out⟩, HD.out, HB2.out⟩
end Go.Proofs.Ytbjngbacnkmjhaa
namespace Go.Proofs.Ytbjngbacnkmjhaa
open Go.RowKit Vi Hm

theorem conv_twoW (w : World) (b c : UInt8) :
    (convert 137 9 (.slice (some ⟨w.heap.size, 0, none⟩) 2 2)).run Try.prog (w.alloc (.cells #[.int .u8 (b.toNat : Int), .int .u8 (c.toNat : Int)] 5)) = .ok (.string ⟨#[b, c]⟩) (w.alloc (.cells #[.int .u8 (b.toNat : Int), .int .u8 (c.toNat : Int)] 5)) := by
  refine run_convert_bytes_back _ 137 9 5 ⟨w.heap.size, 0, none⟩ 2 [b, c] Try.underlying137 Try.underlying5 Try.underlying9 ?_
  intro j hj
  have hj2 : j < 2 := by simpa using hj
  rw [Addr.add_lit, Nat.zero_add, cell_of_row _ _ _ _ _ _ (heap_alloc_new w (.cells #[.int .u8 (b.toNat : Int), .int .u8 (c.toNat : Int)] 5))]
  rcases (show j = 0 ∨ j = 1 by omega) with rfl | rfl <;> rfl
set_option maxRecDepth 100000 in
set_option maxHeartbeats 2000000 in
theorem rputV_any (k n : Int) (t : ByteArray) (w : World) (h0 : -9223372036854775808 ≤ n) (h1 : n ≤ 9223372036854775807) (ht : t.size ≤ 1000000) :
    Calls Try.prog 132 #[.agg #[.int .i64 k, .int .i64 n, .string t]] w fun e w' => e = .returned (.string (vput k n t)) ∧ Below w.heap.size w w' := by
  have HCK := Lib.hid (fun W : World => vis_any k n t W)
  cases hv : vok k n t with
  | false =>
    have HQ := Lib.hid (show (⟨#[]⟩ : ByteArray) = vput k n t by unfold vput; rw [hv]; simp)
    rw [hv] at HCK
    clear hv ht h0 h1
    go_enter Try.func132, Try.ntmps132
    go_wp2_with fail
    refine (HCK.out _).mono ?_
    rintro e w1 ⟨rfl, hb⟩
    have HB := Lib.hid (((Below.refl _ w).alloc (Nat.le_refl _) _).trans (hb.mono (by simp)))
    clear hb HCK
    go_wp2_with fail
    go_ret
    exact ⟨retS HQ.out, HB.out⟩
  | true =>
    by_cases k1 : k = 1
    · subst k1
      have HQ := Lib.hid (show (⟨#[1, UInt8.ofNat (n % 256).toNat]⟩ : ByteArray) = vput 1 n t by unfold vput vrest; rw [hv]; rfl)
      have HL := Lib.hid (low_natW n)
      generalize UInt8.ofNat (n % 256).toNat = c at HL HQ
      have hw : n % 256 = (c.toNat : Int) := HL.out.symm
      have hw2 : IntKind.u8.wrap n = (c.toNat : Int) := by rw [HL.out]; simp [IntKind.wrap, IntKind.bits, IntKind.signed]
      rw [hv] at HCK
      clear hv ht h0 h1 HL
      go_enter Try.func132, Try.ntmps132
      go_wp2_with fail
      refine (HCK.out _).mono ?_
      rintro e w1 ⟨rfl, hb⟩
      have c0 := hb.cell (p := ⟨w.heap.size, 0, none⟩) (by simp)
      have c1 := hb.cell (p := ⟨w.heap.size, 1, none⟩) (by simp)
      simp at c0 c1
      have HB := Lib.hid (((Below.refl _ w).alloc (Nat.le_refl _) _).trans (hb.mono (by simp)))
      have hcv := conv_twoW w1 1 c
      simp only [show ((1 : UInt8).toNat : Int) = 1 from rfl] at hcv
      clear hb HCK
      go_wp2_with fail
      go_ret
      exact ⟨retS HQ.out, HB.out.alloc HB.out.size _⟩
    · have q1 : (k == 1) = false := by rw [beq_eq_false_iff_ne]; exact k1
      by_cases k2 : k = 2
      · subst k2
        have HQ := Lib.hid (show (⟨#[2]⟩ ++ ⟨(put (zig n)).toArray⟩ : ByteArray) = vput 2 n t by unfold vput vrest; rw [hv]; rfl)
        have HZ := Lib.hid (fun W : World => refZig_any n W h0 h1)
        have HZ2 := zig_le n h0 h1
        have HF := Lib.hid (fun (W : World) => refPut_any (zig n) W HZ2)
        have hz := put_len (zig n)
        have hz2 : (⟨(put (zig n)).toArray⟩ : ByteArray).size ≤ 10 := by show (put (zig n)).toArray.size ≤ 10; rw [List.size_toArray]; exact hz
        generalize (⟨(put (zig n)).toArray⟩ : ByteArray) = R at HQ HF hz2
        have hzi : (R.size : Int) ≤ 10 := by omega
        rw [hv] at HCK
        clear hv ht h0 h1 k1 q1 hz hz2 HZ2
        go_enter Try.func132, Try.ntmps132
        go_wp2_with fail
        refine (HCK.out _).mono ?_
        rintro e w1 ⟨rfl, hb⟩
        have c0 := hb.cell (p := ⟨w.heap.size, 0, none⟩) (by simp)
        have c1 := hb.cell (p := ⟨w.heap.size, 1, none⟩) (by simp)
        simp at c0 c1
        have HB := Lib.hid (((Below.refl _ w).alloc (Nat.le_refl _) _).trans (hb.mono (by simp)))
        clear hb HCK
        go_wp2_with fail
        refine (HZ.out _).mono ?_
        rintro e w2 ⟨rfl, rfl⟩
        go_wp2_with fail
        refine (HF.out _).mono ?_
        rintro e w2 ⟨rfl, hb⟩
        have HB2 := Lib.hid (HB.out.trans (hb.mono HB.out.size))
        clear hb
        go_wp2_with fail
        go_ret
        exact ⟨retS HQ.out, HB2.out⟩
      · have q2 : (k == 2) = false := by rw [beq_eq_false_iff_ne]; exact k2
        have hk3 : k = 3 := by
          unfold vok at hv
          rw [if_neg k1, if_neg k2] at hv
          simp at hv
          exact hv.1.1
        have HQ := Lib.hid (show (⟨#[3]⟩ ++ (⟨(put t.size).toArray⟩ ++ t) : ByteArray) = vput k n t by unfold vput vrest; rw [hv, hk3]; rfl)
        have HF := Lib.hid (fun (W : World) => refPutText_any t W ht)
        have hz := vrest_size k n t ht
        have hz2 : (⟨(put t.size).toArray⟩ ++ t : ByteArray).size ≤ 1000010 := by
          unfold vrest at hz
          rw [if_neg k1, if_neg k2] at hz
          exact hz
        generalize (⟨(put t.size).toArray⟩ ++ t : ByteArray) = R at HQ HF hz2
        have hzi : (R.size : Int) ≤ 1000010 := by omega
        rw [hv] at HCK
        clear hv ht h0 h1 k1 k2 hz hz2 hk3
        go_enter Try.func132, Try.ntmps132
        go_wp2_with fail
        refine (HCK.out _).mono ?_
        rintro e w1 ⟨rfl, hb⟩
        have c0 := hb.cell (p := ⟨w.heap.size, 0, none⟩) (by simp)
        have c2 := hb.cell (p := ⟨w.heap.size, 2, none⟩) (by simp)
        simp at c0 c2
        have HB := Lib.hid (((Below.refl _ w).alloc (Nat.le_refl _) _).trans (hb.mono (by simp)))
        clear hb HCK
        go_wp2_with fail
        refine (HF.out _).mono ?_
        rintro e w2 ⟨rfl, hb⟩
        have HB2 := Lib.hid (HB.out.trans (hb.mono HB.out.size))
        clear hb
        go_wp2_with fail
        go_ret
        exact ⟨retS HQ.out, HB2.out⟩
end Go.Proofs.Ytbjngbacnkmjhaa
namespace Go.Proofs.Ytbjngbacnkmjhaa
open Go.RowKit Vi

set_option maxRecDepth 100000 in
set_option maxHeartbeats 4000000 in
theorem rputp_any (A A2 : Option Addr) (n c n2 c2 : Nat) (ss : List ByteArray) (ps : List Pr) (w : World) (h : LP w A n ss A2 n2 ps) (k : Sm ss ps) :
    Calls Try.prog 201 #[.slice A n c, .slice A2 n2 c2] w fun e w' => e = .returned (.string (ptS ss ps)) ∧ Below w.heap.size w w' := by
  have H := Lib.hid h
  have L := Lib.hid h.l.1
  have L2 := Lib.hid h.p.1
  have hn8 : n ≤ 8 := by rw [← L.out]; exact k.l
  have hm8 : n2 ≤ 8 := by rw [← L2.out]; exact k.pl
  have KS := Lib.hid k.s
  have KP := Lib.hid k.p
  clear h k
  obtain ⟨a0, ha0⟩ : ∃ a, a = nS n := ⟨_, rfl⟩
  obtain ⟨a1, ha1⟩ : ∃ a, a = nS n2 := ⟨_, rfl⟩
  have hz0 : a0.size ≤ 10 := by rw [ha0]; exact nS_size n
  have hz1 : a1.size ≤ 10 := by rw [ha1]; exact nS_size n2
  have N1 := Lib.hid (fun W : World => show Calls Try.prog 250 #[.int .i64 (n : Int)] W fun e w' => e = .returned (.string a0) ∧ Below W.heap.size W w' by
    have q := refPutNum_any (n : Int) W (by omega)
    rw [Int.toNat_natCast] at q
    rw [ha0]; exact q)
  have N2 := Lib.hid (fun W : World => show Calls Try.prog 250 #[.int .i64 (n2 : Int)] W fun e w' => e = .returned (.string a1) ∧ Below W.heap.size W w' by
    have q := refPutNum_any (n2 : Int) W (by omega)
    rw [Int.toNat_natCast] at q
    rw [ha1]; exact q)
  have HPT := Lib.hid (show accP (accL a0 ss ++ a1) ps = ptS ss ps by unfold ptS; rw [ha0, ha1, L.out, L2.out])
  clear ha0 ha1
  have HB1 := Lib.hid (Below.refl w.heap.size w)
  go_enter Try.func201, Try.ntmps201
  go_wp2_with fail
  refine (N1.out w).mono ?_
  rintro e w1 ⟨rfl, hb1⟩
  have HB2 := Lib.hid (HB1.out.trans (hb1.mono HB1.out.size))
  clear hb1 HB1 
  go_wp2_with fail
  go_loopw [5, 6] (fun s i wr => ∃ (k : Nat) (acc : ByteArray), s = .string acc ∧ i = .int .i64 (k : Int) ∧ k ≤ n ∧ acc = accL a0 (ss.take k) ∧ acc.size ≤ 10 + 22 * k ∧ Below w.heap.size w wr) (fun _ i _ => n - (intOf i).toNat)
  case atStart => exact ⟨0, a0, rfl, rfl, Nat.zero_le _, rfl, by omega, HB2.out⟩
  case round =>
    obtain ⟨k, acc, rfl, rfl, hk, hac, hz, hb⟩ := hrel
    have HAC := Lib.hid hac
    have HB := Lib.hid hb
    clear hac hb
    by_cases hlt : k < n
    · have hd1 : decide ((k : Int) < (n : Int)) = true := decide_eq_true (by omega)
      obtain ⟨b, off, rfl, hc⟩ := (H.out.l.later HB.out).2 (by omega)
      have hl : k < ss.length := by rw [L.out]; exact hlt
      have hsm := KS.out _ (List.getElem_mem hl)
      have hca := hc k hl
      have HAT := Lib.hid (accL_take a0 ss k hl)
      obtain ⟨s, hs⟩ : ∃ s, s = ss[k] := ⟨_, rfl⟩
      rw [← hs] at hsm hca HAT
      obtain ⟨t, ht⟩ : ∃ t, t = tS s := ⟨_, rfl⟩
      have htz : t.size ≤ 22 := by rw [ht]; have := tS_size s; omega
      have HP := Lib.hid (fun W : World => show Calls Try.prog 195 #[.string s] W fun e w' => e = .returned (.string t) ∧ Below W.heap.size W w' by
        rw [ht]; exact refPutText_any s W (by omega))
      have HR := Lib.hid (show acc ++ t = accL a0 (ss.take (k + 1)) by rw [HAT.out, ← HAC.out, ht])
      have hi0 : (0 : Int) ≤ (k : Int) := by omega
      have hzz : (acc ++ t).size ≤ 10 + 22 * (k + 1) := by rw [ByteArray.size_append]; omega
      have HZZ := Lib.hid hzz
      clear hc hs ht hzz
      go_wp2_with fail
      clear hca
      refine (HP.out wr).mono ?_
      rintro e w11 ⟨rfl, hb11⟩
      have HB101 := Lib.hid (HB.out.trans (hb11.mono HB.out.size))
      clear hb11 HB 
      go_wp2_with fail
      go_roundw
      case rel => exact ⟨k + 1, acc ++ t, rfl, by go_num, by omega, HR.out, HZZ.out, HB101.out⟩
      case measure => simp [intOf] <;> omega
    · have hd1 : decide ((k : Int) < (n : Int)) = false := decide_eq_false (by omega)
      have HE := Lib.hid (show acc = accL a0 ss by rw [HAC.out, List.take_of_length_le (by rw [L.out]; omega)])
      have hzz : acc.size ≤ 190 := by omega
      have hz2 : (acc ++ a1).size ≤ 200 := by rw [ByteArray.size_append]; omega
      have HZ2 := Lib.hid hz2
      clear hz2
      go_wp2_with fail
      refine (N2.out wr).mono ?_
      rintro e w11 ⟨rfl, hb11⟩
      have HB101 := Lib.hid (HB.out.trans (hb11.mono HB.out.size))
      clear hb11 HB 
      go_wp2_with fail
      clear hd1
      go_loopw [5, 7] (fun s i wr => ∃ (j : Nat) (ac2 : ByteArray), s = .string ac2 ∧ i = .int .i64 (j : Int) ∧ j ≤ n2 ∧ ac2 = accP (acc ++ a1) (ps.take j) ∧ ac2.size ≤ 200 + 110 * j ∧ Below w.heap.size w wr) (fun _ i _ => n2 - (intOf i).toNat)
      case atStart => exact ⟨0, acc ++ a1, rfl, rfl, Nat.zero_le _, rfl, HZ2.out, HB101.out⟩
      case round =>
        obtain ⟨j, ac2, rfl, rfl, hj, hac2, hy, hb2⟩ := hrel
        have HAC2 := Lib.hid hac2
        have HB2 := Lib.hid hb2
        clear hac2 hb2
        by_cases hlt2 : j < n2
        · have hd1 : decide ((j : Int) < (n2 : Int)) = true := decide_eq_true (by omega)
          obtain ⟨b, off, hl, rfl, hbb, _⟩ := (H.out.p.below HB2.out).at hlt2
          have HAT := Lib.hid (accP_take (acc ++ a1) ps j hl)
          have hsz := KP.out _ (List.getElem_mem hl)
          obtain ⟨x, hx⟩ : ∃ x, ps[j] = x := ⟨_, rfl⟩
          have HX := Lib.hid (show ps[j]? = some x by rw [List.getElem?_eq_getElem hl, hx])
          rw [hx] at HAT hsz
          obtain ⟨s, a, d, t⟩ := x
          obtain ⟨z1, z2, z3, z4⟩ := hsz
          have z1 : s.size ≤ 12 := z1
          have z2 : t.size ≤ 64 := z2
          have z3 : -9223372036854775808 ≤ d := z3
          have z4 : d ≤ 9223372036854775807 := z4
          have hi0 : (0 : Int) ≤ (j : Int) := by omega
          obtain ⟨u, hu⟩ : ∃ u, u = tS s := ⟨_, rfl⟩
          obtain ⟨v, hv⟩ : ∃ v, v = vput a d t := ⟨_, rfl⟩
          have huz : u.size ≤ 22 := by rw [hu]; have := tS_size s; omega
          have hvz : v.size ≤ 80 := by rw [hv]; exact vput_small a d t z2
          have HP := Lib.hid (fun W : World => show Calls Try.prog 195 #[.string s] W fun e w' => e = .returned (.string u) ∧ Below W.heap.size W w' by
            rw [hu]; exact refPutText_any s W (by omega))
          have HV := Lib.hid (fun W : World => show Calls Try.prog 132 #[.agg #[.int .i64 a, .int .i64 d, .string t]] W fun e w' => e = .returned (.string v) ∧ Below W.heap.size W w' by
            rw [hv]; exact rputV_any a d t W z3 z4 (by omega))
          obtain ⟨s1, hs1⟩ : ∃ s1 : ByteArray, s1 = ac2 ++ u := ⟨_, rfl⟩
          obtain ⟨s2, hs2⟩ : ∃ s2 : ByteArray, s2 = s1 ++ v := ⟨_, rfl⟩
          have y1 : s1.size = ac2.size + u.size := by rw [hs1, ByteArray.size_append]
          have y2 : s2.size = s1.size + v.size := by rw [hs2, ByteArray.size_append]
          have q1 : ∀ W, (Op.stringOp .add ac2 u).run Try.prog W = .ok (.string s1) W := fun W => by rw [hs1]; exact run_string_add_sum W _ _ (by omega)
          have q2 : ∀ W, (Op.stringOp .add s1 v).run Try.prog W = .ok (.string s2) W := fun W => by rw [hs2]; exact run_string_add_sum W _ _ (by omega)
          have HR := Lib.hid (show s2 = accP (acc ++ a1) (ps.take (j + 1)) by rw [HAT.out, ← HAC2.out]; unfold pS; rw [hs2, hs1, hu, hv, ByteArray.append_assoc])
          have hzz2 : s2.size ≤ 200 + 110 * (j + 1) := by omega
          have HZZ2 := Lib.hid hzz2
          clear hx hu hv hzz2 z3 z4 hs1 hs2 y1 y2
          have hc201 : wr.cell? ⟨b, off + j * 4, none⟩ = some (.string s) := (H.out.p.below HB2.out).cellAt HX.out hlt2 0 _ rfl
          have hc202 : wr.cell? ⟨b, off + j * 4 + 1, none⟩ = some (.int .i64 a) := (H.out.p.below HB2.out).cellAt HX.out hlt2 1 _ rfl
          have hc203 : wr.cell? ⟨b, off + j * 4 + 2, none⟩ = some (.int .i64 d) := (H.out.p.below HB2.out).cellAt HX.out hlt2 2 _ rfl
          have hc204 : wr.cell? ⟨b, off + j * 4 + 3, none⟩ = some (.string t) := (H.out.p.below HB2.out).cellAt HX.out hlt2 3 _ rfl
          go_wp2_with fail
          have hr205 := fun d os => cell_regrown hc201 d os
          have hr206 := fun d os => cell_regrown hc202 d os
          have hr207 := fun d os => cell_regrown hc203 d os
          have hr208 := fun d os => cell_regrown hc204 d os
          refine wp_region_quiet_below (by kernel_rfl) (by kernel_rfl) ?_
          repeat (any_goals (first | go_big_quiet_step ((first | (go_at_call 195; with_reducible exact Calls.regrown_of (HP.out _)) | (go_at_call 132; with_reducible exact Calls.regrown_of (HV.out _)))) | quiet_step ((first | (go_at_call 195; with_reducible exact Calls.regrown_of (HP.out _)) | (go_at_call 132; with_reducible exact Calls.regrown_of (HV.out _))))))
          refine wpQuiet_nil ?_
          intro w21 hw21
          have hb21 := below_anyY hw21
          clear hw21 hr205 hr206 hr207 hr208
          clear hc201 hc202 hc203 hc204
          have HB209 := Lib.hid (HB2.out.trans (hb21.mono HB2.out.size))
          clear hb21 HB2 
          clear q1 q2
          go_wp2_with fail
          go_roundw
          case rel => exact ⟨j + 1, s2, rfl, by go_num, by omega, HR.out, HZZ2.out, HB209.out⟩
          case measure => simp [intOf] <;> omega
        · have hd1 : decide ((j : Int) < (n2 : Int)) = false := decide_eq_false (by omega)
          have HE2 := Lib.hid (show ac2 = ptS ss ps by rw [HAC2.out, List.take_of_length_le (by rw [L2.out]; omega), HE.out, HPT.out])
          go_wp2_with fail
          go_ret
          exact ⟨retS HE2.out, HB2.out⟩
set_option maxRecDepth 100000 in
set_option maxHeartbeats 2000000 in
theorem rpnode_yes (i : ByteArray) (A A2 : Option Addr) (n c n2 c2 : Nat) (ss : List ByteArray) (ps : List Pr) (w : World) (h : LP w A n ss A2 n2 ps) (k : LOk n ss n2 ps) (hi : i.size ≤ maxLen) (hz : ndW i ss ps = 0) (ki : IntsOk ps) :
    Calls Try.prog 136 #[.agg #[.string i, .slice A n c, .slice A2 n2 c2]] w fun e w' => e = .returned (.string (ptS ss ps)) ∧ Below w.heap.size w w' := by
  have H := Lib.hid h
  have HCK := Lib.hid (fun (W : World) (q : LP W A n ss A2 n2 ps) => rnode_any i A A2 n c n2 c2 ss ps W q k hi)
  have hsm := rs_sm (nd_zero hz).2 ki
  have HPP := Lib.hid (fun (W : World) (q : LP W A n ss A2 n2 ps) => rputp_any A A2 n c n2 c2 ss ps W q hsm)
  rw [hz] at HCK
  clear h k hz ki hsm
  have HB1 := Lib.hid (Below.refl w.heap.size w)
  go_enter Try.func136, Try.ntmps136
  have HF2 := Lib.hid (blk_new w (.cells #[.string i, .slice A n c, .slice A2 n2 c2] 81 (0, 0)))
  have HB3 := Lib.hid (HB1.out.alloc HB1.out.size (.cells #[.string i, .slice A n c, .slice A2 n2 c2] 81 (0, 0)))
  clear HB1
  have hc4 : (w.alloc (.cells #[.string i, .slice A n c, .slice A2 n2 c2] 81 (0, 0))).cell? ⟨w.heap.size, 0, none⟩ = some (.string i) := by rw [cell_of_row _ _ _ _ _ _ HF2.out]; rfl
  have hc5 : (w.alloc (.cells #[.string i, .slice A n c, .slice A2 n2 c2] 81 (0, 0))).cell? ⟨w.heap.size, 1, none⟩ = some (.slice A n c) := by rw [cell_of_row _ _ _ _ _ _ HF2.out]; rfl
  have hc6 : (w.alloc (.cells #[.string i, .slice A n c, .slice A2 n2 c2] 81 (0, 0))).cell? ⟨w.heap.size, 2, none⟩ = some (.slice A2 n2 c2) := by rw [cell_of_row _ _ _ _ _ _ HF2.out]; rfl
  go_wp2_with fail
  clear hc4 hc5 hc6
  refine (HCK.out (w.alloc (.cells #[.string i, .slice A n c, .slice A2 n2 c2] 81 (0, 0))) (H.out.below HB3.out)).mono ?_
  rintro e w1 ⟨rfl, hb1⟩
  have HF7 := Lib.hid (blk_below HF2.out hb1)
  have HB8 := Lib.hid (HB3.out.trans (hb1.mono HB3.out.size))
  clear hb1 HB3 HF2
  have hc9 : w1.cell? ⟨w.heap.size, 0, none⟩ = some (.string i) := by rw [cell_of_row _ _ _ _ _ _ HF7.out]; rfl
  have hc10 : w1.cell? ⟨w.heap.size, 1, none⟩ = some (.slice A n c) := by rw [cell_of_row _ _ _ _ _ _ HF7.out]; rfl
  have hc11 : w1.cell? ⟨w.heap.size, 2, none⟩ = some (.slice A2 n2 c2) := by rw [cell_of_row _ _ _ _ _ _ HF7.out]; rfl
  go_wp2_with fail
  clear hc9 hc10 hc11
  refine (HPP.out w1 (H.out.below HB8.out)).mono ?_
  rintro e w2 ⟨rfl, hb2⟩
  have HF12 := Lib.hid (blk_below HF7.out hb2)
  have HB13 := Lib.hid (HB8.out.trans (hb2.mono HB8.out.size))
  clear hb2 HB8 HF7
  go_wp2_with fail
  go_ret
  exact ⟨rfl, HB13.out⟩
set_option maxRecDepth 100000 in
set_option maxHeartbeats 2000000 in
theorem rpnode_no (i : ByteArray) (A A2 : Option Addr) (n c n2 c2 : Nat) (ss : List ByteArray) (ps : List Pr) (w : World) (h : LP w A n ss A2 n2 ps) (k : LOk n ss n2 ps) (hi : i.size ≤ maxLen) (hz : ndW i ss ps ≠ 0) :
    Calls Try.prog 136 #[.agg #[.string i, .slice A n c, .slice A2 n2 c2]] w fun e w' => e = .returned (.string ⟨#[]⟩) ∧ Below w.heap.size w w' := by
  have H := Lib.hid h
  have HCK := Lib.hid (fun (W : World) (q : LP W A n ss A2 n2 ps) => rnode_any i A A2 n c n2 c2 ss ps W q k hi)
  obtain ⟨z, hzz⟩ : ∃ z, z = ndW i ss ps := ⟨_, rfl⟩
  rw [← hzz] at HCK hz
  have hz1 : (z != 0) = true := by simpa using hz
  clear h k hzz hz
  have HB1 := Lib.hid (Below.refl w.heap.size w)
  go_enter Try.func136, Try.ntmps136
  have HF2 := Lib.hid (blk_new w (.cells #[.string i, .slice A n c, .slice A2 n2 c2] 81 (0, 0)))
  have HB3 := Lib.hid (HB1.out.alloc HB1.out.size (.cells #[.string i, .slice A n c, .slice A2 n2 c2] 81 (0, 0)))
  clear HB1
  have hc4 : (w.alloc (.cells #[.string i, .slice A n c, .slice A2 n2 c2] 81 (0, 0))).cell? ⟨w.heap.size, 0, none⟩ = some (.string i) := by rw [cell_of_row _ _ _ _ _ _ HF2.out]; rfl
  have hc5 : (w.alloc (.cells #[.string i, .slice A n c, .slice A2 n2 c2] 81 (0, 0))).cell? ⟨w.heap.size, 1, none⟩ = some (.slice A n c) := by rw [cell_of_row _ _ _ _ _ _ HF2.out]; rfl
  have hc6 : (w.alloc (.cells #[.string i, .slice A n c, .slice A2 n2 c2] 81 (0, 0))).cell? ⟨w.heap.size, 2, none⟩ = some (.slice A2 n2 c2) := by rw [cell_of_row _ _ _ _ _ _ HF2.out]; rfl
  go_wp2_with fail
  clear hc4 hc5 hc6
  refine (HCK.out (w.alloc (.cells #[.string i, .slice A n c, .slice A2 n2 c2] 81 (0, 0))) (H.out.below HB3.out)).mono ?_
  rintro e w1 ⟨rfl, hb1⟩
  have HF7 := Lib.hid (blk_below HF2.out hb1)
  have HB8 := Lib.hid (HB3.out.trans (hb1.mono HB3.out.size))
  clear hb1 HB3 HF2
  have hc9 : w1.cell? ⟨w.heap.size, 0, none⟩ = some (.string i) := by rw [cell_of_row _ _ _ _ _ _ HF7.out]; rfl
  have hc10 : w1.cell? ⟨w.heap.size, 1, none⟩ = some (.slice A n c) := by rw [cell_of_row _ _ _ _ _ _ HF7.out]; rfl
  have hc11 : w1.cell? ⟨w.heap.size, 2, none⟩ = some (.slice A2 n2 c2) := by rw [cell_of_row _ _ _ _ _ _ HF7.out]; rfl
  go_wp2_with fail
  go_ret
  exact ⟨rfl, HB8.out⟩
set_option maxRecDepth 100000 in
set_option maxHeartbeats 2000000 in
theorem rpedge_yes (i f g : ByteArray) (A A2 : Option Addr) (n c n2 c2 : Nat) (ss : List ByteArray) (ps : List Pr) (w : World) (h : LP w A n ss A2 n2 ps) (k : LOk n ss n2 ps) (hi : i.size ≤ maxLen) (hf : f.size ≤ maxLen) (hg : g.size ≤ maxLen) (hz : edW i f g ss ps = 0) (ki : IntsOk ps) :
    Calls Try.prog 138 #[.agg #[.string i, .string f, .string g, .slice A n c, .slice A2 n2 c2]] w fun e w' => e = .returned (.string ((tS f ++ tS g) ++ ptS ss ps)) ∧ Below w.heap.size w w' := by
  have H := Lib.hid h
  have HCK := Lib.hid (fun (W : World) (q : LP W A n ss A2 n2 ps) => redge_any i f g A A2 n c n2 c2 ss ps W q k hi hf hg)
  have hsm := rs_sm (ed_zero hz).2.2.2 ki
  have HPP := Lib.hid (fun (W : World) (q : LP W A n ss A2 n2 ps) => rputp_any A A2 n c n2 c2 ss ps W q hsm)
  rw [hz] at HCK
  have hpt : (ptS ss ps).size ≤ 2000 := ptS_size hsm
  have hf12 := nm_small (ed_zero hz).2.1
  have hg12 := nm_small (ed_zero hz).2.2.1
  obtain ⟨u, hu⟩ : ∃ u, u = tS f := ⟨_, rfl⟩
  obtain ⟨v, hv⟩ : ∃ v, v = tS g := ⟨_, rfl⟩
  obtain ⟨x, hx⟩ : ∃ x, x = ptS ss ps := ⟨_, rfl⟩
  have huz : u.size ≤ 22 := by rw [hu]; have := tS_size f; omega
  have hvz : v.size ≤ 22 := by rw [hv]; have := tS_size g; omega
  have hxz : x.size ≤ 2000 := by rw [hx]; exact hpt
  have HP1 := Lib.hid (fun W : World => show Calls Try.prog 195 #[.string f] W fun e w' => e = .returned (.string u) ∧ Below W.heap.size W w' by rw [hu]; exact refPutText_any f W (by omega))
  have HP2 := Lib.hid (fun W : World => show Calls Try.prog 195 #[.string g] W fun e w' => e = .returned (.string v) ∧ Below W.heap.size W w' by rw [hv]; exact refPutText_any g W (by omega))
  rw [← hx] at HPP
  obtain ⟨s1, hs1⟩ : ∃ s1 : ByteArray, s1 = u ++ v := ⟨_, rfl⟩
  obtain ⟨s2, hs2⟩ : ∃ s2 : ByteArray, s2 = s1 ++ x := ⟨_, rfl⟩
  have y1 : s1.size = u.size + v.size := by rw [hs1, ByteArray.size_append]
  have q1 : ∀ W, (Op.stringOp .add u v).run Try.prog W = .ok (.string s1) W := fun W => by rw [hs1]; exact run_string_add_sum W _ _ (by omega)
  have q2 : ∀ W, (Op.stringOp .add s1 x).run Try.prog W = .ok (.string s2) W := fun W => by rw [hs2]; exact run_string_add_sum W _ _ (by omega)
  have HVV := Lib.hid (show s2 = (tS f ++ tS g) ++ ptS ss ps by rw [hs2, hs1, hu, hv, hx])
  clear hpt hf12 hg12 hu hv hx hs1 hs2 y1
  clear h k hz ki hsm
  have HB1 := Lib.hid (Below.refl w.heap.size w)
  go_enter Try.func138, Try.ntmps138
  have HF2 := Lib.hid (blk_new w (.cells #[.string i, .string f, .string g, .slice A n c, .slice A2 n2 c2] 85 (0, 0)))
  have HB3 := Lib.hid (HB1.out.alloc HB1.out.size (.cells #[.string i, .string f, .string g, .slice A n c, .slice A2 n2 c2] 85 (0, 0)))
  clear HB1
  have hc4 : (w.alloc (.cells #[.string i, .string f, .string g, .slice A n c, .slice A2 n2 c2] 85 (0, 0))).cell? ⟨w.heap.size, 0, none⟩ = some (.string i) := by rw [cell_of_row _ _ _ _ _ _ HF2.out]; rfl
  have hc5 : (w.alloc (.cells #[.string i, .string f, .string g, .slice A n c, .slice A2 n2 c2] 85 (0, 0))).cell? ⟨w.heap.size, 1, none⟩ = some (.string f) := by rw [cell_of_row _ _ _ _ _ _ HF2.out]; rfl
  have hc6 : (w.alloc (.cells #[.string i, .string f, .string g, .slice A n c, .slice A2 n2 c2] 85 (0, 0))).cell? ⟨w.heap.size, 2, none⟩ = some (.string g) := by rw [cell_of_row _ _ _ _ _ _ HF2.out]; rfl
  have hc7 : (w.alloc (.cells #[.string i, .string f, .string g, .slice A n c, .slice A2 n2 c2] 85 (0, 0))).cell? ⟨w.heap.size, 3, none⟩ = some (.slice A n c) := by rw [cell_of_row _ _ _ _ _ _ HF2.out]; rfl
  have hc8 : (w.alloc (.cells #[.string i, .string f, .string g, .slice A n c, .slice A2 n2 c2] 85 (0, 0))).cell? ⟨w.heap.size, 4, none⟩ = some (.slice A2 n2 c2) := by rw [cell_of_row _ _ _ _ _ _ HF2.out]; rfl
  go_wp2_with fail
  clear hc4 hc5 hc6 hc7 hc8
  refine (HCK.out (w.alloc (.cells #[.string i, .string f, .string g, .slice A n c, .slice A2 n2 c2] 85 (0, 0))) (H.out.below HB3.out)).mono ?_
  rintro e w1 ⟨rfl, hb1⟩
  have HF9 := Lib.hid (blk_below HF2.out hb1)
  have HB10 := Lib.hid (HB3.out.trans (hb1.mono HB3.out.size))
  clear hb1 HB3 HF2
  have hc11 : w1.cell? ⟨w.heap.size, 0, none⟩ = some (.string i) := by rw [cell_of_row _ _ _ _ _ _ HF9.out]; rfl
  have hc12 : w1.cell? ⟨w.heap.size, 1, none⟩ = some (.string f) := by rw [cell_of_row _ _ _ _ _ _ HF9.out]; rfl
  have hc13 : w1.cell? ⟨w.heap.size, 2, none⟩ = some (.string g) := by rw [cell_of_row _ _ _ _ _ _ HF9.out]; rfl
  have hc14 : w1.cell? ⟨w.heap.size, 3, none⟩ = some (.slice A n c) := by rw [cell_of_row _ _ _ _ _ _ HF9.out]; rfl
  have hc15 : w1.cell? ⟨w.heap.size, 4, none⟩ = some (.slice A2 n2 c2) := by rw [cell_of_row _ _ _ _ _ _ HF9.out]; rfl
  go_wp2_with fail
  have hr16 := fun d os => cell_regrown hc11 d os
  have hr17 := fun d os => cell_regrown hc12 d os
  have hr18 := fun d os => cell_regrown hc13 d os
  have hr19 := fun d os => cell_regrown hc14 d os
  have hr20 := fun d os => cell_regrown hc15 d os
  refine wp_region_quiet_below (by kernel_rfl) (by kernel_rfl) ?_
  repeat (any_goals (first | go_big_quiet_step ((first | (go_at_call 195; with_reducible exact Calls.regrown_of (HP1.out _)) | (go_at_call 195; with_reducible exact Calls.regrown_of (HP2.out _)) | (go_at_call 201; with_reducible exact Calls.regrown_of (HPP.out _ (H.out.below (HB10.out.trans ((below_regrown _ _ _).mono HB10.out.size))))))) | quiet_step ((first | (go_at_call 195; with_reducible exact Calls.regrown_of (HP1.out _)) | (go_at_call 195; with_reducible exact Calls.regrown_of (HP2.out _)) | (go_at_call 201; with_reducible exact Calls.regrown_of (HPP.out _ (H.out.below (HB10.out.trans ((below_regrown _ _ _).mono HB10.out.size)))))))))
  refine wpQuiet_nil ?_
  intro w2 hw2
  have hb2 := below_anyY hw2
  clear hw2 hr16 hr17 hr18 hr19 hr20
  clear hc11 hc12 hc13 hc14 hc15
  have HF21 := Lib.hid (blk_below HF9.out hb2)
  have HB22 := Lib.hid (HB10.out.trans (hb2.mono HB10.out.size))
  clear hb2 HB10 HF9
  go_wp2_with fail
  go_ret
  exact ⟨by first | (rw [← HVV.out]; done) | (rw [← HVV.out]; rfl), HB22.out⟩
set_option maxRecDepth 100000 in
set_option maxHeartbeats 2000000 in
theorem rpedge_no (i f g : ByteArray) (A A2 : Option Addr) (n c n2 c2 : Nat) (ss : List ByteArray) (ps : List Pr) (w : World) (h : LP w A n ss A2 n2 ps) (k : LOk n ss n2 ps) (hi : i.size ≤ maxLen) (hf : f.size ≤ maxLen) (hg : g.size ≤ maxLen) (hz : edW i f g ss ps ≠ 0) :
    Calls Try.prog 138 #[.agg #[.string i, .string f, .string g, .slice A n c, .slice A2 n2 c2]] w fun e w' => e = .returned (.string ⟨#[]⟩) ∧ Below w.heap.size w w' := by
  have H := Lib.hid h
  have HCK := Lib.hid (fun (W : World) (q : LP W A n ss A2 n2 ps) => redge_any i f g A A2 n c n2 c2 ss ps W q k hi hf hg)
  obtain ⟨z, hzz⟩ : ∃ z, z = edW i f g ss ps := ⟨_, rfl⟩
  rw [← hzz] at HCK hz
  have hz1 : (z != 0) = true := by simpa using hz
  clear h k hzz hz
  have HB1 := Lib.hid (Below.refl w.heap.size w)
  go_enter Try.func138, Try.ntmps138
  have HF2 := Lib.hid (blk_new w (.cells #[.string i, .string f, .string g, .slice A n c, .slice A2 n2 c2] 85 (0, 0)))
  have HB3 := Lib.hid (HB1.out.alloc HB1.out.size (.cells #[.string i, .string f, .string g, .slice A n c, .slice A2 n2 c2] 85 (0, 0)))
  clear HB1
  have hc4 : (w.alloc (.cells #[.string i, .string f, .string g, .slice A n c, .slice A2 n2 c2] 85 (0, 0))).cell? ⟨w.heap.size, 0, none⟩ = some (.string i) := by rw [cell_of_row _ _ _ _ _ _ HF2.out]; rfl
  have hc5 : (w.alloc (.cells #[.string i, .string f, .string g, .slice A n c, .slice A2 n2 c2] 85 (0, 0))).cell? ⟨w.heap.size, 1, none⟩ = some (.string f) := by rw [cell_of_row _ _ _ _ _ _ HF2.out]; rfl
  have hc6 : (w.alloc (.cells #[.string i, .string f, .string g, .slice A n c, .slice A2 n2 c2] 85 (0, 0))).cell? ⟨w.heap.size, 2, none⟩ = some (.string g) := by rw [cell_of_row _ _ _ _ _ _ HF2.out]; rfl
  have hc7 : (w.alloc (.cells #[.string i, .string f, .string g, .slice A n c, .slice A2 n2 c2] 85 (0, 0))).cell? ⟨w.heap.size, 3, none⟩ = some (.slice A n c) := by rw [cell_of_row _ _ _ _ _ _ HF2.out]; rfl
  have hc8 : (w.alloc (.cells #[.string i, .string f, .string g, .slice A n c, .slice A2 n2 c2] 85 (0, 0))).cell? ⟨w.heap.size, 4, none⟩ = some (.slice A2 n2 c2) := by rw [cell_of_row _ _ _ _ _ _ HF2.out]; rfl
  go_wp2_with fail
  clear hc4 hc5 hc6 hc7 hc8
  refine (HCK.out (w.alloc (.cells #[.string i, .string f, .string g, .slice A n c, .slice A2 n2 c2] 85 (0, 0))) (H.out.below HB3.out)).mono ?_
  rintro e w1 ⟨rfl, hb1⟩
  have HF9 := Lib.hid (blk_below HF2.out hb1)
  have HB10 := Lib.hid (HB3.out.trans (hb1.mono HB3.out.size))
  clear hb1 HB3 HF2
  have hc11 : w1.cell? ⟨w.heap.size, 0, none⟩ = some (.string i) := by rw [cell_of_row _ _ _ _ _ _ HF9.out]; rfl
  have hc12 : w1.cell? ⟨w.heap.size, 1, none⟩ = some (.string f) := by rw [cell_of_row _ _ _ _ _ _ HF9.out]; rfl
  have hc13 : w1.cell? ⟨w.heap.size, 2, none⟩ = some (.string g) := by rw [cell_of_row _ _ _ _ _ _ HF9.out]; rfl
  have hc14 : w1.cell? ⟨w.heap.size, 3, none⟩ = some (.slice A n c) := by rw [cell_of_row _ _ _ _ _ _ HF9.out]; rfl
  have hc15 : w1.cell? ⟨w.heap.size, 4, none⟩ = some (.slice A2 n2 c2) := by rw [cell_of_row _ _ _ _ _ _ HF9.out]; rfl
  go_wp2_with fail
  go_ret
  exact ⟨rfl, HB10.out⟩
end Go.Proofs.Ytbjngbacnkmjhaa
namespace Go.Proofs.Ytbjngbacnkmjhaa
open Go.RowKit Vi

theorem sln_of {w : World} {A : Option Addr} {n : Nat} {l : List ByteArray} (h : RdX (Sh.cells .str) 1 w A n l) : SlN w A n l :=
  ⟨h.1, fun hp => by
    obtain ⟨b, off, e, _, hc⟩ := h.2 hp
    refine ⟨b, off, e, fun i hi => ?_⟩
    have := hc i l[i] 0 (.string l[i]) (List.getElem?_eq_getElem hi) rfl
    rwa [Nat.mul_one, Nat.add_zero] at this⟩
abbrev ShP : Sh := .pair .str (.pair (.int .i64) (.pair (.int .i64) .str))
theorem prC_sh : Sh.cells ShP = prC := rfl
theorem wf_bd {n : Int} (h : (Lit.int .i64 n).wf = true) : -9223372036854775808 ≤ n ∧ n ≤ 9223372036854775807 := by simpa [Lit.wf, IntKind.min, IntKind.max, IntKind.bits, IntKind.signed] using h
theorem okP_sh {w : World} {p : Pr} (h : Sh.Ok w ShP p) : p.1.size ≤ maxLen ∧ (Lit.int .i64 p.2.1).wf = true ∧ (Lit.int .i64 p.2.2.1).wf = true ∧ p.2.2.2.size ≤ maxLen := h
theorem lp_of {w : World} (x : SlX ByteArray) (y : SlX Pr) (h : Sh.Ok w (.slice .str) x) (k : Sh.Ok w (.slice ShP) y) : LP w x.a x.n x.l y.a y.n y.l ∧ LOk x.n x.l y.n y.l ∧ IntsOk y.l := by
  obtain ⟨h1, h2, h3, h4⟩ := h
  obtain ⟨k1, k2, k3, k4⟩ := k
  refine ⟨⟨sln_of h1, ?_⟩, ⟨Nat.le_trans h2 h3, Nat.le_trans k2 k3, fun s hs => h4 s hs, fun p hp => (okP_sh (k4 p hp)).1⟩, fun p hp => wf_bd (okP_sh (k4 p hp)).2.2.1⟩
  exact k1
def FewE (n n2 : Nat) (w : World) (e : Ending) (w' : World) : Prop := ∃ b : Bool, e = .returned (.bool b) ∧ (b = true → n ≤ 20 ∧ n2 ≤ 20) ∧ Below w.heap.size w w'
end Go.Proofs.Ytbjngbacnkmjhaa
namespace Go.Proofs.Ytbjngbacnkmjhaa
open Go.RowKit Vi Zp

theorem OwX.hothA {α : Type} {f : α → List Value} {s : Nat} {T : TypeId} {w W : World} {B g : Nat} {v : Value} {l : List α} (h : OwX f s T w B v l) (ho : ∀ k, k ≠ g → W.heap[k]? = w.heap[k]?) (hg : g < B) : OwX f s T W B v l := by
  rcases h with ⟨h1, h | ⟨b, cap, cur, h2, h3, h4, h5⟩⟩
  · exact ⟨h1, .inl h⟩
  · exact ⟨h1, .inr ⟨b, cap, cur, h2, h3, (ho b (by omega)).trans h4, h5⟩⟩
theorem RdOk.hoth {w W : World} {B g : Nat} {v v2 : Value} {l : List ByteArray} {ps : List Pr} (h : RdOk w B v v2 l ps) (ho : ∀ k, k ≠ g → W.heap[k]? = w.heap[k]?) (hg : g < B) : RdOk W B v v2 l ps :=
  ⟨h.rl.hothA ho hg, h.rp.hothA ho hg, h.nl, h.np, h.sl, h.sp, h.i⟩
theorem RdOk.set {w : World} {B b : Nat} {v v2 : Value} {l : List ByteArray} {ps : List Pr} (h : RdOk w B v v2 l ps) (hb : b < B) (i : Nat) (u : Value) : RdOk (w.setCell ⟨b, i, none⟩ u) B v v2 l ps :=
  h.hoth (g := b) (fun _ hk => Below.heap_setCell _ _ _ _ hk) hb
theorem RdOk.kept {w W : World} {B : Nat} {v v2 : Value} {l : List ByteArray} {ps : List Pr} (h : RdOk w B v v2 l ps) (hb : Below w.heap.size w W) : RdOk W B v v2 l ps :=
  ⟨h.rl.kept hb, h.rp.kept hb, h.nl, h.np, h.sl, h.sp, h.i⟩
theorem RdOk.mono {w : World} {B B' : Nat} {v v2 : Value} {l : List ByteArray} {ps : List Pr} (h : RdOk w B v v2 l ps) (hb : B' ≤ B) : RdOk w B' v v2 l ps :=
  ⟨h.rl.mono hb, h.rp.mono hb, h.nl, h.np, h.sl, h.sp, h.i⟩
/-- its two slices, as the checks want them -/
theorem RdOk.lp {w : World} {B : Nat} {v v2 : Value} {l : List ByteArray} {ps : List Pr} (h : RdOk w B v v2 l ps) : ∃ A c A2 c2, v = .slice A l.length c ∧ v2 = .slice A2 ps.length c2 ∧ LP w A l.length l A2 ps.length ps ∧ l.length ≤ c ∧ c ≤ maxLen ∧ ps.length ≤ c2 ∧ c2 ≤ maxLen := by
  obtain ⟨A, c, e, r, k1, k2⟩ := h.rl.rd stC_len
  obtain ⟨A2, c2, e2, r2, k3, k4⟩ := h.rp.rd prC_len
  exact ⟨A, c, A2, c2, e, e2, ⟨sln_of r, r2⟩, k1, k2, k3, k4⟩
theorem RdOk.ok {w : World} {B : Nat} {v v2 : Value} {l : List ByteArray} {ps : List Pr} (h : RdOk w B v v2 l ps) : LOk l.length l ps.length ps := by
  have a1 := h.nl
  have a2 := h.np
  refine ⟨?_, ?_, fun s hs => ?_, fun p hp => ?_⟩
  · unfold maxLen; omega
  · unfold maxLen; omega
  · have := h.sl s hs; unfold maxLen; omega
  · have := h.sp p hp; unfold maxLen; omega
theorem ba_neA {a b : ByteArray} (h : a ≠ b) : (a.toList == b.toList) = false := by
  rw [beq_eq_false_iff_ne, Lib.toList_data, Lib.toList_data]
  exact fun e => h (Zp.ba_ext e)
theorem info_nd (a b c : Value) : (Try.prog.info? 81).map (·.size) = some (#[a, b, c] : Array Value).size := by kernel_rfl
theorem one_nd (i : ByteArray) (A A2 : Option Addr) (n c n2 c2 : Nat) : (#[.string i, .slice A n c, .slice A2 n2 c2] : Array Value).all (·.oneCell') = true := by simp [Value.oneCell']
theorem info_ed (a b c d e : Value) : (Try.prog.info? 85).map (·.size) = some (#[a, b, c, d, e] : Array Value).size := by kernel_rfl
theorem one_ed (i f g : ByteArray) (A A2 : Option Addr) (n c n2 c2 : Nat) : (#[.string i, .string f, .string g, .slice A n c, .slice A2 n2 c2] : Array Value).all (·.oneCell') = true := by simp [Value.oneCell']
def TakeN (ok bad : Value) (i S : ByteArray) (w : World) (e : Ending) (w' : World) : Prop :=
  (∃ (ss : List ByteArray) (ps : List Pr) (vL vP : Value), IsN i S ss ps ∧ (∀ ss' ps', IsN i S ss' ps' → ss' = ss ∧ ps' = ps) ∧ e = .returned (.tuple #[.agg #[.string i, vL, vP], ok]) ∧ RdOk w' w.heap.size vL vP ss ps ∧ Below w.heap.size w w') ∨
  ((∀ ss ps, ¬ IsN i S ss ps) ∧ e = .returned (.tuple #[.agg #[.string ⟨#[]⟩, .slice none 0 0, .slice none 0 0], bad]) ∧ Below w.heap.size w w')
def TakeE (ok bad : Value) (i S : ByteArray) (w : World) (e : Ending) (w' : World) : Prop :=
  (∃ (f g : ByteArray) (ss : List ByteArray) (ps : List Pr) (vL vP : Value), IsE i S f g ss ps ∧ (∀ f' g' ss' ps', IsE i S f' g' ss' ps' → f' = f ∧ g' = g ∧ ss' = ss ∧ ps' = ps) ∧ e = .returned (.tuple #[.agg #[.string i, .string f, .string g, vL, vP], ok]) ∧ RdOk w' w.heap.size vL vP ss ps ∧ Below w.heap.size w w') ∨
  ((∀ f g ss ps, ¬ IsE i S f g ss ps) ∧ e = .returned (.tuple #[.agg #[.string ⟨#[]⟩, .string ⟨#[]⟩, .string ⟨#[]⟩, .slice none 0 0, .slice none 0 0], bad]) ∧ Below w.heap.size w w')
theorem IsE.start {i S f' g' : ByteArray} {m1 m2 : Int} (hm1 : 12 ≤ m1) (hm2 : 12 ≤ m2) {q1 q2 : Nat} {e1 e2 : Int} (h1 : Rd.text S 0 0 m1 = (f', q1, e1)) (h2 : Rd.text S q1 e1 m2 = (g', q2, e2)) : StartP (fun ss ps => ∃ f g, IsE i S f g ss ps) S q2 e2 := fun ss ps ⟨f, g, h⟩ => by
  obtain ⟨_, _, k1, k2, k3, k4⟩ := h.front hm1 hm2 h1 h2
  exact ⟨k1, k2, k3, k4⟩
set_option maxHeartbeats 8000000 in
set_option maxRecDepth 100000 in
theorem tnode_any (i S : ByteArray) (w : World) (hi : i.size ≤ maxLen) (hS : S.size ≤ 999999) :
    Calls Try.prog 140 #[.string i, .string S] w (TakeN (.int .i64 0) (.int .i64 3) i S w) := by
  have hSm : S.size ≤ 1000000 := by omega
  have HST := Lib.hid (IsN.start i S)
  have HB1 := Lib.hid (Below.refl w.heap.size w)
  go_enter Try.func140, Try.ntmps140
  have HF2 := Lib.hid (blk_new w (.cells #[.string ⟨#[]⟩, .slice none 0 0, .slice none 0 0] 81 (0, 0)))
  have HB3 := Lib.hid (HB1.out.alloc HB1.out.size (.cells #[.string ⟨#[]⟩, .slice none 0 0, .slice none 0 0] 81 (0, 0)))
  clear HB1
  have HF4 := Lib.hid (blk_alloc HF2.out (.cells #[.string i, .slice none 0 0, .slice none 0 0] 81 (0, 0)))
  clear HF2
  have HF5 : Hid (((w.alloc (.cells #[.string ⟨#[]⟩, .slice none 0 0, .slice none 0 0] 81 (0, 0))).alloc (.cells #[.string i, .slice none 0 0, .slice none 0 0] 81 (0, 0))).heap[w.heap.size + 1]? = some (.cells #[.string i, .slice none 0 0, .slice none 0 0] 81 (0, 0))) := Lib.hid (blk_newN (W := (w.alloc (.cells #[.string ⟨#[]⟩, .slice none 0 0, .slice none 0 0] 81 (0, 0)))) (o := (.cells #[.string i, .slice none 0 0, .slice none 0 0] 81 (0, 0))) (by simp))
  have HB6 := Lib.hid (HB3.out.alloc (by have := HB3.out.size; simp at this ⊢ <;> omega) (.cells #[.string i, .slice none 0 0, .slice none 0 0] 81 (0, 0)))
  clear HB3
  go_wp2_with fail
  refine (new_any S ((w.alloc (.cells #[.string ⟨#[]⟩, .slice none 0 0, .slice none 0 0] 81 (0, 0))).alloc (.cells #[.string i, .slice none 0 0, .slice none 0 0] 81 (0, 0)))).mono ?_
  rintro e w1 ⟨rfl, hs, hb⟩
  obtain ⟨B, hBe⟩ : ∃ B, B = ((w.alloc (.cells #[.string ⟨#[]⟩, .slice none 0 0, .slice none 0 0] 81 (0, 0))).alloc (.cells #[.string i, .slice none 0 0, .slice none 0 0] 81 (0, 0))).heap.size := ⟨_, rfl⟩
  rw [← hBe] at hs
  have HF7 := Lib.hid (blk_below HF4.out hb)
  have hk8 : w.heap.size < B := by rw [hBe]; exact lt_of_block HF4.out
  have HF9 := Lib.hid (blk_below HF5.out hb)
  have hk10 : w.heap.size + 1 < B := by rw [hBe]; exact lt_of_block HF5.out
  have HB11 := Lib.hid (HB6.out.trans (hb.mono HB6.out.size))
  have hBw : w.heap.size ≤ B := by rw [hBe]; exact HB6.out.size
  have HBE := Lib.hid hBe
  have HS12 := Lib.hid hs
  clear hb hs hBe HB6 HF4 HF5
  rw [← HBE.out]
  go_wp2_with fail
  refine (cread_any (IsN i S) S 0 0 B w1 hS (Nat.zero_le _) HS12.out HST.out).mono ?_
  rintro e w2 ⟨l, ps, vL, vP, rfl, hro, hd, hk⟩
  have hBA : w.heap.size + 2 ≤ w1.heap.size := by have := lt_of_block HF9.out; omega
  have HF13 := Lib.hid (blk_but HF7.out hk (by omega))
  have HF14 := Lib.hid (blk_but HF9.out hk (by omega))
  have HB15 := Lib.hid (But.below HB11.out hk hBw HB11.out.size)
  have HRO := Lib.hid hro
  have HD := Lib.hid hd
  obtain ⟨base, hbase⟩ : ∃ x, x = w1.heap.size := ⟨_, rfl⟩
  rw [← hbase] at HRO hBA
  clear hk hro hd hbase HB11 HF7 HF9
  obtain ⟨A, c, A2, c2, rfl, rfl, _, _⟩ := HRO.out.lp
  obtain ⟨n, hn⟩ : ∃ n, n = l.length := ⟨_, rfl⟩
  obtain ⟨n2, hn2⟩ : ∃ n, n = ps.length := ⟨_, rfl⟩
  have HOK := Lib.hid (show LOk n l n2 ps by rw [hn, hn2]; exact HRO.out.ok)
  have HLP := Lib.hid (fun (W : World) (q : RdOk W base (.slice A n c) (.slice A2 n2 c2) l ps) => show LP W A n l A2 n2 ps by
    obtain ⟨A', c', A2', c2', e1, e2, h, _⟩ := q.lp
    rw [← hn] at e1 h
    rw [← hn2] at e2 h
    cases e1
    cases e2
    exact h)
  rw [← hn, ← hn2] at HRO
  rw [← hn, ← hn2]
  clear hn hn2
  have hc16 : w2.cell? ⟨w.heap.size + 1, 0, none⟩ = some (.string i) := by rw [cell_of_row _ _ _ _ _ _ HF14.out]; rfl
  have hc17 : w2.cell? ⟨w.heap.size + 1, 1, none⟩ = some (.slice none 0 0) := by rw [cell_of_row _ _ _ _ _ _ HF14.out]; rfl
  have hc18 : w2.cell? ⟨w.heap.size + 1, 2, none⟩ = some (.slice none 0 0) := by rw [cell_of_row _ _ _ _ _ _ HF14.out]; rfl
  have hz19 : w2.frozen? ⟨w.heap.size + 1, 1, none⟩ = false := frozen_of_row _ _ _ _ _ HF14.out
  have hz20 : w2.frozen? ⟨w.heap.size + 1, 2, none⟩ = false := frozen_of_row _ _ _ _ _ HF14.out
  go_upto_region 3 with (fail)
  clear hc16 hc17 hc18 hz19 hz20
  have HF21 := Lib.hid (show (w2.setCell ⟨w.heap.size + 1, 1, none⟩ (.slice A n c)).heap[w.heap.size]? = some (.cells #[.string ⟨#[]⟩, .slice none 0 0, .slice none 0 0] 81 (0, 0)) by rw [Below.heap_setCell _ _ _ _ (by show w.heap.size ≠ w.heap.size + 1; omega)]; exact HF13.out)
  have HF22 := Lib.hid (show (w2.setCell ⟨w.heap.size + 1, 1, none⟩ (.slice A n c)).heap[w.heap.size + 1]? = some (.cells #[.string i, .slice A n c, .slice none 0 0] 81 (0, 0)) by have h := heap_setCell_at (i := 1) (u := .slice A n c) HF14.out; exact h)
  have HB23 := Lib.hid (HB15.out.setCell (p := ⟨w.heap.size + 1, 1, none⟩) (by show w.heap.size ≤ w.heap.size + 1; omega) (.slice A n c))
  have HF24 := Lib.hid (show ((w2.setCell ⟨w.heap.size + 1, 1, none⟩ (.slice A n c)).setCell ⟨w.heap.size + 1, 2, none⟩ (.slice A2 n2 c2)).heap[w.heap.size]? = some (.cells #[.string ⟨#[]⟩, .slice none 0 0, .slice none 0 0] 81 (0, 0)) by rw [Below.heap_setCell _ _ _ _ (by show w.heap.size ≠ w.heap.size + 1; omega)]; exact HF21.out)
  have HF25 := Lib.hid (show ((w2.setCell ⟨w.heap.size + 1, 1, none⟩ (.slice A n c)).setCell ⟨w.heap.size + 1, 2, none⟩ (.slice A2 n2 c2)).heap[w.heap.size + 1]? = some (.cells #[.string i, .slice A n c, .slice A2 n2 c2] 81 (0, 0)) by have h := heap_setCell_at (i := 2) (u := .slice A2 n2 c2) HF22.out; exact h)
  have HB26 := Lib.hid (HB23.out.setCell (p := ⟨w.heap.size + 1, 2, none⟩) (by show w.heap.size ≤ w.heap.size + 1; omega) (.slice A2 n2 c2))
  have HRO2 := Lib.hid ((HRO.out.set (b := w.heap.size + 1) (by omega) 1 (.slice A n c)).set (b := w.heap.size + 1) (by omega) 2 (.slice A2 n2 c2))
  obtain ⟨wk, hwk⟩ : ∃ x, x = ((w2.setCell ⟨w.heap.size + 1, 1, none⟩ (.slice A n c)).setCell ⟨w.heap.size + 1, 2, none⟩ (.slice A2 n2 c2)) := ⟨_, rfl⟩
  rw [← hwk] at HF24 HF25 HB26 HRO2
  rw [← hwk]
  clear hwk HRO
  have HRO := HRO2
  clear HRO2
  have HUN := Lib.hid (fun ss' ps' (h : IsN i S ss' ps') => show ss' = l ∧ ps' = ps from ⟨(HD.out ss' ps' h).1.symm, (HD.out ss' ps' h).2.symm⟩)
  by_cases hz : ndW i l ps = 0
  · obtain ⟨T, hT⟩ : ∃ T, T = ptS l ps := ⟨_, rfl⟩
    have HPN := Lib.hid (fun (W : World) (q : LP W A n l A2 n2 ps) => pnode_yes i A A2 n c n2 c2 l ps W q HOK.out hi hz HRO.out.i)
    rw [← hT] at HPN
    by_cases hs : T = S
    · have HIS := Lib.hid (show IsN i S l ps from ⟨hz, HRO.out.i, by rw [← hT, hs]⟩)
      have hqe : (T.toList == S.toList) = true := by rw [hs]; simp
      have hqn : (T.toList != S.toList) = false := by rw [hs]; simp
      clear hz hT hs
      have hc27 : wk.cell? ⟨w.heap.size + 1, 0, none⟩ = some (.string i) := by rw [cell_of_row _ _ _ _ _ _ HF25.out]; rfl
      have hc28 : wk.cell? ⟨w.heap.size + 1, 1, none⟩ = some (.slice A n c) := by rw [cell_of_row _ _ _ _ _ _ HF25.out]; rfl
      have hc29 : wk.cell? ⟨w.heap.size + 1, 2, none⟩ = some (.slice A2 n2 c2) := by rw [cell_of_row _ _ _ _ _ _ HF25.out]; rfl
      go_wp2_with fail
      clear hc27 hc28 hc29
      refine (HPN.out wk (HLP.out _ HRO.out)).mono ?_
      rintro e w3 ⟨rfl, hb3⟩
      have HF30 := Lib.hid (blk_below HF24.out hb3)
      have HF31 := Lib.hid (blk_below HF25.out hb3)
      have HB32 := Lib.hid (HB26.out.trans (hb3.mono HB26.out.size))
      have HRO3 := Lib.hid (HRO.out.kept hb3)
      clear hb3 HB26 HF24 HF25
      have hk33 : w.heap.size < w3.heap.size := lt_of_block HF30.out
      have hk34 : w.heap.size + 1 < w3.heap.size := lt_of_block HF31.out
      have hc35 : w3.cell? ⟨w.heap.size + 1, 0, none⟩ = some (.string i) := by rw [cell_of_row _ _ _ _ _ _ HF31.out]; rfl
      have hc36 : w3.cell? ⟨w.heap.size + 1, 1, none⟩ = some (.slice A n c) := by rw [cell_of_row _ _ _ _ _ _ HF31.out]; rfl
      have hc37 : w3.cell? ⟨w.heap.size + 1, 2, none⟩ = some (.slice A2 n2 c2) := by rw [cell_of_row _ _ _ _ _ _ HF31.out]; rfl
      go_wp2_with (first
        | refine wpList_store_rowY rfl 81 (.tmp 4) (.tmp 32) rfl (w.heap.size) #[.string i, .slice A n c, .slice A2 n2 c2] rfl rfl 81 _ HF30.out (info_nd _ _ _) rfl (one_nd _ _ _ _ _ _ _) w.heap.size w HB32.out (by omega) ?_)
      intro W4 hbk hoth hbel _
      clear hc35 hc36 hc37
      have HF38 := Lib.hid hbk.out
      have HF39 := Lib.hid (blk_oth HF31.out hoth.out (by omega))
      have HB40 := Lib.hid hbel.out
      have HRO4 := Lib.hid (HRO3.out.hoth hoth.out (by omega))
      clear hbk hoth hbel HB32  HF30 HF31
      go_wp2_with fail
      refine bodyPost_ret (results_ctY rfl _ _ (w.heap.size) #[.string i, .slice A n c, .slice A2 n2 c2] rfl (run_loadVar_row _ (w.heap.size) 81 81 _ (0, 0) _ HF38.out Try.underlying81 rfl (info_nd _ _ _))) rfl ?_
      exact Or.inl ⟨l, ps, _, _, HIS.out, HUN.out, rfl, HRO4.out.mono (by omega), HB40.out⟩
    · have HNO := Lib.hid (show ∀ ss0 ps0, ¬ IsN i S ss0 ps0 from fun ss0 ps0 h0 => by
        obtain ⟨rfl, rfl⟩ := HUN.out ss0 ps0 h0
        exact hs (by rw [hT]; exact h0.2.2))
      have hqe := ba_neA hs
      have hqn : (T.toList != S.toList) = true := by rw [bne, hqe]; rfl
      clear hz hT hs
      have hc27 : wk.cell? ⟨w.heap.size + 1, 0, none⟩ = some (.string i) := by rw [cell_of_row _ _ _ _ _ _ HF25.out]; rfl
      have hc28 : wk.cell? ⟨w.heap.size + 1, 1, none⟩ = some (.slice A n c) := by rw [cell_of_row _ _ _ _ _ _ HF25.out]; rfl
      have hc29 : wk.cell? ⟨w.heap.size + 1, 2, none⟩ = some (.slice A2 n2 c2) := by rw [cell_of_row _ _ _ _ _ _ HF25.out]; rfl
      go_wp2_with fail
      clear hc27 hc28 hc29
      refine (HPN.out wk (HLP.out _ HRO.out)).mono ?_
      rintro e w3 ⟨rfl, hb3⟩
      have HF30 := Lib.hid (blk_below HF24.out hb3)
      have HF31 := Lib.hid (blk_below HF25.out hb3)
      have HB32 := Lib.hid (HB26.out.trans (hb3.mono HB26.out.size))
      have HRO3 := Lib.hid (HRO.out.kept hb3)
      clear hb3 HB26 HF24 HF25
      have hk33 : w.heap.size < w3.heap.size := lt_of_block HF30.out
      have hk34 : w.heap.size + 1 < w3.heap.size := lt_of_block HF31.out
      have hc35 : w3.cell? ⟨w.heap.size + 1, 0, none⟩ = some (.string i) := by rw [cell_of_row _ _ _ _ _ _ HF31.out]; rfl
      have hc36 : w3.cell? ⟨w.heap.size + 1, 1, none⟩ = some (.slice A n c) := by rw [cell_of_row _ _ _ _ _ _ HF31.out]; rfl
      have hc37 : w3.cell? ⟨w.heap.size + 1, 2, none⟩ = some (.slice A2 n2 c2) := by rw [cell_of_row _ _ _ _ _ _ HF31.out]; rfl
      go_wp2_with (first
        | refine wpList_store_rowY rfl 81 (.tmp 4) (.tmp 31) rfl (w.heap.size) #[.string ⟨#[]⟩, .slice none 0 0, .slice none 0 0] rfl rfl 81 _ HF30.out (info_nd _ _ _) rfl (one_nd _ _ _ _ _ _ _) w.heap.size w HB32.out (by omega) ?_)
      intro W4 hbk hoth hbel _
      clear hc35 hc36 hc37
      have HF38 := Lib.hid hbk.out
      have HF39 := Lib.hid (blk_oth HF31.out hoth.out (by omega))
      have HB40 := Lib.hid hbel.out
      clear hbk hoth hbel HB32  HF30 HF31
      go_wp2_with fail
      refine bodyPost_ret (results_ctY rfl _ _ (w.heap.size) #[.string ⟨#[]⟩, .slice none 0 0, .slice none 0 0] rfl (run_loadVar_row _ (w.heap.size) 81 81 _ (0, 0) _ HF38.out Try.underlying81 rfl (info_nd _ _ _))) rfl ?_
      exact Or.inr ⟨HNO.out, rfl, HB40.out⟩
  · have HNO := Lib.hid (show ∀ ss0 ps0, ¬ IsN i S ss0 ps0 from fun ss0 ps0 h0 => by
      obtain ⟨rfl, rfl⟩ := HUN.out ss0 ps0 h0
      exact hz h0.1)
    obtain ⟨z, hzz⟩ : ∃ z, z = ndW i l ps := ⟨_, rfl⟩
    have HPN := Lib.hid (fun (W : World) (q : LP W A n l A2 n2 ps) => pnode_no i A A2 n c n2 c2 l ps W q HOK.out hi hz)
    rw [← hzz] at HPN hz
    have hz1 : (z != 0) = true := by simpa using hz
    clear hz hzz
    have hc27 : wk.cell? ⟨w.heap.size + 1, 0, none⟩ = some (.string i) := by rw [cell_of_row _ _ _ _ _ _ HF25.out]; rfl
    have hc28 : wk.cell? ⟨w.heap.size + 1, 1, none⟩ = some (.slice A n c) := by rw [cell_of_row _ _ _ _ _ _ HF25.out]; rfl
    have hc29 : wk.cell? ⟨w.heap.size + 1, 2, none⟩ = some (.slice A2 n2 c2) := by rw [cell_of_row _ _ _ _ _ _ HF25.out]; rfl
    go_wp2_with fail
    clear hc27 hc28 hc29
    refine (HPN.out wk (HLP.out _ HRO.out)).mono ?_
    rintro e w3 ⟨rfl, hb3⟩
    have HF30 := Lib.hid (blk_below HF24.out hb3)
    have HF31 := Lib.hid (blk_below HF25.out hb3)
    have HB32 := Lib.hid (HB26.out.trans (hb3.mono HB26.out.size))
    have HRO3 := Lib.hid (HRO.out.kept hb3)
    clear hb3 HB26 HF24 HF25
    have hk33 : w.heap.size < w3.heap.size := lt_of_block HF30.out
    have hk34 : w.heap.size + 1 < w3.heap.size := lt_of_block HF31.out
    have hc35 : w3.cell? ⟨w.heap.size + 1, 0, none⟩ = some (.string i) := by rw [cell_of_row _ _ _ _ _ _ HF31.out]; rfl
    have hc36 : w3.cell? ⟨w.heap.size + 1, 1, none⟩ = some (.slice A n c) := by rw [cell_of_row _ _ _ _ _ _ HF31.out]; rfl
    have hc37 : w3.cell? ⟨w.heap.size + 1, 2, none⟩ = some (.slice A2 n2 c2) := by rw [cell_of_row _ _ _ _ _ _ HF31.out]; rfl
    go_wp2_with (first
      | refine wpList_store_rowY rfl 81 (.tmp 4) (.tmp 31) rfl (w.heap.size) #[.string ⟨#[]⟩, .slice none 0 0, .slice none 0 0] rfl rfl 81 _ HF30.out (info_nd _ _ _) rfl (one_nd _ _ _ _ _ _ _) w.heap.size w HB32.out (by omega) ?_)
    intro W4 hbk hoth hbel _
    clear hc35 hc36 hc37
    have HF38 := Lib.hid hbk.out
    have HF39 := Lib.hid (blk_oth HF31.out hoth.out (by omega))
    have HB40 := Lib.hid hbel.out
    clear hbk hoth hbel HB32  HF30 HF31
    go_wp2_with fail
    refine bodyPost_ret (results_ctY rfl _ _ (w.heap.size) #[.string ⟨#[]⟩, .slice none 0 0, .slice none 0 0] rfl (run_loadVar_row _ (w.heap.size) 81 81 _ (0, 0) _ HF38.out Try.underlying81 rfl (info_nd _ _ _))) rfl ?_
    exact Or.inr ⟨HNO.out, rfl, HB40.out⟩
set_option maxHeartbeats 8000000 in
set_option maxRecDepth 100000 in
theorem tedge_any (i S : ByteArray) (w : World) (hi : i.size ≤ maxLen) (hS : S.size ≤ 999999) :
    Calls Try.prog 142 #[.string i, .string S] w (TakeE (.int .i64 0) (.int .i64 3) i S w) := by
  have hSm : S.size ≤ 1000000 := by omega
  obtain ⟨f, q1, e1, hT1⟩ : ∃ a0 a1 a2, Rd.text S 0 0 12 = (a0, a1, a2) := ⟨_, _, _, rfl⟩
  have hq1 := Rd.text_le S 0 0 12 (Nat.zero_le _)
  have hf := text_size S 0 0 12
  rw [hT1] at hq1 hf
  dsimp only at hq1 hf
  obtain ⟨g, q2, e2, hT2⟩ : ∃ a0 a1 a2, Rd.text S q1 e1 12 = (a0, a1, a2) := ⟨_, _, _, rfl⟩
  have hq2 := Rd.text_le S q1 e1 12 hq1
  have hg := text_size S q1 e1 12
  rw [hT2] at hq2 hg
  dsimp only at hq2 hg
  have hf : f.size ≤ maxLen := by unfold maxLen; omega
  have hg : g.size ≤ maxLen := by unfold maxLen; omega
  have HT1 := Lib.hid (fun (W : World) (B : Nat) (s : Sc W B true S 0 0) => textU W B S 0 0 12 hSm (Nat.zero_le _) s (by omega))
  have HT2 := Lib.hid (fun (W : World) (B : Nat) (s : Sc W B true S q1 e1) => textU W B S q1 e1 12 hSm hq1 s (by omega))
  rw [hT1] at HT1
  rw [hT2] at HT2
  dsimp only at HT1 HT2
  have HFR := Lib.hid (fun (f0 g0 : ByteArray) (ss : List ByteArray) (ps : List Pr) (h : IsE i S f0 g0 ss ps) => h.front (m1 := 12) (m2 := 12) (by omega) (by omega) hT1 hT2)
  have HST := Lib.hid (IsE.start (i := i) (m1 := 12) (m2 := 12) (by omega) (by omega) hT1 hT2)
  clear hT1 hT2
  have HB1 := Lib.hid (Below.refl w.heap.size w)
  go_enter Try.func142, Try.ntmps142
  have HF2 := Lib.hid (blk_new w (.cells #[.string ⟨#[]⟩, .string ⟨#[]⟩, .string ⟨#[]⟩, .slice none 0 0, .slice none 0 0] 85 (0, 0)))
  have HB3 := Lib.hid (HB1.out.alloc HB1.out.size (.cells #[.string ⟨#[]⟩, .string ⟨#[]⟩, .string ⟨#[]⟩, .slice none 0 0, .slice none 0 0] 85 (0, 0)))
  clear HB1
  go_wp2_with fail
  refine (new_any S (w.alloc (.cells #[.string ⟨#[]⟩, .string ⟨#[]⟩, .string ⟨#[]⟩, .slice none 0 0, .slice none 0 0] 85 (0, 0)))).mono ?_
  rintro e w1 ⟨rfl, hs, hb⟩
  obtain ⟨B, hBe⟩ : ∃ B, B = (w.alloc (.cells #[.string ⟨#[]⟩, .string ⟨#[]⟩, .string ⟨#[]⟩, .slice none 0 0, .slice none 0 0] 85 (0, 0))).heap.size := ⟨_, rfl⟩
  rw [← hBe] at hs
  have HF4 := Lib.hid (blk_below HF2.out hb)
  have hk5 : w.heap.size < B := by rw [hBe]; exact lt_of_block HF2.out
  have HB6 := Lib.hid (HB3.out.trans (hb.mono HB3.out.size))
  have hBw : w.heap.size ≤ B := by rw [hBe]; exact HB3.out.size
  have HBE := Lib.hid hBe
  have HS7 := Lib.hid hs
  clear hb hs hBe HB3 HF2
  rw [← HBE.out]
  go_wp2_with fail
  refine (HT1.out w1 B HS7.out).mono ?_
  rintro e w2 ⟨rfl, hs, hk⟩
  have HF8 := Lib.hid (blk_but HF4.out hk (by omega))
  have HB9 := Lib.hid (But.below HB6.out hk hBw HB6.out.size)
  have HS10 := Lib.hid hs
  clear hs hk HB6 HS7 HF4
  go_wp2_with fail
  refine (HT2.out w2 B HS10.out).mono ?_
  rintro e w3 ⟨rfl, hs, hk⟩
  have HF11 := Lib.hid (blk_but HF8.out hk (by omega))
  have HB12 := Lib.hid (But.below HB9.out hk hBw HB9.out.size)
  have HS13 := Lib.hid hs
  clear hs hk HB9 HS10 HF8
  have hk14 : B < w3.heap.size := HS13.out.lt
  have HF15 := Lib.hid (blk_alloc HF11.out (.cells #[.string i, .string f, .string g, .slice none 0 0, .slice none 0 0] 85 (0, 0)))
  have HF16 := Lib.hid (blk_new w3 (.cells #[.string i, .string f, .string g, .slice none 0 0, .slice none 0 0] 85 (0, 0)))
  have HB17 := Lib.hid (HB12.out.alloc HB12.out.size (.cells #[.string i, .string f, .string g, .slice none 0 0, .slice none 0 0] 85 (0, 0)))
  clear HB12
  have HS18 := Lib.hid (HS13.out.alloc (.cells #[.string i, .string f, .string g, .slice none 0 0, .slice none 0 0] 85 (0, 0)))
  clear HS13
  go_wp2_with fail
  refine (cread_any (fun ss ps => ∃ f g, IsE i S f g ss ps) S q2 e2 B (w3.alloc (.cells #[.string i, .string f, .string g, .slice none 0 0, .slice none 0 0] 85 (0, 0))) hS hq2 HS18.out HST.out).mono ?_
  rintro e w4 ⟨l, ps, vL, vP, rfl, hro, hd, hk⟩
  have hBA : w.heap.size + 1 ≤ (w3.alloc (.cells #[.string i, .string f, .string g, .slice none 0 0, .slice none 0 0] 85 (0, 0))).heap.size := by have := lt_of_block HF15.out; simp at this ⊢; omega
  have hNA := lt_of_block HF16.out
  have HF19 := Lib.hid (blk_but HF15.out hk (by omega))
  have HF20 := Lib.hid (blk_but HF16.out hk (by omega))
  have HB21 := Lib.hid (But.below HB17.out hk hBw HB17.out.size)
  have HRO := Lib.hid hro
  have HD := Lib.hid hd
  obtain ⟨base, hbase⟩ : ∃ x, x = (w3.alloc (.cells #[.string i, .string f, .string g, .slice none 0 0, .slice none 0 0] 85 (0, 0))).heap.size := ⟨_, rfl⟩
  rw [← hbase] at HRO hBA hNA
  clear hk hro hd hbase HB17 HF15 HF11 HF16
  obtain ⟨A, c, A2, c2, rfl, rfl, _, _⟩ := HRO.out.lp
  obtain ⟨n, hn⟩ : ∃ n, n = l.length := ⟨_, rfl⟩
  obtain ⟨n2, hn2⟩ : ∃ n, n = ps.length := ⟨_, rfl⟩
  have HOK := Lib.hid (show LOk n l n2 ps by rw [hn, hn2]; exact HRO.out.ok)
  have HLP := Lib.hid (fun (W : World) (q : RdOk W base (.slice A n c) (.slice A2 n2 c2) l ps) => show LP W A n l A2 n2 ps by
    obtain ⟨A', c', A2', c2', e1, e2, h, _⟩ := q.lp
    rw [← hn] at e1 h
    rw [← hn2] at e2 h
    cases e1
    cases e2
    exact h)
  rw [← hn, ← hn2] at HRO
  rw [← hn, ← hn2]
  clear hn hn2
  have hc22 : w4.cell? ⟨w3.heap.size, 0, none⟩ = some (.string i) := by rw [cell_of_row _ _ _ _ _ _ HF20.out]; rfl
  have hc23 : w4.cell? ⟨w3.heap.size, 1, none⟩ = some (.string f) := by rw [cell_of_row _ _ _ _ _ _ HF20.out]; rfl
  have hc24 : w4.cell? ⟨w3.heap.size, 2, none⟩ = some (.string g) := by rw [cell_of_row _ _ _ _ _ _ HF20.out]; rfl
  have hc25 : w4.cell? ⟨w3.heap.size, 3, none⟩ = some (.slice none 0 0) := by rw [cell_of_row _ _ _ _ _ _ HF20.out]; rfl
  have hc26 : w4.cell? ⟨w3.heap.size, 4, none⟩ = some (.slice none 0 0) := by rw [cell_of_row _ _ _ _ _ _ HF20.out]; rfl
  have hz27 : w4.frozen? ⟨w3.heap.size, 3, none⟩ = false := frozen_of_row _ _ _ _ _ HF20.out
  have hz28 : w4.frozen? ⟨w3.heap.size, 4, none⟩ = false := frozen_of_row _ _ _ _ _ HF20.out
  go_upto_region 4 with (fail)
  clear hc22 hc23 hc24 hc25 hc26 hz27 hz28
  have HF29 := Lib.hid (show (w4.setCell ⟨w3.heap.size, 3, none⟩ (.slice A n c)).heap[w.heap.size]? = some (.cells #[.string ⟨#[]⟩, .string ⟨#[]⟩, .string ⟨#[]⟩, .slice none 0 0, .slice none 0 0] 85 (0, 0)) by rw [Below.heap_setCell _ _ _ _ (by show w.heap.size ≠ w3.heap.size; omega)]; exact HF19.out)
  have HF30 := Lib.hid (show (w4.setCell ⟨w3.heap.size, 3, none⟩ (.slice A n c)).heap[w3.heap.size]? = some (.cells #[.string i, .string f, .string g, .slice A n c, .slice none 0 0] 85 (0, 0)) by have h := heap_setCell_at (i := 3) (u := .slice A n c) HF20.out; exact h)
  have HB31 := Lib.hid (HB21.out.setCell (p := ⟨w3.heap.size, 3, none⟩) (by show w.heap.size ≤ w3.heap.size; omega) (.slice A n c))
  have HF32 := Lib.hid (show ((w4.setCell ⟨w3.heap.size, 3, none⟩ (.slice A n c)).setCell ⟨w3.heap.size, 4, none⟩ (.slice A2 n2 c2)).heap[w.heap.size]? = some (.cells #[.string ⟨#[]⟩, .string ⟨#[]⟩, .string ⟨#[]⟩, .slice none 0 0, .slice none 0 0] 85 (0, 0)) by rw [Below.heap_setCell _ _ _ _ (by show w.heap.size ≠ w3.heap.size; omega)]; exact HF29.out)
  have HF33 := Lib.hid (show ((w4.setCell ⟨w3.heap.size, 3, none⟩ (.slice A n c)).setCell ⟨w3.heap.size, 4, none⟩ (.slice A2 n2 c2)).heap[w3.heap.size]? = some (.cells #[.string i, .string f, .string g, .slice A n c, .slice A2 n2 c2] 85 (0, 0)) by have h := heap_setCell_at (i := 4) (u := .slice A2 n2 c2) HF30.out; exact h)
  have HB34 := Lib.hid (HB31.out.setCell (p := ⟨w3.heap.size, 4, none⟩) (by show w.heap.size ≤ w3.heap.size; omega) (.slice A2 n2 c2))
  have HRO2 := Lib.hid ((HRO.out.set (b := w3.heap.size) (by omega) 3 (.slice A n c)).set (b := w3.heap.size) (by omega) 4 (.slice A2 n2 c2))
  obtain ⟨wk, hwk⟩ : ∃ x, x = ((w4.setCell ⟨w3.heap.size, 3, none⟩ (.slice A n c)).setCell ⟨w3.heap.size, 4, none⟩ (.slice A2 n2 c2)) := ⟨_, rfl⟩
  rw [← hwk] at HF32 HF33 HB34 HRO2
  rw [← hwk]
  clear hwk HRO
  have HRO := HRO2
  clear HRO2
  have hsl : ∀ f' g' ss' ps', IsE i S f' g' ss' ps' → f' = f ∧ g' = g ∧ ss' = l ∧ ps' = ps := fun f' g' ss' ps' h => by
    obtain ⟨k1, k2, _⟩ := HFR.out f' g' ss' ps' h
    obtain ⟨k3, k4⟩ := HD.out ss' ps' ⟨f', g', h⟩
    exact ⟨k1.symm, k2.symm, k3.symm, k4.symm⟩
  have HUN := Lib.hid hsl
  clear hsl
  by_cases hz : edW i f g l ps = 0
  · obtain ⟨T, hT⟩ : ∃ T, T = (tS f ++ tS g) ++ ptS l ps := ⟨_, rfl⟩
    have HPN := Lib.hid (fun (W : World) (q : LP W A n l A2 n2 ps) => pedge_yes i f g A A2 n c n2 c2 l ps W q HOK.out hi hf hg hz HRO.out.i)
    rw [← hT] at HPN
    by_cases hs : T = S
    · have HIS := Lib.hid (show IsE i S f g l ps from ⟨hz, HRO.out.i, by rw [← hT, hs]⟩)
      have hqe : (T.toList == S.toList) = true := by rw [hs]; simp
      have hqn : (T.toList != S.toList) = false := by rw [hs]; simp
      clear hz hT hs
      have hc35 : wk.cell? ⟨w3.heap.size, 0, none⟩ = some (.string i) := by rw [cell_of_row _ _ _ _ _ _ HF33.out]; rfl
      have hc36 : wk.cell? ⟨w3.heap.size, 1, none⟩ = some (.string f) := by rw [cell_of_row _ _ _ _ _ _ HF33.out]; rfl
      have hc37 : wk.cell? ⟨w3.heap.size, 2, none⟩ = some (.string g) := by rw [cell_of_row _ _ _ _ _ _ HF33.out]; rfl
      have hc38 : wk.cell? ⟨w3.heap.size, 3, none⟩ = some (.slice A n c) := by rw [cell_of_row _ _ _ _ _ _ HF33.out]; rfl
      have hc39 : wk.cell? ⟨w3.heap.size, 4, none⟩ = some (.slice A2 n2 c2) := by rw [cell_of_row _ _ _ _ _ _ HF33.out]; rfl
      go_wp2_with fail
      clear hc35 hc36 hc37 hc38 hc39
      refine (HPN.out wk (HLP.out _ HRO.out)).mono ?_
      rintro e w5 ⟨rfl, hb5⟩
      have HF40 := Lib.hid (blk_below HF32.out hb5)
      have HF41 := Lib.hid (blk_below HF33.out hb5)
      have HB42 := Lib.hid (HB34.out.trans (hb5.mono HB34.out.size))
      have HRO3 := Lib.hid (HRO.out.kept hb5)
      clear hb5 HB34 HF32 HF33
      have hk43 : w.heap.size < w5.heap.size := lt_of_block HF40.out
      have hk44 : w3.heap.size < w5.heap.size := lt_of_block HF41.out
      have hc45 : w5.cell? ⟨w3.heap.size, 0, none⟩ = some (.string i) := by rw [cell_of_row _ _ _ _ _ _ HF41.out]; rfl
      have hc46 : w5.cell? ⟨w3.heap.size, 1, none⟩ = some (.string f) := by rw [cell_of_row _ _ _ _ _ _ HF41.out]; rfl
      have hc47 : w5.cell? ⟨w3.heap.size, 2, none⟩ = some (.string g) := by rw [cell_of_row _ _ _ _ _ _ HF41.out]; rfl
      have hc48 : w5.cell? ⟨w3.heap.size, 3, none⟩ = some (.slice A n c) := by rw [cell_of_row _ _ _ _ _ _ HF41.out]; rfl
      have hc49 : w5.cell? ⟨w3.heap.size, 4, none⟩ = some (.slice A2 n2 c2) := by rw [cell_of_row _ _ _ _ _ _ HF41.out]; rfl
      go_wp2_with (first
        | refine wpList_store_rowY rfl 85 (.tmp 4) (.tmp 38) rfl (w.heap.size) #[.string i, .string f, .string g, .slice A n c, .slice A2 n2 c2] rfl rfl 85 _ HF40.out (info_ed _ _ _ _ _) rfl (one_ed _ _ _ _ _ _ _ _ _) w.heap.size w HB42.out (by omega) ?_)
      intro W6 hbk hoth hbel _
      clear hc45 hc46 hc47 hc48 hc49
      have HF50 := Lib.hid hbk.out
      have HF51 := Lib.hid (blk_oth HF41.out hoth.out (by omega))
      have HB52 := Lib.hid hbel.out
      have HRO4 := Lib.hid (HRO3.out.hoth hoth.out (by omega))
      clear hbk hoth hbel HB42  HF40 HF41
      go_wp2_with fail
      refine bodyPost_ret (results_ctY rfl _ _ (w.heap.size) #[.string i, .string f, .string g, .slice A n c, .slice A2 n2 c2] rfl (run_loadVar_row _ (w.heap.size) 85 85 _ (0, 0) _ HF50.out Try.underlying85 rfl (info_ed _ _ _ _ _))) rfl ?_
      exact Or.inl ⟨f, g, l, ps, _, _, HIS.out, HUN.out, rfl, HRO4.out.mono (by omega), HB52.out⟩
    · have HNO := Lib.hid (show ∀ f0 g0 ss0 ps0, ¬ IsE i S f0 g0 ss0 ps0 from fun f0 g0 ss0 ps0 h0 => by
        obtain ⟨rfl, rfl, rfl, rfl⟩ := HUN.out f0 g0 ss0 ps0 h0
        exact hs (by rw [hT]; exact h0.2.2))
      have hqe := ba_neA hs
      have hqn : (T.toList != S.toList) = true := by rw [bne, hqe]; rfl
      clear hz hT hs
      have hc35 : wk.cell? ⟨w3.heap.size, 0, none⟩ = some (.string i) := by rw [cell_of_row _ _ _ _ _ _ HF33.out]; rfl
      have hc36 : wk.cell? ⟨w3.heap.size, 1, none⟩ = some (.string f) := by rw [cell_of_row _ _ _ _ _ _ HF33.out]; rfl
      have hc37 : wk.cell? ⟨w3.heap.size, 2, none⟩ = some (.string g) := by rw [cell_of_row _ _ _ _ _ _ HF33.out]; rfl
      have hc38 : wk.cell? ⟨w3.heap.size, 3, none⟩ = some (.slice A n c) := by rw [cell_of_row _ _ _ _ _ _ HF33.out]; rfl
      have hc39 : wk.cell? ⟨w3.heap.size, 4, none⟩ = some (.slice A2 n2 c2) := by rw [cell_of_row _ _ _ _ _ _ HF33.out]; rfl
      go_wp2_with fail
      clear hc35 hc36 hc37 hc38 hc39
      refine (HPN.out wk (HLP.out _ HRO.out)).mono ?_
      rintro e w5 ⟨rfl, hb5⟩
      have HF40 := Lib.hid (blk_below HF32.out hb5)
      have HF41 := Lib.hid (blk_below HF33.out hb5)
      have HB42 := Lib.hid (HB34.out.trans (hb5.mono HB34.out.size))
      have HRO3 := Lib.hid (HRO.out.kept hb5)
      clear hb5 HB34 HF32 HF33
      have hk43 : w.heap.size < w5.heap.size := lt_of_block HF40.out
      have hk44 : w3.heap.size < w5.heap.size := lt_of_block HF41.out
      have hc45 : w5.cell? ⟨w3.heap.size, 0, none⟩ = some (.string i) := by rw [cell_of_row _ _ _ _ _ _ HF41.out]; rfl
      have hc46 : w5.cell? ⟨w3.heap.size, 1, none⟩ = some (.string f) := by rw [cell_of_row _ _ _ _ _ _ HF41.out]; rfl
      have hc47 : w5.cell? ⟨w3.heap.size, 2, none⟩ = some (.string g) := by rw [cell_of_row _ _ _ _ _ _ HF41.out]; rfl
      have hc48 : w5.cell? ⟨w3.heap.size, 3, none⟩ = some (.slice A n c) := by rw [cell_of_row _ _ _ _ _ _ HF41.out]; rfl
      have hc49 : w5.cell? ⟨w3.heap.size, 4, none⟩ = some (.slice A2 n2 c2) := by rw [cell_of_row _ _ _ _ _ _ HF41.out]; rfl
      go_wp2_with (first
        | refine wpList_store_rowY rfl 85 (.tmp 4) (.tmp 37) rfl (w.heap.size) #[.string ⟨#[]⟩, .string ⟨#[]⟩, .string ⟨#[]⟩, .slice none 0 0, .slice none 0 0] rfl rfl 85 _ HF40.out (info_ed _ _ _ _ _) rfl (one_ed _ _ _ _ _ _ _ _ _) w.heap.size w HB42.out (by omega) ?_)
      intro W6 hbk hoth hbel _
      clear hc45 hc46 hc47 hc48 hc49
      have HF50 := Lib.hid hbk.out
      have HF51 := Lib.hid (blk_oth HF41.out hoth.out (by omega))
      have HB52 := Lib.hid hbel.out
      clear hbk hoth hbel HB42  HF40 HF41
      go_wp2_with fail
      refine bodyPost_ret (results_ctY rfl _ _ (w.heap.size) #[.string ⟨#[]⟩, .string ⟨#[]⟩, .string ⟨#[]⟩, .slice none 0 0, .slice none 0 0] rfl (run_loadVar_row _ (w.heap.size) 85 85 _ (0, 0) _ HF50.out Try.underlying85 rfl (info_ed _ _ _ _ _))) rfl ?_
      exact Or.inr ⟨HNO.out, rfl, HB52.out⟩
  · have HNO := Lib.hid (show ∀ f0 g0 ss0 ps0, ¬ IsE i S f0 g0 ss0 ps0 from fun f0 g0 ss0 ps0 h0 => by
      obtain ⟨rfl, rfl, rfl, rfl⟩ := HUN.out f0 g0 ss0 ps0 h0
      exact hz h0.1)
    obtain ⟨z, hzz⟩ : ∃ z, z = edW i f g l ps := ⟨_, rfl⟩
    have HPN := Lib.hid (fun (W : World) (q : LP W A n l A2 n2 ps) => pedge_no i f g A A2 n c n2 c2 l ps W q HOK.out hi hf hg hz)
    rw [← hzz] at HPN hz
    have hz1 : (z != 0) = true := by simpa using hz
    clear hz hzz
    have hc35 : wk.cell? ⟨w3.heap.size, 0, none⟩ = some (.string i) := by rw [cell_of_row _ _ _ _ _ _ HF33.out]; rfl
    have hc36 : wk.cell? ⟨w3.heap.size, 1, none⟩ = some (.string f) := by rw [cell_of_row _ _ _ _ _ _ HF33.out]; rfl
    have hc37 : wk.cell? ⟨w3.heap.size, 2, none⟩ = some (.string g) := by rw [cell_of_row _ _ _ _ _ _ HF33.out]; rfl
    have hc38 : wk.cell? ⟨w3.heap.size, 3, none⟩ = some (.slice A n c) := by rw [cell_of_row _ _ _ _ _ _ HF33.out]; rfl
    have hc39 : wk.cell? ⟨w3.heap.size, 4, none⟩ = some (.slice A2 n2 c2) := by rw [cell_of_row _ _ _ _ _ _ HF33.out]; rfl
    go_wp2_with fail
    clear hc35 hc36 hc37 hc38 hc39
    refine (HPN.out wk (HLP.out _ HRO.out)).mono ?_
    rintro e w5 ⟨rfl, hb5⟩
    have HF40 := Lib.hid (blk_below HF32.out hb5)
    have HF41 := Lib.hid (blk_below HF33.out hb5)
    have HB42 := Lib.hid (HB34.out.trans (hb5.mono HB34.out.size))
    have HRO3 := Lib.hid (HRO.out.kept hb5)
    clear hb5 HB34 HF32 HF33
    have hk43 : w.heap.size < w5.heap.size := lt_of_block HF40.out
    have hk44 : w3.heap.size < w5.heap.size := lt_of_block HF41.out
    have hc45 : w5.cell? ⟨w3.heap.size, 0, none⟩ = some (.string i) := by rw [cell_of_row _ _ _ _ _ _ HF41.out]; rfl
    have hc46 : w5.cell? ⟨w3.heap.size, 1, none⟩ = some (.string f) := by rw [cell_of_row _ _ _ _ _ _ HF41.out]; rfl
    have hc47 : w5.cell? ⟨w3.heap.size, 2, none⟩ = some (.string g) := by rw [cell_of_row _ _ _ _ _ _ HF41.out]; rfl
    have hc48 : w5.cell? ⟨w3.heap.size, 3, none⟩ = some (.slice A n c) := by rw [cell_of_row _ _ _ _ _ _ HF41.out]; rfl
    have hc49 : w5.cell? ⟨w3.heap.size, 4, none⟩ = some (.slice A2 n2 c2) := by rw [cell_of_row _ _ _ _ _ _ HF41.out]; rfl
    go_wp2_with (first
      | refine wpList_store_rowY rfl 85 (.tmp 4) (.tmp 37) rfl (w.heap.size) #[.string ⟨#[]⟩, .string ⟨#[]⟩, .string ⟨#[]⟩, .slice none 0 0, .slice none 0 0] rfl rfl 85 _ HF40.out (info_ed _ _ _ _ _) rfl (one_ed _ _ _ _ _ _ _ _ _) w.heap.size w HB42.out (by omega) ?_)
    intro W6 hbk hoth hbel _
    clear hc45 hc46 hc47 hc48 hc49
    have HF50 := Lib.hid hbk.out
    have HF51 := Lib.hid (blk_oth HF41.out hoth.out (by omega))
    have HB52 := Lib.hid hbel.out
    clear hbk hoth hbel HB42  HF40 HF41
    go_wp2_with fail
    refine bodyPost_ret (results_ctY rfl _ _ (w.heap.size) #[.string ⟨#[]⟩, .string ⟨#[]⟩, .string ⟨#[]⟩, .slice none 0 0, .slice none 0 0] rfl (run_loadVar_row _ (w.heap.size) 85 85 _ (0, 0) _ HF50.out Try.underlying85 rfl (info_ed _ _ _ _ _))) rfl ?_
    exact Or.inr ⟨HNO.out, rfl, HB52.out⟩
end Go.Proofs.Ytbjngbacnkmjhaa
