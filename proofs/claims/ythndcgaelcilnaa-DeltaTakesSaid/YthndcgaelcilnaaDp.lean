/- delta.addOwn and delta.Pieces over this translation: the pieces that a text is of a base. Conditions: texts of at most three thousand bytes. -/
import Derived.Test.YthndcgaelcilnaaDw
import Derived.Test.YthndcgaelcilnaaZb
import Derived.Maps.OwnOps
import Derived.Lib.QuietBelow
namespace Go.Proofs.Ythndcgaelcilnaa
open Go.RowKit Go.WideMaps Go.Maps

def addL (l : List Pc) (o : List UInt8) : List Pc := if o = [] then l else l ++ [(false, 0, (o.length : Int), ⟨o.toArray⟩)]
def AddP (l : List Pc) (B : Nat) (w : World) (e : Ending) (w' : World) : Prop := ∃ v', e = .returned v' ∧ OwX pcC 4 26 w' B v' l ∧ Below B w w' ∧ B ≤ w'.heap.size
set_option maxRecDepth 100000 in
set_option maxHeartbeats 1600000 in
theorem addOwn_any (v : Value) (l : List Pc) (o : ByteArray) (B : Nat) (w : World) (h : OwX pcC 4 26 w B v l) (hB : B ≤ w.heap.size) (hl : l.length ≤ 900000) (ho : o.size ≤ 3000) :
    Calls Try.prog 130 #[v, .string o] w (AddP (addL l o.data.toList) B w) := by
  have hol : o.data.toList.length = o.size := by simp
  have H := Lib.hid h
  clear h
  by_cases h0 : o.size = 0
  · have hn : o.data.toList = [] := List.eq_nil_of_length_eq_zero (by omega)
    have hq : o.toList.isEmpty = true := by rw [Lib.toList_data, hn]; rfl
    have HA := Lib.hid (show addL l o.data.toList = l by unfold addL; rw [if_pos hn])
    clear hol hn
    go_enter Try.func130, Try.ntmps130
    go_wp2_with fail
    go_ret
    exact ⟨v, rfl, by rw [HA.out]; exact H.out, Below.refl _ _, hB⟩
  · have hn : o.data.toList ≠ [] := fun e => h0 (by rw [← hol, e]; rfl)
    have hq : o.toList.isEmpty = false := by rw [Lib.toList_data, List.isEmpty_eq_false_iff]; exact hn
    have HA := Lib.hid (show addL l o.data.toList = l ++ [(false, 0, (o.size : Int), o)] by unfold addL; rw [if_neg hn, hol])
    have hoi : (o.size : Int) ≤ 3000 := by omega
    have HBR := Lib.hid (Below.refl B w)
    clear hol hn h0
    go_enter Try.func130, Try.ntmps130
    go_wp2_with (at_builtin; refine wpList_appX rfl (.tmp 8) (.tmp 13) 22 26 _ 40 rfl Try.underlying22 info_pc rfl (by omega) (by omega) pcC_len pcC_one B w (HBR.out.alloc hB _) (by simp; omega) v l rfl (H.out.alloc _) w.heap.size 1 (false, 0, (o.size : Int), o) #[.bool false, .int .i64 0, .int .i64 (o.size : Int), .string o] 26 (0, 0) rfl (heap_alloc_new w _) rfl (by omega) ?_)
    intro v2 w2 HO2 HB2 HZ2 HG2
    go_wp2_with fail
    go_ret
    exact ⟨v2, rfl, by rw [HA.out]; exact HO2.out, HB2.out, HZ2.out⟩
/-- the pieces from a state on: own bytes from 'own' up to 'i' stand in no piece yet -/
def pcsW (B T : List UInt8) (own i : Nat) (l : List Pc) : List Pc :=
  if _h : i + 8 ≤ T.length then
    match stands B (win T i) with
    | none => pcsW B T own (i + 1) l
    | some p => pcsW B T (i + max 1 (cpl (B.drop p) (T.drop i))) (i + max 1 (cpl (B.drop p) (T.drop i))) (addL l ((T.drop own).take (i - own)) ++ [(true, (p : Int), ((cpl (B.drop p) (T.drop i) : Nat) : Int), ⟨#[]⟩)])
  else addL l (T.drop own)
termination_by T.length - i
decreasing_by all_goals omega
theorem pcsW_end (B T : List UInt8) (own i : Nat) (l : List Pc) (h : ¬ i + 8 ≤ T.length) : pcsW B T own i l = addL l (T.drop own) := by
  rw [pcsW, dif_neg h]
theorem pcsW_none (B T : List UInt8) (own i : Nat) (l : List Pc) (h : i + 8 ≤ T.length) (hs : stands B (win T i) = none) : pcsW B T own i l = pcsW B T own (i + 1) l := by
  rw [pcsW, dif_pos h, hs]
theorem fsp_some (L s : List UInt8) (p : Nat) (h8 : 8 ≤ L.length) : ∀ j, j ≤ L.length - 7 → fsp L s j = some p → win L p = s ∧ p + 8 ≤ L.length
  | 0, _, h => by cases h
  | j + 1, hj, h => by
    unfold fsp at h
    split at h
    · rename_i hw
      injection h with h
      subst h
      exact ⟨hw, by omega⟩
    · exact fsp_some L s p h8 j (by omega) h
theorem stands_some {B s : List UInt8} {p : Nat} (h : stands B s = some p) : win B p = s ∧ p + 8 ≤ B.length := by
  unfold stands at h
  by_cases h8 : 8 ≤ B.length
  · exact fsp_some B s p h8 _ (Nat.le_refl _) h
  · rw [show B.length - 7 = 0 by omega] at h; cases h
theorem cpl_eight {B T : List UInt8} {p i : Nat} (h : i + 8 ≤ T.length) (hs : stands B (win T i) = some p) : 8 ≤ cpl (B.drop p) (T.drop i) ∧ p + 8 ≤ B.length := by
  obtain ⟨h1, h2⟩ := stands_some hs
  exact ⟨cpl_ge 8 _ _ h1 (by rw [List.length_drop]; omega) (by rw [List.length_drop]; omega), h2⟩
theorem pcsW_some (B T : List UInt8) (own i p n : Nat) (l : List Pc) (h : i + 8 ≤ T.length) (hs : stands B (win T i) = some p) (hn : n = cpl (B.drop p) (T.drop i)) :
    pcsW B T own i l = pcsW B T (i + n) (i + n) (addL l ((T.drop own).take (i - own)) ++ [(true, (p : Int), (n : Int), ⟨#[]⟩)]) := by
  have h8 := (cpl_eight h hs).1
  rw [pcsW, dif_pos h, hs]
  dsimp only
  rw [← hn] at h8 ⊢
  rw [show max 1 n = n by omega]
theorem addL_len (l : List Pc) (o : List UInt8) : (addL l o).length ≤ l.length + 1 := by unfold addL; split <;> simp
theorem ownsMap_below {H : Type} {P : Program} {k : TypeId} {R : Value → Option (DataW H × List MemPlace)} {b n : Nat} {D : DataW H} {w w' : World} {B : Nat} (h : w.ownsMap P k R b n D) (hb : Below B w w') (hB : b < B) : w'.ownsMap P k R b n D := by
  obtain ⟨es, clock, h1, h2, h3, h4⟩ := h
  exact ⟨es, clock, (hb.block b hB).trans h1, h2, h3, h4⟩
set_option maxRecDepth 100000 in
set_option maxHeartbeats 4000000 in
theorem pieces_any (B T : ByteArray) (w : World) (hB : B.size ≤ 3000) (hT : T.size ≤ 3000) :
    Calls Try.prog 81 #[.string B, .string T] w (AddP (pcsW B.data.toList T.data.toList 0 0 []) w.heap.size w) := by
  have hbl : B.data.toList.length = B.size := by simp
  have htl : T.data.toList.length = T.size := by simp
  have HBL := Lib.hid hbl
  have HTL := Lib.hid htl
  clear hbl htl
  have hti : (T.size : Int) ≤ 3000 := by omega
  have hbi : (B.size : Int) ≤ 3000 := by omega
  go_enter Try.func81, Try.ntmps81
  go_wp2_with fail
  refine (firsts_any B w hB).mono ?_
  rintro e w1 ⟨rfl, ⟨n0, hn0, hown0⟩, hb1⟩
  obtain ⟨D, hD⟩ : ∃ D, D = dmp B.data.toList (B.data.toList.length - 7) := ⟨_, rfl⟩
  rw [← hD] at hown0
  have HDD := Lib.hid hD
  clear hD
  have HO0 := Lib.hid hown0
  have HB0 := Lib.hid hb1
  have hlt0 := hown0.lt
  clear hown0 hb1
  go_wp2_with fail
  go_loopw [6, 7, 8] (fun v ow i wr => ∃ (l : List Pc) (o k : Nat), ow = .int .i64 (o : Int) ∧ i = .int .i64 (k : Int) ∧ o ≤ k ∧ k ≤ T.size ∧ l.length ≤ 2 * k ∧ OwX pcC 4 26 wr (w.heap.size + 1) v l ∧ w.heap.size + 1 ≤ wr.heap.size ∧
    wr.ownsMap Try.prog 9 (plainElem Try.prog 3) w.heap.size n0 D ∧ Below w.heap.size w wr ∧ pcsW B.data.toList T.data.toList o k l = pcsW B.data.toList T.data.toList 0 0 []) (fun _ _ i _ => T.size - (intOf i).toNat)
  case atStart => exact ⟨[], 0, 0, rfl, rfl, Nat.le_refl _, Nat.zero_le _, by simp, OwX.nil _, hlt0, HO0.out, HB0.out, rfl⟩
  case round =>
    obtain ⟨l, o, k, rfl, rfl, hok, hk, hll, hox, hsz, hmap, hbel, hsp⟩ := hrel
    have HX := Lib.hid hox
    have HM := Lib.hid hmap
    have HL := Lib.hid hbel
    have HP := Lib.hid hsp
    clear hox hmap hbel hsp
    by_cases h8 : k + 8 ≤ T.size
    · obtain ⟨X, hX⟩ : ∃ X, X = T.extract k (k + 8) := ⟨_, rfl⟩
      have hsl := run_win T k h8 X hX (k : Int) ((k : Int) + 8) rfl rfl
      have hXs : X.size ≤ maxLen := by rw [hX, ByteArray.size_extract]; unfold maxLen; omega
      have HWIN := Lib.hid (win_of T X k hX)
      have HW := Lib.hid (show T.data.toList.length = T.size from HTL.out)
      have hk8 : decide ((k : Int) + 8 ≤ (T.size : Int)) = true := decide_eq_true (by omega)
      clear hX
      cases hst : stands B.data.toList (win T.data.toList k) with
      | none =>
        have hhas : Maps.has D (.string X.data.toList) = false := by
          rw [HDD.out, dmp_has, HWIN.out]
          unfold stands at hst
          rw [hst]; rfl
        have HP2 := Lib.hid ((pcsW_none _ _ _ _ l (by rw [HW.out]; exact h8) hst).symm.trans HP.out)
        clear hst
        go_wp2_with (at_lookup; refine wpList_lookup_own_ok_int _ rfl _ _ 191 rfl 9 3 .i64 lawS Try.underlying191 Try.underlying3 (zeroI _) w.heap.size n0 _ rfl HM.out _ _ rfl (keyOf_string_mk Try.underlying9 hXs) ?_)
        intro c _ _
        go_wp2_with fail
        go_roundw
        case rel => exact ⟨l, o, k + 1, rfl, by go_num, by omega, by omega, by omega, HX.out, hsz, HM.out, HL.out, HP2.out⟩
        case measure => simp [intOf] <;> omega
      | some p =>
        have hhas : Maps.has D (.string X.data.toList) = true := by
          rw [HDD.out, dmp_has, HWIN.out]
          unfold stands at hst
          rw [hst]; rfl
        have HAT := Lib.hid (show ∀ z, D.atKey (.string X.data.toList) z = .lit (.int .i64 (p : Int)) by
          intro z
          rw [HDD.out, HWIN.out]
          exact dmp_at _ _ p z _ hst)
        obtain ⟨n, hn⟩ : ∃ n, n = cpl (B.data.toList.drop p) (T.data.toList.drop k) := ⟨_, rfl⟩
        have h8c := cpl_eight (by rw [HW.out]; exact h8) hst
        rw [HBL.out, ← hn] at h8c
        obtain ⟨hn8, hp8⟩ := h8c
        have hnk : k + n ≤ T.size := by
          have := (cpl_le (B.data.toList.drop p) (T.data.toList.drop k)).2
          rw [List.length_drop, HTL.out, ← hn] at this
          omega
        have hpi : (p : Int) ≤ 3000 := by omega
        obtain ⟨X1, hX1⟩ : ∃ X1, X1 = B.extract p B.size := ⟨_, rfl⟩
        obtain ⟨X2, hX2⟩ : ∃ X2, X2 = T.extract k T.size := ⟨_, rfl⟩
        obtain ⟨X3, hX3⟩ : ∃ X3, X3 = T.extract o k := ⟨_, rfl⟩
        have hs1 := run_from B p (by omega) X1 hX1
        have hs2 := run_from T k hk X2 hX2
        have hs3 := run_mid T o k hok hk X3 hX3
        have HAL := Lib.hid (fun W : World => alike_any X1 X2 W (by rw [hX1, ByteArray.size_extract]; omega) (by rw [hX2, ByteArray.size_extract]; omega))
        rw [from_list B X1 p hX1, from_list T X2 k hX2, ← hn] at HAL
        have h3s : X3.size ≤ 3000 := by rw [hX3, ByteArray.size_extract]; omega
        have HP2 := Lib.hid ((pcsW_some _ _ _ _ p n l (by rw [HW.out]; exact h8) hst hn).symm.trans HP.out)
        rw [← mid_list T X3 o k hX3] at HP2
        have hni : (n : Int) ≤ 3000 := by omega
        have hkn : (k : Int) + (n : Int) ≤ 3000 := by omega
        clear hst hX1 hX2 hX3 hn
        go_wp2_with (at_lookup; refine wpList_lookup_own_ok_int _ rfl _ _ 191 rfl 9 3 .i64 lawS Try.underlying191 Try.underlying3 (zeroI _) w.heap.size n0 _ rfl HM.out _ _ rfl (keyOf_string_mk Try.underlying9 hXs) ?_)
        intro c hat _
        rw [HAT.out] at hat
        injection hat with hat
        injection hat with _ hat
        subst hat
        go_wp2_with fail
        refine wp_region_quiet_below (by kernel_rfl) (by kernel_rfl) ?_
        repeat (any_goals (first | go_big_quiet_step ((go_at_call 129; exact Calls.regrown_of (HAL.out _))) | quiet_step ((go_at_call 129; exact Calls.regrown_of (HAL.out _)))))
        refine wpQuiet_nil ?_
        intro w2 hw2
        have hb2 := below_anyY hw2
        clear hw2
        have HX2 := Lib.hid (HX.out.kept hb2)
        have HM2 := Lib.hid (ownsMap_below HM.out hb2 (by omega))
        have HL2 := Lib.hid (HL.out.trans (hb2.mono (by omega)))
        have hz2 := hb2.size
        clear hb2
        go_wp2_with fail
        refine (addOwn_any _ l X3 (w.heap.size + 1) w2 HX2.out (by omega) (by omega) h3s).mono ?_
        rintro e w3 ⟨v3, rfl, hx3, hb3, hz3⟩
        have HX3 := Lib.hid hx3
        have HM3 := Lib.hid (ownsMap_below HM2.out hb3 (by omega))
        have HL3 := Lib.hid (HL2.out.trans (hb3.mono (by omega)))
        have HR3 := Lib.hid (Below.refl (w.heap.size + 1) w3)
        have hal := addL_len l X3.data.toList
        clear hx3 hb3
        go_wp2_with (at_builtin; refine wpList_appX rfl (.tmp 45) (.tmp 49) 22 26 _ 40 rfl Try.underlying22 info_pc rfl (by omega) (by omega) pcC_len pcC_one (w.heap.size + 1) w3 (HR3.out.alloc hz3 _) (by simp; omega) v3 (addL l X3.data.toList) rfl (HX3.out.alloc _) w3.heap.size 1 (true, (p : Int), (n : Int), ⟨#[]⟩) #[.bool true, .int .i64 (p : Int), .int .i64 (n : Int), .string ⟨#[]⟩] 26 (0, 0) rfl (heap_alloc_new w3 _) rfl (by omega) ?_)
        intro v4 w4 HO4 HB4 HZ4 HG4
        have HM4 := Lib.hid (ownsMap_below HM3.out HB4.out (by omega))
        have HL4 := Lib.hid (HL3.out.trans (HB4.out.mono (by omega)))
        go_wp2_with fail
        go_roundw
        case rel => exact ⟨_, k + n, k + n, by go_num, by go_num, Nat.le_refl _, hnk, by rw [List.length_append]; simp; omega, HO4.out, HZ4.out, HM4.out, HL4.out, HP2.out⟩
        case measure => simp [intOf] <;> omega
    · obtain ⟨X4, hX4⟩ : ∃ X4, X4 = T.extract o T.size := ⟨_, rfl⟩
      have hs4 := run_from T o (by omega) X4 hX4
      have h4s : X4.size ≤ 3000 := by rw [hX4, ByteArray.size_extract]; omega
      have HE := Lib.hid ((pcsW_end _ _ _ _ l (by rw [HTL.out]; exact h8)).symm.trans HP.out)
      rw [← from_list T X4 o hX4] at HE
      have hk8 : decide ((k : Int) + 8 ≤ (T.size : Int)) = false := decide_eq_false (by omega)
      clear hX4
      go_wp2_with fail
      refine (addOwn_any _ l X4 (w.heap.size + 1) wr HX.out hsz (by omega) h4s).mono ?_
      rintro e w3 ⟨v3, rfl, hx3, hb3, hz3⟩
      have HX3 := Lib.hid (hx3.mono (Nat.le_succ w.heap.size))
      have HL3 := Lib.hid (HL.out.trans (hb3.mono (by omega)))
      clear hx3 hb3
      go_wp2_with fail
      go_ret
      exact ⟨v3, rfl, by rw [← HE.out]; exact HX3.out, HL3.out, by omega⟩
end Go.Proofs.Ythndcgaelcilnaa
