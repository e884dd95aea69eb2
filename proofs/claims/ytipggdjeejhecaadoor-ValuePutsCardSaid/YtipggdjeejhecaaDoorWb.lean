/- The contracts of value's mayStand, isPlain, Compare, of cmp's Compare and Or, and of the document's Less, over this translation. No condition. -/
import Derived.Test.YtipggdjeejhecaaDoorWa
import Derived.Test.YtipggdjeejhecaaDoorWo
import Derived.StillTailTactics
import Derived.Deep.DeepCutAuto
namespace Go.Proofs.YtipggdjeejhecaaDoor
open Go.RowKit Vi Hm

/-- is it a letter, a digit, -, . or _? -/
def mayB (c : UInt8) : Bool := (decide (97 ≤ c.toNat) && decide (c.toNat ≤ 122)) || (decide (65 ≤ c.toNat) && decide (c.toNat ≤ 90)) || (decide (48 ≤ c.toNat) && decide (c.toNat ≤ 57)) || decide (c.toNat = 45) || decide (c.toNat = 46) || decide (c.toNat = 95)
theorem retB {a b : Bool} (h : a = b) : Ending.returned (.bool a) = .returned (.bool b) := by rw [h]
set_option maxRecDepth 100000 in
set_option maxHeartbeats 800000 in
theorem mayB_any (c : UInt8) (w : World) : Calls Tryd.prog 105 #[.int .u8 (c.toNat : Int)] w fun e w' => e = .returned (.bool (mayB c)) ∧ w = w' := by
  have hb := c.toNat_lt
  have HV := Lib.hid (show mayB c = ((decide (97 ≤ c.toNat) && decide (c.toNat ≤ 122)) || (decide (65 ≤ c.toNat) && decide (c.toNat ≤ 90)) || (decide (48 ≤ c.toNat) && decide (c.toNat ≤ 57)) || decide (c.toNat = 45) || decide (c.toNat = 46) || decide (c.toNat = 95)) from rfl)
  generalize c.toNat = n at *
  by_cases e1 : n = 45
  · subst e1
    go_enter Tryd.func105, Tryd.ntmps105
    go_wp2
    go_ret
    exact ⟨retB (by rw [HV.out]; rfl), rfl⟩
  · by_cases e2 : n = 46
    · subst e2
      go_enter Tryd.func105, Tryd.ntmps105
      go_wp2
      go_ret
      exact ⟨retB (by rw [HV.out]; rfl), rfl⟩
    · have b1 : ((n : Int) == 45) = false := by rw [beq_eq_false_iff_ne]; omega
      have b2 : ((n : Int) == 46) = false := by rw [beq_eq_false_iff_ne]; omega
      by_cases a1 : 97 ≤ (n : Int) <;> by_cases a2 : (n : Int) ≤ 122 <;> by_cases a3 : 65 ≤ (n : Int) <;> by_cases a4 : (n : Int) ≤ 90 <;> by_cases a5 : 48 ≤ (n : Int) <;> by_cases a6 : (n : Int) ≤ 57 <;> by_cases a7 : n = 95
      all_goals first
        | (exfalso; omega)
        | (subst a7
           go_enter Tryd.func105, Tryd.ntmps105
           go_wp2
           go_ret
           exact ⟨retB (by rw [HV.out]; rfl), rfl⟩)
        | (have b3 : ((n : Int) == 95) = false := by rw [beq_eq_false_iff_ne]; omega
           go_enter Tryd.func105, Tryd.ntmps105
           go_wp2
           go_ret
           exact ⟨retB (by rw [HV.out]; simp; omega), rfl⟩)
def plainB (l : List UInt8) : Bool := l.all mayB
set_option maxRecDepth 100000 in
set_option maxHeartbeats 800000 in
theorem plain_any (s : ByteArray) (w : World) (hs : s.size ≤ 1000000) : Calls Tryd.prog 62 #[.string s] w fun e w' => e = .returned (.bool (plainB s.data.toList)) ∧ w = w' := by
  go_enter Tryd.func62, Tryd.ntmps62
  go_wp2_with fail
  go_loop [6] (fun i => ∃ k : Nat, k ≤ s.size ∧ i = .int .i64 (k : Int) ∧ Hid (plainB s.data.toList = plainB (s.data.toList.drop k))) (fun i => s.size - (intOf i).toNat)
  case atStart => exact ⟨0, Nat.zero_le _, rfl, rfl⟩
  case round =>
    obtain ⟨k, hk, rfl, HP⟩ := hrel
    by_cases hlt : k < s.size
    · have HD := Lib.hid (show plainB (s.data.toList.drop k) = (mayB s[k] && plainB (s.data.toList.drop (k + 1))) by
        rw [← List.getElem_cons_drop (show k < s.data.toList.length by simpa using hlt)]
        rfl)
      have HM := Lib.hid (mayB_any s[k])
      cases hm : mayB s[k] with
      | true =>
        have HP2 := Lib.hid (show plainB s.data.toList = plainB (s.data.toList.drop (k + 1)) by rw [HP.out, HD.out, hm]; rfl)
        rw [hm] at HM
        clear hm HD HP
        go_wp2_with fail
        refine (HM.out _).mono ?_
        rintro e w1 ⟨rfl, rfl⟩
        go_wp2_with fail
        go_round
        case rel => exact ⟨k + 1, by omega, by go_num, HP2.out⟩
        case measure => simp [intOf]; omega
      | false =>
        have HP2 := Lib.hid (show false = plainB s.data.toList by rw [HP.out, HD.out, hm]; rfl)
        rw [hm] at HM
        clear hm HD HP
        go_wp2_with fail
        refine (HM.out _).mono ?_
        rintro e w1 ⟨rfl, rfl⟩
        go_wp2_with fail
        go_ret
        exact ⟨retB HP2.out, rfl⟩
    · have HP2 := Lib.hid (show true = plainB s.data.toList by rw [HP.out, List.drop_of_length_le (by simp; omega)]; rfl)
      clear HP
      go_wp2_with fail
      go_ret
      exact ⟨retB HP2.out, rfl⟩
/-- which of two numbers, of two texts, stands first -/
def cmpI (a b : Int) : Int := if a < b then -1 else if b < a then 1 else 0
def cmpS (s t : ByteArray) : Int := if Op.bytesLess s.toList t.toList = true then -1 else if Op.bytesLess t.toList s.toList = true then 1 else 0
theorem retZ {a b : Int} (h : a = b) : Ending.returned (.int .i64 a) = .returned (.int .i64 b) := by rw [h]
theorem cmpI_any (a b : Int) (w : World) : Calls Tryd.prog 77 #[.int .i64 a, .int .i64 b] w fun e w' => e = .returned (.int .i64 (cmpI a b)) ∧ w = w' := by
  by_cases h1 : a < b
  · have HR := Lib.hid (show -1 = cmpI a b by unfold cmpI; rw [if_pos h1])
    have HN := Lib.hid (fun (x : Int) (W : World) => (show Calls Tryd.prog 116 #[.int .i64 x] W fun e w' => e = .returned (.bool false) ∧ W = w' by
      go_enter Tryd.func116, Tryd.ntmps116
      go_wp2
      go_ret
      exact ⟨rfl, rfl⟩))
    go_enter Tryd.func77, Tryd.ntmps77
    go_wp2_with fail
    refine (HN.out a _).mono ?_
    rintro e w1 ⟨rfl, rfl⟩
    go_wp2_with fail
    refine (HN.out b _).mono ?_
    rintro e w1 ⟨rfl, rfl⟩
    go_wp2_with fail
    go_ret
    exact ⟨retZ HR.out, rfl⟩
  · by_cases h2 : b < a
    · have HR := Lib.hid (show 1 = cmpI a b by unfold cmpI; rw [if_neg h1, if_pos h2])
      have HN := Lib.hid (fun (x : Int) (W : World) => (show Calls Tryd.prog 116 #[.int .i64 x] W fun e w' => e = .returned (.bool false) ∧ W = w' by
        go_enter Tryd.func116, Tryd.ntmps116
        go_wp2
        go_ret
        exact ⟨rfl, rfl⟩))
      go_enter Tryd.func77, Tryd.ntmps77
      go_wp2_with fail
      refine (HN.out a _).mono ?_
      rintro e w1 ⟨rfl, rfl⟩
      go_wp2_with fail
      refine (HN.out b _).mono ?_
      rintro e w1 ⟨rfl, rfl⟩
      go_wp2_with fail
      go_ret
      exact ⟨retZ HR.out, rfl⟩
    · have HR := Lib.hid (show 0 = cmpI a b by unfold cmpI; rw [if_neg h1, if_neg h2])
      have HN := Lib.hid (fun (x : Int) (W : World) => (show Calls Tryd.prog 116 #[.int .i64 x] W fun e w' => e = .returned (.bool false) ∧ W = w' by
        go_enter Tryd.func116, Tryd.ntmps116
        go_wp2
        go_ret
        exact ⟨rfl, rfl⟩))
      go_enter Tryd.func77, Tryd.ntmps77
      go_wp2_with fail
      refine (HN.out a _).mono ?_
      rintro e w1 ⟨rfl, rfl⟩
      go_wp2_with fail
      refine (HN.out b _).mono ?_
      rintro e w1 ⟨rfl, rfl⟩
      go_wp2_with fail
      go_ret
      exact ⟨retZ HR.out, rfl⟩
theorem nanW (s : ByteArray) (w : World) : Calls Tryd.prog 117 #[.string s] w fun e w' => e = .returned (.bool false) ∧ w = w' := by
  go_enter Tryd.func117, Tryd.ntmps117
  go_wp2
  go_ret
  exact ⟨rfl, rfl⟩
theorem cmpS_any (s t : ByteArray) (w : World) : Calls Tryd.prog 78 #[.string s, .string t] w fun e w' => e = .returned (.int .i64 (cmpS s t)) ∧ w = w' := by
  have HR := Lib.hid (show cmpS s t = if Op.bytesLess s.toList t.toList = true then -1 else if Op.bytesLess t.toList s.toList = true then 1 else 0 from rfl)
  cases h1 : Op.bytesLess s.toList t.toList with
  | true =>
    have HQ := Lib.hid (show -1 = cmpS s t by rw [HR.out, if_pos h1])
    clear HR
    go_enter Tryd.func78, Tryd.ntmps78
    go_wp2_with fail
    refine (nanW s _).mono ?_
    rintro e w1 ⟨rfl, rfl⟩
    go_wp2_with fail
    refine (nanW t _).mono ?_
    rintro e w1 ⟨rfl, rfl⟩
    go_wp2_with fail
    go_ret
    exact ⟨retZ HQ.out, rfl⟩
  | false =>
    cases h2 : Op.bytesLess t.toList s.toList with
    | true =>
      have HQ := Lib.hid (show 1 = cmpS s t by rw [HR.out, if_neg (by rw [h1]; simp), if_pos h2])
      have hq : (s.toList == t.toList) = false := by
        rw [beq_eq_false_iff_ne]
        intro e
        rw [e, blw_irrefl] at h2
        cases h2
      clear HR
      go_enter Tryd.func78, Tryd.ntmps78
      go_wp2_with fail
      refine (nanW s _).mono ?_
      rintro e w1 ⟨rfl, rfl⟩
      go_wp2_with fail
      refine (nanW t _).mono ?_
      rintro e w1 ⟨rfl, rfl⟩
      go_wp2_with fail
      go_ret
      exact ⟨retZ HQ.out, rfl⟩
    | false =>
      have HQ := Lib.hid (show 0 = cmpS s t by rw [HR.out, if_neg (by rw [h1]; simp), if_neg (by rw [h2]; simp)])
      have hq : (s.toList == t.toList) = true := by rw [beq_iff_eq]; exact blw_total _ _ h1 h2
      clear HR
      go_enter Tryd.func78, Tryd.ntmps78
      go_wp2_with fail
      refine (nanW s _).mono ?_
      rintro e w1 ⟨rfl, rfl⟩
      go_wp2_with fail
      refine (nanW t _).mono ?_
      rintro e w1 ⟨rfl, rfl⟩
      go_wp2_with fail
      go_ret
      exact ⟨retZ HQ.out, rfl⟩
/-- the first that is not 0 -/
def orI (a b c : Int) : Int := if a ≠ 0 then a else if b ≠ 0 then b else c
theorem or_any (g : Nat) (a b c : Int) (w : World) (ha : w.cell? ⟨g, 0, none⟩ = some (.int .i64 a)) (hb : w.cell? ⟨g, 1, none⟩ = some (.int .i64 b)) (hc : w.cell? ⟨g, 2, none⟩ = some (.int .i64 c)) :
    Calls Tryd.prog 76 #[.slice (some ⟨g, 0, none⟩) 3 3] w fun e w' => e = .returned (.int .i64 (orI a b c)) ∧ w = w' := by
  have HA := Lib.hid ha
  have HB := Lib.hid hb
  have HC := Lib.hid hc
  clear ha hb hc
  have HO := Lib.hid (show orI a b c = if a ≠ 0 then a else if b ≠ 0 then b else c from rfl)
  go_enter Tryd.func76, Tryd.ntmps76
  go_wp2_with fail
  go_loop [8] (fun i => ∃ k : Nat, k ≤ 3 ∧ i = .int .i64 (k : Int) ∧ Hid ((0 < k → a = 0) ∧ (1 < k → b = 0) ∧ (2 < k → c = 0))) (fun i => 3 - (intOf i).toNat)
  case atStart => exact ⟨0, by omega, rfl, by omega, by omega, by omega⟩
  case round =>
    obtain ⟨k, hk, rfl, HK⟩ := hrel
    rcases (show k = 0 ∨ k = 1 ∨ k = 2 ∨ k = 3 by omega) with rfl | rfl | rfl | rfl
    · have ca := HA.out
      by_cases h : a = 0
      · have q : (a == 0) = true := by rw [beq_iff_eq]; exact h
        have q2 : (a != 0) = false := by simp [h]
        have HK2 := Lib.hid (show (0 < 1 → a = 0) ∧ (1 < 1 → b = 0) ∧ (2 < 1 → c = 0) from ⟨fun _ => h, by omega, by omega⟩)
        clear h HK
        go_wp2_with fail
        go_round
        case rel => exact ⟨1, by omega, rfl, HK2.out⟩
        case measure => simp [intOf]
      · have q : (a == 0) = false := by rw [beq_eq_false_iff_ne]; exact h
        have q2 : (a != 0) = true := by simp [h]
        have HR := Lib.hid (show a = orI a b c by rw [HO.out, if_pos h])
        clear h HK
        go_wp2_with fail
        go_ret
        exact ⟨retZ HR.out, rfl⟩
    · have cb := HB.out
      by_cases h : b = 0
      · have q : (b == 0) = true := by rw [beq_iff_eq]; exact h
        have q2 : (b != 0) = false := by simp [h]
        have HK2 := Lib.hid (show (0 < 2 → a = 0) ∧ (1 < 2 → b = 0) ∧ (2 < 2 → c = 0) from ⟨fun _ => HK.out.1 (by omega), fun _ => h, by omega⟩)
        clear h HK
        go_wp2_with fail
        go_round
        case rel => exact ⟨2, by omega, rfl, HK2.out⟩
        case measure => simp [intOf]
      · have q : (b == 0) = false := by rw [beq_eq_false_iff_ne]; exact h
        have q2 : (b != 0) = true := by simp [h]
        have HR := Lib.hid (show b = orI a b c by rw [HO.out, if_neg (by simp [HK.out.1 (by omega)]), if_pos h])
        clear h HK
        go_wp2_with fail
        go_ret
        exact ⟨retZ HR.out, rfl⟩
    · have cc := HC.out
      by_cases h : c = 0
      · have q : (c == 0) = true := by rw [beq_iff_eq]; exact h
        have q2 : (c != 0) = false := by simp [h]
        have HK2 := Lib.hid (show (0 < 3 → a = 0) ∧ (1 < 3 → b = 0) ∧ (2 < 3 → c = 0) from ⟨fun _ => HK.out.1 (by omega), fun _ => HK.out.2.1 (by omega), fun _ => h⟩)
        clear h HK
        go_wp2_with fail
        go_round
        case rel => exact ⟨3, by omega, rfl, HK2.out⟩
        case measure => simp [intOf]
      · have q : (c == 0) = false := by rw [beq_eq_false_iff_ne]; exact h
        have q2 : (c != 0) = true := by simp [h]
        have HR := Lib.hid (show c = orI a b c by rw [HO.out, if_neg (by simp [HK.out.1 (by omega)]), if_neg (by simp [HK.out.2.1 (by omega)])])
        clear h HK
        go_wp2_with fail
        go_ret
        exact ⟨retZ HR.out, rfl⟩
    · have HR := Lib.hid (show 0 = orI a b c by rw [HO.out, if_neg (by simp [HK.out.1 (by omega)]), if_neg (by simp [HK.out.2.1 (by omega)]), HK.out.2.2 (by omega)])
      clear HK
      go_wp2_with fail
      go_ret
      exact ⟨retZ HR.out, rfl⟩
theorem gen_worldW {P : Program} {c : Code} {Q : Exit → Act → World → Prop} {a : Act} {W0 : World} (F : World → Prop) (h0 : F W0) (h : ∀ W, F W → Code.wp P c Q a W) : Code.wp P c Q a W0 := h _ h0
/-- two values in boxes of their own -/
structure TwoV (w : World) (k1 n1 : Int) (t1 : ByteArray) (k2 n2 : Int) (t2 : ByteArray) (W : World) : Prop where
  c0 : W.cell? ⟨w.heap.size, 0, none⟩ = some (.int .i64 k1)
  c1 : W.cell? ⟨w.heap.size, 1, none⟩ = some (.int .i64 n1)
  c2 : W.cell? ⟨w.heap.size, 2, none⟩ = some (.string t1)
  d0 : W.cell? ⟨w.heap.size + 1, 0, none⟩ = some (.int .i64 k2)
  d1 : W.cell? ⟨w.heap.size + 1, 1, none⟩ = some (.int .i64 n2)
  d2 : W.cell? ⟨w.heap.size + 1, 2, none⟩ = some (.string t2)
  old : Below w.heap.size w W
theorem twoV (w : World) (k1 n1 : Int) (t1 : ByteArray) (k2 n2 : Int) (t2 : ByteArray) : TwoV w k1 n1 t1 k2 n2 t2 ((w.alloc (.cells #[.int .i64 k1, .int .i64 n1, .string t1] 23)).alloc (.cells #[.int .i64 k2, .int .i64 n2, .string t2] 23)) :=
  ⟨by simp, by simp, by simp, by simp, by simp, by simp, ((Below.refl _ w).alloc (Nat.le_refl _) _).alloc (by simp) _⟩
/-- which of two values stands first -/
def vcmp (k1 n1 : Int) (t1 : ByteArray) (k2 n2 : Int) (t2 : ByteArray) : Int := orI (cmpI k1 k2) (cmpI n1 n2) (cmpS t1 t2)
set_option maxRecDepth 100000 in
set_option maxHeartbeats 2000000 in
theorem vcmp_any (k1 n1 : Int) (t1 : ByteArray) (k2 n2 : Int) (t2 : ByteArray) (w : World) :
    Calls Tryd.prog 29 #[.agg #[.int .i64 k1, .int .i64 n1, .string t1], .agg #[.int .i64 k2, .int .i64 n2, .string t2]] w fun e w' => e = .returned (.int .i64 (vcmp k1 n1 t1 k2 n2 t2)) ∧ Below w.heap.size w w' := by
  have HVC := Lib.hid (show orI (cmpI k1 k2) (cmpI n1 n2) (cmpS t1 t2) = vcmp k1 n1 t1 k2 n2 t2 from rfl)
  have HO := Lib.hid (fun (W : World) (g : Nat) h1 h2 h3 => or_any g (cmpI k1 k2) (cmpI n1 n2) (cmpS t1 t2) W h1 h2 h3)
  go_enter Tryd.func29, Tryd.ntmps29
  go_upto_region 1 with (fail)
  refine gen_worldW (TwoV w k1 n1 t1 k2 n2 t2) (twoV w k1 n1 t1 k2 n2 t2) ?_
  rintro W ⟨c0, c1, c2, d0, d1, d2, old⟩
  have OLD := Lib.hid old
  clear old
  refine wp_region_still_tail 15 (by kernel_rfl) (by kernel_rfl) ?_
  simp only [List.take_succ_cons, List.take_zero, List.drop_succ_cons, List.drop_zero]
  still_step
  still_step
  still_step
  still_step
  still_call (Calls.mono (cmpI_any k1 k2 _) (fun _ _ h => ⟨h.1, h.2.symm⟩))
  still_step
  still_step
  still_step
  still_step
  still_call (Calls.mono (cmpI_any n1 n2 _) (fun _ _ h => ⟨h.1, h.2.symm⟩))
  still_step
  still_step
  still_step
  still_step
  still_call (Calls.mono (cmpS_any t1 t2 _) (fun _ _ h => ⟨h.1, h.2.symm⟩))
  refine wpStill_nil ?_
  change wpList _ _ _ _ _ W.drew
  have OLD2 := Lib.hid OLD.out.drew
  clear c0 c1 c2 d0 d1 d2
  generalize cmpI k1 k2 = x at *
  generalize cmpI n1 n2 = y at *
  generalize cmpS t1 t2 = z at *
  generalize W.drew = V at *
  go_wp2_with fail
  refine (HO.out _ V.heap.size (by simp) (by simp) (by simp)).mono ?_
  rintro e w1 ⟨rfl, rfl⟩
  go_wp2_with fail
  go_ret
  exact ⟨retZ HVC.out, OLD2.out.alloc OLD2.out.size _⟩
/-- does one stand ahead of another? -/
def vless (k1 n1 : Int) (t1 : ByteArray) (k2 n2 : Int) (t2 : ByteArray) : Bool := if k1 ≠ k2 then decide (k1 < k2) else if n1 ≠ n2 then decide (n1 < n2) else Op.bytesLess t1.toList t2.toList
set_option maxRecDepth 100000 in
set_option maxHeartbeats 1000000 in
theorem vless_any (k1 n1 : Int) (t1 : ByteArray) (k2 n2 : Int) (t2 : ByteArray) (w : World) :
    Calls Tryd.prog 28 #[.agg #[.int .i64 k1, .int .i64 n1, .string t1], .agg #[.int .i64 k2, .int .i64 n2, .string t2]] w fun e w' => e = .returned (.bool (vless k1 n1 t1 k2 n2 t2)) ∧ Below w.heap.size w w' := by
  have HV := Lib.hid (show vless k1 n1 t1 k2 n2 t2 = if k1 ≠ k2 then decide (k1 < k2) else if n1 ≠ n2 then decide (n1 < n2) else Op.bytesLess t1.toList t2.toList from rfl)
  by_cases hk : k1 = k2
  · have q1 : (k1 != k2) = false := by simp [hk]
    by_cases hn : n1 = n2
    · have q2 : (n1 != n2) = false := by simp [hn]
      have HQ := Lib.hid (show Op.bytesLess t1.toList t2.toList = vless k1 n1 t1 k2 n2 t2 by rw [HV.out, if_neg (by simp [hk]), if_neg (by simp [hn])])
      clear hk hn HV
      go_enter Tryd.func28, Tryd.ntmps28
      go_wp2_with fail
      go_ret
      exact ⟨retB HQ.out, ((Below.refl _ w).alloc (Nat.le_refl _) _).alloc (by simp) _⟩
    · have q2 : (n1 != n2) = true := by simp [hn]
      have HQ := Lib.hid (show decide (n1 < n2) = vless k1 n1 t1 k2 n2 t2 by rw [HV.out, if_neg (by simp [hk]), if_pos hn])
      clear hk hn HV
      go_enter Tryd.func28, Tryd.ntmps28
      go_wp2_with fail
      go_ret
      exact ⟨retB HQ.out, ((Below.refl _ w).alloc (Nat.le_refl _) _).alloc (by simp) _⟩
  · have q1 : (k1 != k2) = true := by simp [hk]
    have HQ := Lib.hid (show decide (k1 < k2) = vless k1 n1 t1 k2 n2 t2 by rw [HV.out, if_pos hk])
    clear hk HV
    go_enter Tryd.func28, Tryd.ntmps28
    go_wp2_with fail
    go_ret
    exact ⟨retB HQ.out, ((Below.refl _ w).alloc (Nat.le_refl _) _).alloc (by simp) _⟩
end Go.Proofs.YtipggdjeejhecaaDoor
