/- The contracts of value's Show and of the document's plain, Put and Show of layer 6 over this translation. Conditions: texts of at most a million bytes; the table of powers of ten. -/
import Derived.Test.YtpiafgdbjpfcaaaDoorWe
import Derived.Test.YtpiafgdbjpfcaaaDoorSi
import Derived.Lib.SmallJoins
namespace Go.Proofs.YtpiafgdbjpfcaaaDoor
open Go.RowKit Vi Hm

def PowT (w : World) : Prop := Lib.TabIs Tryd.prog w "internal/strconv.uint64pow10" .u64 Lib.pow10Tab
theorem PowT.later {w w' : World} (h : PowT w) (hb : Below w.heap.size w w') : PowT w' := Go.Joins.tab_stays (g := 2) (by kernel_rfl) h hb (Nat.le_refl _)
theorem below_growW (w : World) (k : Nat) (os : Array Obj) : Below w.heap.size w (Sort.grow (w.drewN k) os) :=
  ⟨rfl, rfl, rfl, by show w.heap.size ≤ (w.heap ++ os).size; simp, fun i hi => by show (w.heap ++ os)[i]? = _; rw [Array.getElem?_append_left hi]⟩
theorem itoa_any (n : Int) (h0 : -9223372036854775808 ≤ n) (h1 : n ≤ 9223372036854775807) (w : World) (hT : PowT w) :
    Calls Tryd.prog 34 #[.int .i64 n] w fun e w' => e = .returned (.string ⟨(Lib.itoa n).toArray⟩) ∧ Below w.heap.size w w' :=
  (Tryd.strconv_Itoa n h0 h1 w hT).mono fun _ _ ⟨he, k, os, hw⟩ => ⟨he, hw ▸ below_growW w k os⟩
/-- a value as a word -/
def vshow (k n : Int) (t : ByteArray) : ByteArray :=
  if vok k n t = true then (if k = 1 then (if (n == 1) = true then ⟨#[116, 114, 117, 101]⟩ else ⟨#[102, 97, 108, 115, 101]⟩) else if k = 2 then ⟨(Lib.itoa n).toArray⟩ else if plainB t.data.toList = true then ⟨#[39]⟩ ++ t else ⟨#[35]⟩ ++ ⟨(hexL t.data.toList).toArray⟩) else ⟨#[]⟩
theorem hex_size (t : ByteArray) (ht : t.size ≤ 1000000) : (⟨(hexL t.data.toList).toArray⟩ : ByteArray).size ≤ 2000000 := by
  show (hexL t.data.toList).toArray.size ≤ 2000000
  rw [List.size_toArray, hexL_len]
  have : t.data.toList.length = t.size := by simp
  omega
set_option maxRecDepth 100000 in
set_option maxHeartbeats 2000000 in
theorem vshow_any (k n : Int) (t : ByteArray) (w : World) (h0 : -9223372036854775808 ≤ n) (h1 : n ≤ 9223372036854775807) (ht : t.size ≤ 1000000) (hT : PowT w) :
    Calls Tryd.prog 14 #[.agg #[.int .i64 k, .int .i64 n, .string t]] w fun e w' => e = .returned (.string (vshow k n t)) ∧ Below w.heap.size w w' := by
  have HCK := Lib.hid (fun W : World => vcheck_any k n t W)
  have HT := Lib.hid hT
  have hti : (t.size : Int) ≤ 1000000 := by omega
  cases hv : vok k n t with
  | false =>
    have HQ := Lib.hid (show (⟨#[]⟩ : ByteArray) = vshow k n t by unfold vshow; rw [hv]; simp)
    have he : errV k n t = 2 := by unfold errV; rw [hv]; rfl
    rw [he] at HCK
    clear he hv hT ht h0 h1
    go_enter Tryd.func14, Tryd.ntmps14
    go_wp2_with fail
    refine (HCK.out _).mono ?_
    rintro e w1 ⟨rfl, hb⟩
    have HB := Lib.hid (((Below.refl _ w).alloc (Nat.le_refl _) _).trans (hb.mono (by simp)))
    clear hb HCK
    go_wp2_with fail
    go_ret
    exact ⟨retS HQ.out, HB.out⟩
  | true =>
    have he : errV k n t = 0 := by unfold errV; rw [hv]; rfl
    rw [he] at HCK
    clear he hT
    by_cases k1 : k = 1
    · subst k1
      have HQ := Lib.hid (show (if (n == 1) = true then (⟨#[116, 114, 117, 101]⟩ : ByteArray) else ⟨#[102, 97, 108, 115, 101]⟩) = vshow 1 n t by unfold vshow; rw [hv]; simp)
      have HF := Lib.hid (fun W : World => fbool_any (n == 1) W)
      generalize (if (n == 1) = true then (⟨#[116, 114, 117, 101]⟩ : ByteArray) else ⟨#[102, 97, 108, 115, 101]⟩) = R at HQ HF
      generalize hb1 : (n == 1) = b at HF
      clear hv ht h0 h1
      go_enter Tryd.func14, Tryd.ntmps14
      go_wp2_with fail
      refine (HCK.out _).mono ?_
      rintro e w1 ⟨rfl, hb⟩
      have c0 := hb.cell (p := ⟨w.heap.size, 0, none⟩) (by simp)
      have c1 := hb.cell (p := ⟨w.heap.size, 1, none⟩) (by simp)
      simp at c0 c1
      have HB := Lib.hid (((Below.refl _ w).alloc (Nat.le_refl _) _).trans (hb.mono (by simp)))
      clear hb HCK
      go_wp2_with fail
      refine (HF.out _).mono ?_
      rintro e w2 ⟨rfl, rfl⟩
      go_wp2_with fail
      go_ret
      exact ⟨retS HQ.out, HB.out⟩
    · have q1 : (k == 1) = false := by rw [beq_eq_false_iff_ne]; exact k1
      by_cases k2 : k = 2
      · subst k2
        have HQ := Lib.hid (show (⟨(Lib.itoa n).toArray⟩ : ByteArray) = vshow 2 n t by unfold vshow; rw [hv]; simp)
        have HF := Lib.hid (fun (W : World) (h : PowT W) => itoa_any n h0 h1 W h)
        generalize (⟨(Lib.itoa n).toArray⟩ : ByteArray) = R at HQ HF
        clear hv ht h0 h1 k1 q1
        go_enter Tryd.func14, Tryd.ntmps14
        go_wp2_with fail
        refine (HCK.out _).mono ?_
        rintro e w1 ⟨rfl, hb⟩
        have c0 := hb.cell (p := ⟨w.heap.size, 0, none⟩) (by simp)
        have c1 := hb.cell (p := ⟨w.heap.size, 1, none⟩) (by simp)
        simp at c0 c1
        have HB := Lib.hid (((Below.refl _ w).alloc (Nat.le_refl _) _).trans (hb.mono (by simp)))
        clear hb HCK
        go_wp2_with fail
        refine (HF.out _ (HT.out.later HB.out)).mono ?_
        rintro e w2 ⟨rfl, hb⟩
        have HB2 := Lib.hid (HB.out.trans (hb.mono HB.out.size))
        clear hb
        go_wp2_with fail
        go_ret
        exact ⟨retS HQ.out, HB2.out⟩
      · have q2 : (k == 2) = false := by rw [beq_eq_false_iff_ne]; exact k2
        have HPL := Lib.hid (fun W : World => plain_any t W ht)
        cases hp : plainB t.data.toList with
        | true =>
          have HQ := Lib.hid (show (⟨#[39]⟩ ++ t : ByteArray) = vshow k n t by unfold vshow; rw [hv, hp]; simp [k1, k2])
          rw [hp] at HPL
          clear hv ht h0 h1 k1 k2 hp
          go_enter Tryd.func14, Tryd.ntmps14
          go_wp2_with fail
          refine (HCK.out _).mono ?_
          rintro e w1 ⟨rfl, hb⟩
          have c0 := hb.cell (p := ⟨w.heap.size, 0, none⟩) (by simp)
          have c2 := hb.cell (p := ⟨w.heap.size, 2, none⟩) (by simp)
          simp at c0 c2
          have HB := Lib.hid (((Below.refl _ w).alloc (Nat.le_refl _) _).trans (hb.mono (by simp)))
          clear hb HCK
          go_wp2_with fail
          refine (HPL.out _).mono ?_
          rintro e w2 ⟨rfl, rfl⟩
          go_wp2_with fail
          go_ret
          exact ⟨retS HQ.out, HB.out⟩
        | false =>
          have HQ := Lib.hid (show (⟨#[35]⟩ ++ ⟨(hexL t.data.toList).toArray⟩ : ByteArray) = vshow k n t by unfold vshow; rw [hv, hp]; simp [k1, k2])
          have HX := Lib.hid (fun W : World => hex_any t W ht)
          have hz := hex_size t ht
          generalize (⟨(hexL t.data.toList).toArray⟩ : ByteArray) = R at HQ HX hz
          have hzi : (R.size : Int) ≤ 2000000 := by omega
          rw [hp] at HPL
          clear hv ht h0 h1 k1 k2 hp hz
          go_enter Tryd.func14, Tryd.ntmps14
          go_wp2_with fail
          refine (HCK.out _).mono ?_
          rintro e w1 ⟨rfl, hb⟩
          have c0 := hb.cell (p := ⟨w.heap.size, 0, none⟩) (by simp)
          have c2 := hb.cell (p := ⟨w.heap.size, 2, none⟩) (by simp)
          simp at c0 c2
          have HB := Lib.hid (((Below.refl _ w).alloc (Nat.le_refl _) _).trans (hb.mono (by simp)))
          clear hb HCK
          go_wp2_with fail
          refine (HPL.out _).mono ?_
          rintro e w2 ⟨rfl, rfl⟩
          go_wp2_with fail
          refine (HX.out _).mono ?_
          rintro e w2 ⟨rfl, hb⟩
          have HB2 := Lib.hid (HB.out.trans (hb.mono HB.out.size))
          clear hb
          go_wp2_with fail
          go_ret
          exact ⟨retS HQ.out, HB2.out⟩
set_option maxRecDepth 100000 in
set_option maxHeartbeats 2000000 in
theorem rplain_any (s : ByteArray) (w : World) (hs : s.size ≤ 1000000) : Calls Tryd.prog 66 #[.string s] w fun e w' => e = .returned (.bool (plainB s.data.toList)) ∧ w = w' := by
  go_enter Tryd.func66, Tryd.ntmps66
  go_wp2_with fail
  go_loop [3] (fun i => ∃ k : Nat, k ≤ s.size ∧ i = .int .i64 (k : Int) ∧ Hid (plainB s.data.toList = plainB (s.data.toList.drop k))) (fun i => s.size - (intOf i).toNat)
  case atStart => exact ⟨0, Nat.zero_le _, rfl, rfl⟩
  case round =>
    obtain ⟨k, hk, rfl, HP⟩ := hrel
    by_cases hlt : k < s.size
    · have HD := Lib.hid (show plainB (s.data.toList.drop k) = (mayB s[k] && plainB (s.data.toList.drop (k + 1))) by
        rw [← List.getElem_cons_drop (show k < s.data.toList.length by simpa using hlt)]
        rfl)
      have hb := s[k].toNat_lt
      have HV := Lib.hid (show mayB s[k] = ((decide (97 ≤ s[k].toNat) && decide (s[k].toNat ≤ 122)) || (decide (65 ≤ s[k].toNat) && decide (s[k].toNat ≤ 90)) || (decide (48 ≤ s[k].toNat) && decide (s[k].toNat ≤ 57)) || decide (s[k].toNat = 45) || decide (s[k].toNat = 46) || decide (s[k].toNat = 95)) from rfl)
      obtain ⟨n, hn⟩ : ∃ n, n = s[k].toNat := ⟨_, rfl⟩
      obtain ⟨m, hm⟩ : ∃ m, m = mayB s[k] := ⟨_, rfl⟩
      rw [← hm] at HD HV
      rw [← hn] at HV hb
      have hcx : ((s[k]'hlt).toNat : Int) = (n : Int) := by rw [hn]
      clear hn hm
      cases m with
      | true =>
        have HP2 := Lib.hid (show plainB s.data.toList = plainB (s.data.toList.drop (k + 1)) by rw [HP.out, HD.out]; rfl)
        have hor : (97 ≤ n ∧ n ≤ 122) ∨ (65 ≤ n ∧ n ≤ 90) ∨ (48 ≤ n ∧ n ≤ 57) ∨ n = 45 ∨ n = 46 ∨ n = 95 := by
          have := HV.out.symm
          simp at this
          omega
        clear HD HP HV
        rcases hor with ⟨a, b⟩ | ⟨a, b⟩ | ⟨a, b⟩ | rfl | rfl | rfl
        all_goals
          first
          | (have a' : 97 ≤ (n : Int) := by omega
             have b' : (n : Int) ≤ 122 := by omega)
          | skip
          go_wp2_with fail
          go_round
          case rel => exact ⟨k + 1, by omega, by go_num, HP2.out⟩
          case measure => simp [intOf]; omega
      | false =>
        have HP2 := Lib.hid (show false = plainB s.data.toList by rw [HP.out, HD.out]; rfl)
        have hno : ¬ n = 45 ∧ ¬ n = 46 ∧ ¬ n = 95 ∧ (n < 48 ∨ (57 < n ∧ n < 65) ∨ (90 < n ∧ n < 97) ∨ 122 < n) := by
          have := HV.out.symm
          simp at this
          omega
        obtain ⟨n1, n2, n3, hor⟩ := hno
        have g1 : ((n : Int) != 45) = true := by simp; omega
        have g2 : ((n : Int) != 46) = true := by simp; omega
        have g3 : ((n : Int) != 95) = true := by simp; omega
        clear HD HP HV n1 n2 n3
        rcases hor with a | ⟨a, b⟩ | ⟨a, b⟩ | a
        · have t1 : decide ((97 : Int) ≤ (n : Int)) = false := decide_eq_false (by omega)
          have t2 : decide ((65 : Int) ≤ (n : Int)) = false := decide_eq_false (by omega)
          have t3 : decide ((48 : Int) ≤ (n : Int)) = false := decide_eq_false (by omega)
          clear a
          go_wp2_with fail
          go_ret
          exact ⟨retB HP2.out, rfl⟩
        · have t1 : decide ((97 : Int) ≤ (n : Int)) = false := decide_eq_false (by omega)
          have t2 : decide ((65 : Int) ≤ (n : Int)) = false := decide_eq_false (by omega)
          have t3 : decide ((48 : Int) ≤ (n : Int)) = true := decide_eq_true (by omega)
          have t4 : decide ((n : Int) ≤ 57) = false := decide_eq_false (by omega)
          clear a b
          go_wp2_with fail
          go_ret
          exact ⟨retB HP2.out, rfl⟩
        · have t1 : decide ((97 : Int) ≤ (n : Int)) = false := decide_eq_false (by omega)
          have t2 : decide ((65 : Int) ≤ (n : Int)) = true := decide_eq_true (by omega)
          have t5 : decide ((n : Int) ≤ 90) = false := decide_eq_false (by omega)
          have t3 : decide ((48 : Int) ≤ (n : Int)) = true := decide_eq_true (by omega)
          have t4 : decide ((n : Int) ≤ 57) = false := decide_eq_false (by omega)
          clear a b
          go_wp2_with fail
          go_ret
          exact ⟨retB HP2.out, rfl⟩
        · have t1 : decide ((97 : Int) ≤ (n : Int)) = true := decide_eq_true (by omega)
          have t6 : decide ((n : Int) ≤ 122) = false := decide_eq_false (by omega)
          have t2 : decide ((65 : Int) ≤ (n : Int)) = true := decide_eq_true (by omega)
          have t5 : decide ((n : Int) ≤ 90) = false := decide_eq_false (by omega)
          have t3 : decide ((48 : Int) ≤ (n : Int)) = true := decide_eq_true (by omega)
          have t4 : decide ((n : Int) ≤ 57) = false := decide_eq_false (by omega)
          clear a
          go_wp2_with fail
          go_ret
          exact ⟨retB HP2.out, rfl⟩
    · have HP2 := Lib.hid (show true = plainB s.data.toList by rw [HP.out, List.drop_of_length_le (by simp; omega)]; rfl)
      clear HP
      go_wp2_with fail
      go_ret
      exact ⟨retB HP2.out, rfl⟩
set_option maxRecDepth 100000 in
set_option maxHeartbeats 2000000 in
theorem rshow_any (k n : Int) (t : ByteArray) (w : World) (h0 : -9223372036854775808 ≤ n) (h1 : n ≤ 9223372036854775807) (ht : t.size ≤ 1000000) :
    Calls Tryd.prog 28 #[.agg #[.int .i64 k, .int .i64 n, .string t]] w fun e w' => e = .returned (.string (vshow k n t)) ∧ Below w.heap.size w w' := by
  have HCK := Lib.hid (fun W : World => vis_any k n t W)
  have hti : (t.size : Int) ≤ 1000000 := by omega
  cases hv : vok k n t with
  | false =>
    have HQ := Lib.hid (show (⟨#[]⟩ : ByteArray) = vshow k n t by unfold vshow; rw [hv]; simp)
    rw [hv] at HCK
    clear hv ht h0 h1
    go_enter Tryd.func28, Tryd.ntmps28
    go_wp2_with fail
    refine (HCK.out _).mono ?_
    rintro e w1 ⟨rfl, hb⟩
    have HB := Lib.hid (((Below.refl _ w).alloc (Nat.le_refl _) _).trans (hb.mono (by simp)))
    clear hb HCK
    go_wp2_with fail
    go_ret
    exact ⟨retS HQ.out, HB.out⟩
  | true =>
    by_cases k1 : k = 1
    · subst k1
      by_cases n1 : n = 1
      · subst n1
        have HQ := Lib.hid (show (⟨#[116, 114, 117, 101]⟩ : ByteArray) = vshow 1 1 t by unfold vshow; rw [hv]; simp)
        rw [hv] at HCK
        clear hv ht h0 h1
        go_enter Tryd.func28, Tryd.ntmps28
        go_wp2_with fail
        refine (HCK.out _).mono ?_
        rintro e w1 ⟨rfl, hb⟩
        have c0 := hb.cell (p := ⟨w.heap.size, 0, none⟩) (by simp)
        have c1 := hb.cell (p := ⟨w.heap.size, 1, none⟩) (by simp)
        simp at c0 c1
        have HB := Lib.hid (((Below.refl _ w).alloc (Nat.le_refl _) _).trans (hb.mono (by simp)))
        clear hb HCK
        go_wp2_with fail
        go_ret
        exact ⟨retS HQ.out, HB.out⟩
      · have q : (n == 1) = false := by rw [beq_eq_false_iff_ne]; exact n1
        have HQ := Lib.hid (show (⟨#[102, 97, 108, 115, 101]⟩ : ByteArray) = vshow 1 n t by unfold vshow; rw [hv, q]; simp)
        rw [hv] at HCK
        clear hv ht h0 h1 n1
        go_enter Tryd.func28, Tryd.ntmps28
        go_wp2_with fail
        refine (HCK.out _).mono ?_
        rintro e w1 ⟨rfl, hb⟩
        have c0 := hb.cell (p := ⟨w.heap.size, 0, none⟩) (by simp)
        have c1 := hb.cell (p := ⟨w.heap.size, 1, none⟩) (by simp)
        simp at c0 c1
        have HB := Lib.hid (((Below.refl _ w).alloc (Nat.le_refl _) _).trans (hb.mono (by simp)))
        clear hb HCK
        go_wp2_with fail
        go_ret
        exact ⟨retS HQ.out, HB.out⟩
    · have q1 : (k == 1) = false := by rw [beq_eq_false_iff_ne]; exact k1
      by_cases k2 : k = 2
      · subst k2
        have HQ := Lib.hid (show (⟨(Lib.itoa n).toArray⟩ : ByteArray) = vshow 2 n t by unfold vshow; rw [hv]; simp)
        have HF := Lib.hid (fun (W : World) => ddigits_any n h0 h1 W)
        generalize (⟨(Lib.itoa n).toArray⟩ : ByteArray) = R at HQ HF
        rw [hv] at HCK
        clear hv ht h0 h1 k1 q1
        go_enter Tryd.func28, Tryd.ntmps28
        go_wp2_with fail
        refine (HCK.out _).mono ?_
        rintro e w1 ⟨rfl, hb⟩
        have c0 := hb.cell (p := ⟨w.heap.size, 0, none⟩) (by simp)
        have c1 := hb.cell (p := ⟨w.heap.size, 1, none⟩) (by simp)
        simp at c0 c1
        have HB := Lib.hid (((Below.refl _ w).alloc (Nat.le_refl _) _).trans (hb.mono (by simp)))
        clear hb HCK
        go_wp2_with fail
        refine (HF.out _).mono ?_
        rintro e w2 ⟨rfl, hb⟩
        have HB2 := Lib.hid (HB.out.trans (hb.mono HB.out.size))
        clear hb
        go_wp2_with fail
        go_ret
        exact ⟨retS HQ.out, HB2.out⟩
      · have q2 : (k == 2) = false := by rw [beq_eq_false_iff_ne]; exact k2
        have HPL := Lib.hid (fun W : World => rplain_any t W ht)
        rw [hv] at HCK
        cases hp : plainB t.data.toList with
        | true =>
          have HQ := Lib.hid (show (⟨#[39]⟩ ++ t : ByteArray) = vshow k n t by unfold vshow; rw [hv, hp]; simp [k1, k2])
          rw [hp] at HPL
          clear hv ht h0 h1 k1 k2 hp
          go_enter Tryd.func28, Tryd.ntmps28
          go_wp2_with fail
          refine (HCK.out _).mono ?_
          rintro e w1 ⟨rfl, hb⟩
          have c0 := hb.cell (p := ⟨w.heap.size, 0, none⟩) (by simp)
          have c1 := hb.cell (p := ⟨w.heap.size, 1, none⟩) (by simp)
          have c2 := hb.cell (p := ⟨w.heap.size, 2, none⟩) (by simp)
          simp at c0 c1 c2
          have HB := Lib.hid (((Below.refl _ w).alloc (Nat.le_refl _) _).trans (hb.mono (by simp)))
          clear hb HCK
          go_wp2_with fail
          refine (HPL.out _).mono ?_
          rintro e w2 ⟨rfl, rfl⟩
          go_wp2_with fail
          go_ret
          exact ⟨retS HQ.out, HB.out⟩
        | false =>
          have HQ := Lib.hid (show (⟨#[35]⟩ ++ ⟨(hexL t.data.toList).toArray⟩ : ByteArray) = vshow k n t by unfold vshow; rw [hv, hp]; simp [k1, k2])
          have HX := Lib.hid (fun W : World => rhex_any t W ht)
          have hz := hex_size t ht
          generalize (⟨(hexL t.data.toList).toArray⟩ : ByteArray) = R at HQ HX hz
          have hzi : (R.size : Int) ≤ 2000000 := by omega
          rw [hp] at HPL
          clear hv ht h0 h1 k1 k2 hp hz
          go_enter Tryd.func28, Tryd.ntmps28
          go_wp2_with fail
          refine (HCK.out _).mono ?_
          rintro e w1 ⟨rfl, hb⟩
          have c0 := hb.cell (p := ⟨w.heap.size, 0, none⟩) (by simp)
          have c1 := hb.cell (p := ⟨w.heap.size, 1, none⟩) (by simp)
          have c2 := hb.cell (p := ⟨w.heap.size, 2, none⟩) (by simp)
          simp at c0 c1 c2
          have HB := Lib.hid (((Below.refl _ w).alloc (Nat.le_refl _) _).trans (hb.mono (by simp)))
          clear hb HCK
          go_wp2_with fail
          refine (HPL.out _).mono ?_
          rintro e w2 ⟨rfl, rfl⟩
          go_wp2_with fail
          refine (HX.out _).mono ?_
          rintro e w2 ⟨rfl, hb⟩
          have HB2 := Lib.hid (HB.out.trans (hb.mono HB.out.size))
          clear hb
          go_wp2_with fail
          go_ret
          exact ⟨retS HQ.out, HB2.out⟩
theorem conv_twoW (w : World) (b c : UInt8) :
    (convert 59 9 (.slice (some ⟨w.heap.size, 0, none⟩) 2 2)).run Tryd.prog (w.alloc (.cells #[.int .u8 (b.toNat : Int), .int .u8 (c.toNat : Int)] 5)) = .ok (.string ⟨#[b, c]⟩) (w.alloc (.cells #[.int .u8 (b.toNat : Int), .int .u8 (c.toNat : Int)] 5)) := by
  refine run_convert_bytes_back _ 59 9 5 ⟨w.heap.size, 0, none⟩ 2 [b, c] Tryd.underlying59 Tryd.underlying5 Tryd.underlying9 ?_
  intro j hj
  have hj2 : j < 2 := by simpa using hj
  rw [Addr.add_lit, Nat.zero_add, cell_of_row _ _ _ _ _ _ (heap_alloc_new w (.cells #[.int .u8 (b.toNat : Int), .int .u8 (c.toNat : Int)] 5))]
  rcases (show j = 0 ∨ j = 1 by omega) with rfl | rfl <;> rfl
end Go.Proofs.YtpiafgdbjpfcaaaDoor
