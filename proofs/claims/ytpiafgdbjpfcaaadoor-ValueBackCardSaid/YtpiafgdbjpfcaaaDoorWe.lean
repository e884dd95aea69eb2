/- The contracts of the document's Is, tail, tens, Digits, plain, Put and Show of layer 6, of its Hex, and of strconv's FormatBool, over this translation. Conditions: texts of at most a million bytes. -/
import Derived.Test.YtpiafgdbjpfcaaaDoorWc
import Derived.Lib.ItoaNum
namespace Go.Proofs.YtpiafgdbjpfcaaaDoor
open Go.RowKit Vi Hm

theorem run_digs (n : Nat) (hn : n < 16) (z z1 : Int) (hz : z = (n : Int)) (hz1 : z1 = (n : Int) + 1) (W : World) : (Instr.slice 9 (.string ⟨#[48, 49, 50, 51, 52, 53, 54, 55, 56, 57, 97, 98, 99, 100, 101, 102]⟩) (some (.int .i64 z)) (some (.int .i64 z1)) none).run Tryd.prog W = .ok (.string ⟨#[hexd n]⟩) W := by
  subst hz
  subst hz1
  rw [run_slice_string _ _ _ _ _ _ _ Tryd.underlying9 (by omega) (by omega) (by show (n : Int) + 1 ≤ 16; omega)]
  rcases (show n = 0 ∨ n = 1 ∨ n = 2 ∨ n = 3 ∨ n = 4 ∨ n = 5 ∨ n = 6 ∨ n = 7 ∨ n = 8 ∨ n = 9 ∨ n = 10 ∨ n = 11 ∨ n = 12 ∨ n = 13 ∨ n = 14 ∨ n = 15 by omega) with rfl | rfl | rfl | rfl | rfl | rfl | rfl | rfl | rfl | rfl | rfl | rfl | rfl | rfl | rfl | rfl <;> rfl
theorem str_two (S : ByteArray) (l : List UInt8) (a b : UInt8) (h : S.data.toList = l) : (S ++ ⟨#[a]⟩ ++ ⟨#[b]⟩).data.toList = l ++ [a, b] := by
  subst h
  simp
set_option maxRecDepth 100000 in
set_option maxHeartbeats 1000000 in
theorem rhex_any (s : ByteArray) (w : World) (hs : s.size ≤ 1000000) :
    Calls Tryd.prog 67 #[.string s] w fun e w' => e = .returned (.string ⟨(hexL s.data.toList).toArray⟩) ∧ Below w.heap.size w w' := by
  have hsi : (s.size : Int) ≤ 1000000 := by omega
  go_enter Tryd.func67, Tryd.ntmps67
  go_wp2_with fail
  go_loopw [4, 5, 6, 7] (fun v i _ _ wr => ∃ (k : Nat) (S : ByteArray), i = .int .i64 (k : Int) ∧ k ≤ s.size ∧ v = .string S ∧ S.data.toList = hexL (s.data.toList.take k) ∧ Below w.heap.size w wr) (fun _ i _ _ _ => s.size - (intOf i).toNat)
  case atStart => exact ⟨0, ⟨#[]⟩, rfl, Nat.zero_le _, rfl, rfl, Below.refl _ _⟩
  case round =>
    obtain ⟨k, S, rfl, hk, rfl, hS, hb⟩ := hrel
    have HS := Lib.hid hS
    have HB := Lib.hid hb
    clear hS hb
    by_cases hlt : k < s.size
    · obtain ⟨c, hc⟩ : ∃ c, s[k] = c := ⟨_, rfl⟩
      have HT := Lib.hid (show hexL (s.data.toList.take (k + 1)) = hexL (s.data.toList.take k) ++ [hexd (c.toNat / 16), hexd (c.toNat % 16)] by
        rw [List.take_succ_eq_append_getElem (by simpa using hlt), hexL_snoc, ← hc]
        rfl)
      have hcl : (c.toNat : Int) < 256 := by have := c.toNat_lt; omega
      have hsz : S.size ≤ 2000000 := by
        have h1 := congrArg List.length HS.out
        have h2 := List.length_take_le k s.data.toList
        rw [hexL_len] at h1
        have h3 : S.data.toList.length = S.size := by simp
        omega
      have hd1 := run_digs (c.toNat / 16) (by omega) ((c.toNat : Int) / 16) ((c.toNat : Int) / 16 + 1) (by omega) (by omega)
      have hd2 := run_digs (c.toNat % 16) (by omega) ((c.toNat : Int) % 16) ((c.toNat : Int) % 16 + 1) (by omega) (by omega)
      have HST := Lib.hid (str_two S _ (hexd (c.toNat / 16)) (hexd (c.toNat % 16)) HS.out)
      go_wp2_with fail
      go_quiet (fail)
      go_wp2_with fail
      go_quiet (fail)
      go_wp2_with fail
      go_roundw
      case rel => exact ⟨k + 1, _, by go_num, by omega, rfl, by rw [HT.out]; exact HST.out, ⟨HB.out.os, HB.out.tape, HB.out.output, HB.out.size, HB.out.block⟩⟩
      case measure => simp [intOf]; omega
    · obtain rfl : k = s.size := by omega
      have HF := Lib.hid (show S = ⟨(hexL s.data.toList).toArray⟩ by
        have h := HS.out
        rw [List.take_of_length_le (by simp)] at h
        apply ByteArray.ext
        rw [← h])
      go_wp2_with fail
      go_ret
      exact ⟨congrArg (fun z => Ending.returned (.string z)) HF.out, HB.out⟩

set_option maxRecDepth 100000 in
set_option maxHeartbeats 1600000 in
theorem vis_any (k n : Int) (t : ByteArray) (w : World) :
    Calls Tryd.prog 64 #[.agg #[.int .i64 k, .int .i64 n, .string t]] w fun e w' => e = .returned (.bool (vok k n t)) ∧ Below w.heap.size w w' := by
  cases he : t.toList.isEmpty <;> by_cases h1 : k = 1
  all_goals first
    | (subst h1
       by_cases n0 : n = 0
       · subst n0
         have HV := Lib.hid (show vok 1 0 t = t.toList.isEmpty by simp [vok])
         rw [he] at HV
         go_enter Tryd.func64, Tryd.ntmps64
         go_wp2_with fail
         go_ret
         exact ⟨retB HV.out.symm, (Below.refl _ w).alloc (Nat.le_refl _) _⟩
       · by_cases n1 : n = 1
         · subst n1
           have HV := Lib.hid (show vok 1 1 t = t.toList.isEmpty by simp [vok])
           rw [he] at HV
           clear n0
           go_enter Tryd.func64, Tryd.ntmps64
           go_wp2_with fail
           go_ret
           exact ⟨retB HV.out.symm, (Below.refl _ w).alloc (Nat.le_refl _) _⟩
         · have HV := Lib.hid (show vok 1 n t = false by simp [vok, n0, n1])
           by_cases hp : 0 ≤ n
           · have d1 : decide (0 ≤ n) = true := decide_eq_true hp
             have d2 : decide (n ≤ 1) = false := decide_eq_false (by omega)
             clear n0 n1 hp
             go_enter Tryd.func64, Tryd.ntmps64
             go_wp2_with fail
             go_ret
             exact ⟨retB HV.out.symm, (Below.refl _ w).alloc (Nat.le_refl _) _⟩
           · have d1 : decide (0 ≤ n) = false := decide_eq_false hp
             clear n0 n1 hp
             go_enter Tryd.func64, Tryd.ntmps64
             go_wp2_with fail
             go_ret
             exact ⟨retB HV.out.symm, (Below.refl _ w).alloc (Nat.le_refl _) _⟩)
    | (have q1 : (k == 1) = false := by rw [beq_eq_false_iff_ne]; exact h1
       by_cases h2 : k = 2
       · subst h2
         have HV := Lib.hid (show vok 2 n t = t.toList.isEmpty by simp [vok])
         rw [he] at HV
         clear h1 q1
         go_enter Tryd.func64, Tryd.ntmps64
         go_wp2_with fail
         go_ret
         exact ⟨retB HV.out.symm, (Below.refl _ w).alloc (Nat.le_refl _) _⟩
       · have q2 : (k == 2) = false := by rw [beq_eq_false_iff_ne]; exact h2
         by_cases h3 : k = 3
         · subst h3
           clear h1 h2 q1 q2 he
           by_cases n0 : n = 0
           · subst n0
             by_cases hs : t.size ≤ 64
             · have HV := Lib.hid (show vok 3 0 t = true by simp [vok, hs])
               have d1 : decide ((t.size : Int) ≤ 64) = true := decide_eq_true (by omega)
               clear hs
               go_enter Tryd.func64, Tryd.ntmps64
               go_wp2_with fail
               go_ret
               exact ⟨retB HV.out.symm, (Below.refl _ w).alloc (Nat.le_refl _) _⟩
             · have HV := Lib.hid (show vok 3 0 t = false by simp [vok, hs])
               have d1 : decide ((t.size : Int) ≤ 64) = false := decide_eq_false (by omega)
               clear hs
               go_enter Tryd.func64, Tryd.ntmps64
               go_wp2_with fail
               go_ret
               exact ⟨retB HV.out.symm, (Below.refl _ w).alloc (Nat.le_refl _) _⟩
           · have q0 : (n == 0) = false := by rw [beq_eq_false_iff_ne]; exact n0
             have HV := Lib.hid (show vok 3 n t = false by simp [vok, n0])
             clear n0
             go_enter Tryd.func64, Tryd.ntmps64
             go_wp2_with fail
             go_ret
             exact ⟨retB HV.out.symm, (Below.refl _ w).alloc (Nat.le_refl _) _⟩
         · have q3 : (k == 3) = false := by rw [beq_eq_false_iff_ne]; exact h3
           have HV := Lib.hid (show vok k n t = false by simp [vok, h1, h2, h3])
           clear h1 h2 h3 he
           go_enter Tryd.func64, Tryd.ntmps64
           go_wp2_with fail
           go_ret
           exact ⟨retB HV.out.symm, (Below.refl _ w).alloc (Nat.le_refl _) _⟩)
theorem ibool_any (b : Bool) (w : World) : Calls Tryd.prog 75 #[.bool b] w fun e w' => e = .returned (.string (if b = true then ⟨#[116, 114, 117, 101]⟩ else ⟨#[102, 97, 108, 115, 101]⟩)) ∧ w = w' := by
  cases b
  all_goals
    go_enter Tryd.func75, Tryd.ntmps75
    go_wp2_with fail
    go_ret
    exact ⟨rfl, rfl⟩
theorem fbool_any (b : Bool) (w : World) : Calls Tryd.prog 33 #[.bool b] w fun e w' => e = .returned (.string (if b = true then ⟨#[116, 114, 117, 101]⟩ else ⟨#[102, 97, 108, 115, 101]⟩)) ∧ w = w' := by
  have HI := Lib.hid (fun W : World => ibool_any b W)
  generalize (if b = true then (⟨#[116, 114, 117, 101]⟩ : ByteArray) else ⟨#[102, 97, 108, 115, 101]⟩) = s at HI ⊢
  go_enter Tryd.func33, Tryd.ntmps33
  go_wp2_with fail
  refine (HI.out _).mono ?_
  rintro e w1 ⟨rfl, rfl⟩
  go_wp2_with fail
  go_ret
  exact ⟨rfl, rfl⟩
/-- one digit -/
theorem tail_any (d : Nat) (hd : d < 10) (w : World) : Calls Tryd.prog 98 #[.int .i64 (d : Int)] w fun e w' => e = .returned (.string ⟨#[UInt8.ofNat (48 + d)]⟩) ∧ Below w.heap.size w w' := by
  obtain ⟨c, hc⟩ : ∃ c, c = UInt8.ofNat (48 + d) := ⟨_, rfl⟩
  have hcn : (c.toNat : Int) = 48 + (d : Int) := by
    rw [hc, UInt8.toNat_ofNat', Nat.mod_eq_of_lt (by omega)]
    omega
  have hw : (48 + (d : Int)) % 256 = (c.toNat : Int) := by rw [hcn]; omega
  have hw2 : IntKind.u8.wrap (48 + (d : Int)) = (c.toNat : Int) := by rw [← hw]; simp [IntKind.wrap, IntKind.bits, IntKind.signed]
  have hcv := conv_oneW w (c.toNat : Int) c rfl
  have HC := Lib.hid hc
  clear hc hcn
  go_enter Tryd.func98, Tryd.ntmps98
  go_wp2_with fail
  go_ret
  exact ⟨retS (by rw [HC.out]), (Below.refl _ w).alloc (Nat.le_refl _) _⟩
/-- the digits ahead of a last one: none of 0 -/
def tensL (n : Nat) : List UInt8 := if n = 0 then [] else Lib.decDigits n
theorem dec_split (u : Nat) : Lib.decDigits u = tensL (u / 10) ++ [UInt8.ofNat (48 + u % 10)] := by
  rw [Lib.decDigits]
  by_cases h : u < 10
  · rw [dif_pos h, tensL, if_pos (by omega), Nat.mod_eq_of_lt h]
    rfl
  · rw [dif_neg h, tensL, if_neg (by omega)]
theorem tens_step (m : Nat) (h : 0 < m) : tensL m = tensL (m / 10) ++ [UInt8.ofNat (48 + m % 10)] := by
  rw [tensL, if_neg (by omega), dec_split]
theorem tens_len : ∀ (f n : Nat), n < 10 ^ f → (tensL n).length ≤ f := by
  intro f
  induction f with
  | zero => intro n h; have : n = 0 := by simpa using h
            subst this; simp [tensL]
  | succ f ih =>
    intro n h
    by_cases h0 : n = 0
    · subst h0; simp [tensL]
    · rw [tens_step n (by omega), List.length_append]
      have := ih (n / 10) (by rw [Nat.pow_succ] at h; omega)
      simp
      omega
set_option maxRecDepth 100000 in
set_option maxHeartbeats 800000 in
theorem tens_any (n : Nat) (hn : n < 10 ^ 20) (hn2 : (n : Int) ≤ 18446744073709551615) (w : World) : Calls Tryd.prog 97 #[.int .u64 (n : Int)] w fun e w' => e = .returned (.string ⟨(tensL n).toArray⟩) ∧ Below w.heap.size w w' := by
  have HNN := Lib.hid hn
  clear hn
  go_enter Tryd.func97, Tryd.ntmps97
  go_wp2_with fail
  go_loopw [0, 3] (fun x v wr => ∃ (m f : Nat) (S : ByteArray), x = .int .u64 (m : Int) ∧ v = .string S ∧ Hid (m < 10 ^ f) ∧ Hid (S.size + f = 20) ∧ (m : Int) ≤ 18446744073709551615 ∧ Hid (tensL m ++ S.data.toList = tensL n) ∧ Below w.heap.size w wr) (fun x _ _ => (intOf x).toNat)
  case atStart => exact ⟨n, 20, ⟨#[]⟩, rfl, rfl, HNN.out, rfl, hn2, Lib.hid (by simp), Below.refl _ _⟩
  case round =>
    obtain ⟨m, f, S, rfl, rfl, HF, HSF, hm, HE, hb⟩ := hrel
    have HB := Lib.hid hb
    clear hb
    by_cases h : 0 < m
    · have hSi : (S.size : Int) ≤ 20 := by have := HSF.out; omega
      obtain ⟨d, hd⟩ : ∃ d, d = m % 10 := ⟨_, rfl⟩
      have hdi : (m : Int) % 10 = (d : Int) := by omega
      have HT := Lib.hid (fun W : World => tail_any d (by omega) W)
      have HE2 := Lib.hid (show tensL (m / 10) ++ ((⟨#[UInt8.ofNat (48 + d)]⟩ ++ S : ByteArray)).data.toList = tensL n by
        rw [← HE.out, tens_step m h, hd]
        simp)
      have HS3 := Lib.hid (show (⟨#[UInt8.ofNat (48 + d)]⟩ ++ S : ByteArray).size = S.size + 1 by rw [ByteArray.size_append]; show 1 + S.size = _; omega)
      generalize UInt8.ofNat (48 + d) = c at HT HE2 HS3
      obtain ⟨f2, rfl⟩ : ∃ f2, f = f2 + 1 := by
        cases f with
        | zero => have := HF.out; simp at this; omega
        | succ f => exact ⟨f, rfl⟩
      have HF2 := Lib.hid (show m / 10 < 10 ^ f2 by have := HF.out; rw [Nat.pow_succ] at this; omega)
      have HS2 := Lib.hid (show ((⟨#[c]⟩ ++ S : ByteArray)).size + f2 = 20 by rw [HS3.out]; have := HSF.out; omega)
      have hdb : (d : Int) < 10 := by omega
      clear hd HF HSF HE
      go_wp2_with fail
      refine (HT.out _).mono ?_
      rintro e w1 ⟨rfl, hb⟩
      have HB1 := Lib.hid (HB.out.trans (hb.mono HB.out.size))
      clear hb
      go_wp2_with fail
      go_roundw
      case rel => exact ⟨m / 10, f2, _, by go_num, rfl, HF2.out, HS2.out, by omega, HE2.out, HB1.out⟩
      case measure => simp [intOf]; omega
    · obtain rfl : m = 0 := by omega
      have HR := Lib.hid (show S = ⟨(tensL n).toArray⟩ by
        have := HE.out
        apply ByteArray.ext
        rw [← this]
        simp [tensL])
      clear HE
      go_wp2_with fail
      go_ret
      exact ⟨retS HR.out, HB.out⟩
theorem itoa_pos (u : Nat) : (⟨(tensL (u / 10)).toArray⟩ ++ ⟨#[UInt8.ofNat (48 + u % 10)]⟩ : ByteArray) = ⟨(Lib.itoa (u : Int)).toArray⟩ := by
  apply ByteArray.ext
  have : Lib.itoa (u : Int) = tensL (u / 10) ++ [UInt8.ofNat (48 + u % 10)] := by
    unfold Lib.itoa
    rw [if_neg (by omega), Int.toNat_natCast, dec_split]
  rw [this]
  simp
theorem itoa_neg (A : Nat) : (⟨#[45]⟩ ++ ⟨(tensL ((A + 1) / 10)).toArray⟩ ++ ⟨#[UInt8.ofNat (48 + (A + 1) % 10)]⟩ : ByteArray) = ⟨(Lib.itoa (-(A : Int) - 1)).toArray⟩ := by
  apply ByteArray.ext
  have : Lib.itoa (-(A : Int) - 1) = 45 :: (tensL ((A + 1) / 10) ++ [UInt8.ofNat (48 + (A + 1) % 10)]) := by
    unfold Lib.itoa
    rw [if_pos (by omega), show (-(A : Int) - 1).natAbs = A + 1 by omega, dec_split]
  rw [this]
  simp
set_option maxRecDepth 100000 in
set_option maxHeartbeats 1000000 in
theorem digits_pos (u : Nat) (hu : (u : Int) ≤ 9223372036854775807) (w : World) : Calls Tryd.prog 65 #[.int .i64 (u : Int)] w fun e w' => e = .returned (.string ⟨(Lib.itoa (u : Int)).toArray⟩) ∧ Below w.heap.size w w' := by
  have HI := Lib.hid (itoa_pos u)
  obtain ⟨a, ha⟩ : ∃ a, a = u / 10 := ⟨_, rfl⟩
  obtain ⟨d, hd⟩ : ∃ d, d = u % 10 := ⟨_, rfl⟩
  rw [← ha, ← hd] at HI
  have ha2 : (u : Int) / 10 = (a : Int) := by omega
  have hd2 : (u : Int) % 10 = (d : Int) := by omega
  have hd3 : (u : Int).tmod 10 = (d : Int) := by rw [Int.tmod_eq_emod_of_nonneg (by omega)]; exact hd2
  have H1 := Lib.hid (fun W : World => tens_any a (by omega) (by omega) W)
  have H2 := Lib.hid (fun W : World => tail_any d (by omega) W)
  have hl := tens_len 20 a (by omega)
  have hz : (⟨(tensL a).toArray⟩ : ByteArray).size ≤ 20 := by show (tensL a).toArray.size ≤ 20; rw [List.size_toArray]; exact hl
  generalize (⟨(tensL a).toArray⟩ : ByteArray) = S at HI H1 hz
  generalize UInt8.ofNat (48 + d) = c at HI H2
  have hzi : (S.size : Int) ≤ 20 := by omega
  have hdn : (d : Int) < 10 := by omega
  have hun : ¬ (u : Int) < 0 := by omega
  clear ha hd hl hz
  go_enter Tryd.func65, Tryd.ntmps65
  go_wp2_with fail
  refine (H1.out _).mono ?_
  rintro e w1 ⟨rfl, hb⟩
  have HB := Lib.hid hb
  clear hb
  go_wp2_with fail
  refine (H2.out _).mono ?_
  rintro e w2 ⟨rfl, hb⟩
  have HB2 := Lib.hid (HB.out.trans (hb.mono HB.out.size))
  clear hb
  go_wp2_with fail
  go_ret
  exact ⟨retS HI.out, HB2.out⟩
set_option maxRecDepth 100000 in
set_option maxHeartbeats 1000000 in
theorem digits_neg (A : Nat) (hu : (A : Int) ≤ 9223372036854775807) (w : World) : Calls Tryd.prog 65 #[.int .i64 (-(A : Int) - 1)] w fun e w' => e = .returned (.string ⟨(Lib.itoa (-(A : Int) - 1)).toArray⟩) ∧ Below w.heap.size w w' := by
  have HI := Lib.hid (itoa_neg A)
  obtain ⟨a, ha⟩ : ∃ a, a = (A + 1) / 10 := ⟨_, rfl⟩
  obtain ⟨d, hd⟩ : ∃ d, d = (A + 1) % 10 := ⟨_, rfl⟩
  rw [← ha, ← hd] at HI
  have H1 := Lib.hid (fun W : World => tens_any a (by omega) (by omega) W)
  have H2 := Lib.hid (fun W : World => tail_any d (by omega) W)
  have hl := tens_len 20 a (by omega)
  have hz : (⟨(tensL a).toArray⟩ : ByteArray).size ≤ 20 := by show (tensL a).toArray.size ≤ 20; rw [List.size_toArray]; exact hl
  generalize (⟨(tensL a).toArray⟩ : ByteArray) = S at HI H1 hz
  generalize UInt8.ofNat (48 + d) = c at HI H2
  have hzi : (S.size : Int) ≤ 20 := by omega
  have hneg : -(A : Int) - 1 < 0 := by omega
  have e1 : -(A : Int) - 1 + 1 = -(A : Int) := by omega
  have e2 : - -(A : Int) = (A : Int) := by omega
  have hm : (A : Int) % 10 + 1 = (d : Int) ∧ (A : Int) / 10 = (a : Int) ∨ (A : Int) % 10 + 1 = 10 ∧ d = 0 ∧ (A : Int) / 10 + 1 = (a : Int) := by omega
  have hdn : (d : Int) < 10 := by omega
  clear ha hd hl hz
  rcases hm with ⟨m1, m2⟩ | ⟨m1, rfl, m2⟩
  · have t1 : ((d : Int) == 10) = false := by rw [beq_eq_false_iff_ne]; omega
    go_enter Tryd.func65, Tryd.ntmps65
    go_wp2_with fail
    refine (H1.out _).mono ?_
    rintro e w1 ⟨rfl, hb⟩
    have HB := Lib.hid hb
    clear hb
    go_wp2_with fail
    refine (H2.out _).mono ?_
    rintro e w2 ⟨rfl, hb⟩
    have HB2 := Lib.hid (HB.out.trans (hb.mono HB.out.size))
    clear hb
    go_wp2_with fail
    go_ret
    exact ⟨retS HI.out, HB2.out⟩
  · go_enter Tryd.func65, Tryd.ntmps65
    go_wp2_with fail
    refine (H1.out _).mono ?_
    rintro e w1 ⟨rfl, hb⟩
    have HB := Lib.hid hb
    clear hb
    go_wp2_with fail
    refine (H2.out _).mono ?_
    rintro e w2 ⟨rfl, hb⟩
    have HB2 := Lib.hid (HB.out.trans (hb.mono HB.out.size))
    clear hb
    go_wp2_with fail
    go_ret
    exact ⟨retS HI.out, HB2.out⟩
theorem ddigits_any (n : Int) (h0 : -9223372036854775808 ≤ n) (h1 : n ≤ 9223372036854775807) (w : World) : Calls Tryd.prog 65 #[.int .i64 n] w fun e w' => e = .returned (.string ⟨(Lib.itoa n).toArray⟩) ∧ Below w.heap.size w w' := by
  by_cases h : 0 ≤ n
  · obtain ⟨u, rfl⟩ := Int.eq_ofNat_of_zero_le h
    exact digits_pos u h1 w
  · obtain ⟨A, hA⟩ := Int.eq_ofNat_of_zero_le (show 0 ≤ -n - 1 by omega)
    obtain rfl : n = -(A : Int) - 1 := by omega
    exact digits_neg A (by omega) w
end Go.Proofs.YtpiafgdbjpfcaaaDoor
