/- The contract of the document's number of layer 6 over this translation. Condition: texts of at most a million bytes. -/
import Derived.Test.YtpiafgdbjpfcaaaDoorWq
import Derived.LoopTactic
namespace Go.Proofs.YtpiafgdbjpfcaaaDoor
open Go.RowKit Vi Hm

def NR (v : Int) : Prop := -9223372036854775808 ≤ v ∧ v ≤ 9223372036854775807
def NP (S : ByteArray) (neg : Bool) (k : Nat) (v : Int) : Prop := ∀ a, NR a → S.data.toList = Lib.itoa a → v = (if neg = true then -(Pv.dv ((S.data.toList.drop 1).take (k - 1)) : Int) else (Pv.dv (S.data.toList.take k) : Int))
theorem wrap_NR (x : Int) : NR (wrap64 x) := by unfold NR wrap64; omega
theorem wrap_id {x : Int} (h : NR x) : wrap64 x = x := by unfold NR at h; unfold wrap64; omega
theorem itoa_head (a : Int) (hh : (Lib.itoa a).head? = some 45) : a < 0 ∧ Lib.itoa a = 45 :: Lib.decDigits a.natAbs := by
  unfold Lib.itoa at hh ⊢
  split
  · exact ⟨by assumption, rfl⟩
  · rename_i h
    rw [if_neg h] at hh
    have := Pv.dec_digits a.toNat 45 (List.mem_of_mem_head? hh)
    exact absurd this.1 (by decide)
theorem itoa_head2 (a : Int) (hh : (Lib.itoa a).head? ≠ some 45) : 0 ≤ a ∧ Lib.itoa a = Lib.decDigits a.toNat := by
  unfold Lib.itoa at hh ⊢
  split
  · rename_i h; rw [if_pos h] at hh; exact absurd rfl hh
  · exact ⟨by omega, rfl⟩
theorem NP_neg {S : ByteArray} {k : Nat} {v : Int} {c : UInt8} (hh : S.data.toList.head? = some 45) (hk : k ≠ 0) (hc : S.data.toList[k]? = some c) (h : NP S true k v) : NP S true (k + 1) (wrap64 (wrap64 (v * 10) - ((c.toNat : Int) - 48))) := by
  intro a ha hs
  have hv := h a ha hs
  rw [hs] at hh
  obtain ⟨h0, hi⟩ := itoa_head a hh
  rw [if_pos rfl] at hv ⊢
  rw [hs, hi] at hc hv ⊢
  rw [List.drop_one, List.tail_cons] at hv ⊢
  obtain ⟨j, rfl⟩ : ∃ j, k = j + 1 := ⟨k - 1, by omega⟩
  rw [List.getElem?_cons_succ] at hc
  rw [Nat.add_sub_cancel] at hv ⊢
  obtain ⟨s1, s2, s3⟩ := Pv.dv_step _ _ _ hc
  have b1 := Pv.dv_take a.natAbs (j + 1)
  unfold NR at ha
  rw [s1] at b1 ⊢
  rw [hv, wrap_id (x := _ * 10) (by unfold NR; omega), wrap_id (by unfold NR; omega)]
  omega
theorem NP_pos {S : ByteArray} {k : Nat} {v : Int} {c : UInt8} (hh : S.data.toList.head? ≠ some 45) (hc : S.data.toList[k]? = some c) (h : NP S false k v) : NP S false (k + 1) (wrap64 (wrap64 (v * 10) + ((c.toNat : Int) - 48))) := by
  intro a ha hs
  have hv := h a ha hs
  rw [hs] at hh
  obtain ⟨h0, hi⟩ := itoa_head2 a hh
  rw [if_neg (by simp)] at hv ⊢
  rw [hs, hi] at hc hv ⊢
  obtain ⟨s1, s2, s3⟩ := Pv.dv_step _ _ _ hc
  have b1 := Pv.dv_take a.toNat (k + 1)
  unfold NR at ha
  rw [s1] at b1 ⊢
  rw [hv, wrap_id (x := _ * 10) (by unfold NR; omega), wrap_id (by unfold NR; omega)]
  omega
theorem NP_skip {S : ByteArray} {v : Int} (h : NP S true 0 v) : NP S true 1 v := fun a ha hs => h a ha hs
theorem NP_zero (S : ByteArray) (b : Bool) : NP S b 0 0 := by
  intro a _ _
  cases b <;> simp [Pv.dv]
theorem NP_bad {S : ByteArray} {k : Nat} {c : UInt8} (hc : S.data.toList[k]? = some c) (hd : ¬ (48 ≤ c.toNat ∧ c.toNat ≤ 57)) (hk : S.data.toList.head? = some 45 → k ≠ 0) (a : Int) (hs : S.data.toList = Lib.itoa a) : False := by
  by_cases hh : S.data.toList.head? = some 45
  · have hk := hk hh
    rw [hs] at hh hc
    obtain ⟨h0, hi⟩ := itoa_head a hh
    obtain ⟨j, rfl⟩ : ∃ j, k = j + 1 := ⟨k - 1, by omega⟩
    rw [hi, List.getElem?_cons_succ] at hc
    exact hd (Pv.dv_step _ _ _ hc).2
  · rw [hs] at hh hc
    obtain ⟨h0, hi⟩ := itoa_head2 a hh
    rw [hi] at hc
    exact hd (Pv.dv_step _ _ _ hc).2
theorem NP_end {S : ByteArray} {neg : Bool} {v : Int} (hh : S.data.toList.head? = some 45 ↔ neg = true) (h : NP S neg S.size v) (a : Int) (ha : NR a) (hs : S.data.toList = Lib.itoa a) : v = a := by
  have hv := h a ha hs
  have hl : S.data.toList.length = S.size := by simp
  cases neg with
  | true =>
    have hh := hh.2 rfl
    rw [hs] at hh
    obtain ⟨h0, hi⟩ := itoa_head a hh
    rw [if_pos rfl] at hv
    rw [hs, hi] at hv hl
    rw [List.drop_one, List.tail_cons, List.take_of_length_le (by rw [List.length_cons] at hl; omega), Pv.dv_dec] at hv
    omega
  | false =>
    have hh : ¬ (S.data.toList.head? = some 45) := fun e => by cases hh.1 e
    rw [hs] at hh
    obtain ⟨h0, hi⟩ := itoa_head2 a hh
    rw [if_neg (by simp)] at hv
    rw [hs, hi] at hv hl
    rw [List.take_of_length_le (by omega), Pv.dv_dec] at hv
    omega
theorem itoa_len (a : Int) (ha : NR a) : 1 ≤ (Lib.itoa a).length ∧ (Lib.itoa a).length ≤ 20 := by
  unfold NR at ha
  obtain ⟨c, r, h, _⟩ := itoa_cons a
  refine ⟨by rw [h]; simp, ?_⟩
  have e : (10 : Nat) ^ (18 + 1) = 10000000000000000000 := by decide
  unfold Lib.itoa
  split
  · rw [List.length_cons]
    have := Pv.dec_len 18 a.natAbs (by rw [e]; omega)
    omega
  · have := Pv.dec_len 18 a.toNat (by rw [e]; omega)
    omega
theorem num_head (S : ByteArray) (h : 0 < S.size) (neg : Bool) (hn : ((S[0].toNat : Int) == 45) = neg) : S.data.toList.head? = some 45 ↔ neg = true := by
  have h0 : S.data.toList[0]? = some S[0] := Lib.data_getElem? S 0 h
  rw [List.head?_eq_getElem?, h0]
  cases neg with
  | true =>
    refine ⟨fun _ => rfl, fun _ => ?_⟩
    have h1 : (S[0].toNat : Int) = 45 := by simpa using hn
    rw [show S[0] = 45 by apply UInt8.toNat_inj.1; exact (by omega : S[0].toNat = 45)]
  | false =>
    refine ⟨fun e => ?_, fun e => by cases e⟩
    injection e with e
    rw [e] at hn
    revert hn; decide
def NumP (S : ByteArray) (w : World) (e : Ending) (w' : World) : Prop := ∃ (v : Int) (b : Bool), e = .returned (.tuple #[.int .i64 v, .bool b]) ∧ NR v ∧ (∀ a, NR a → S.data.toList = Lib.itoa a → b = true ∧ v = a) ∧ w = w'
theorem ret_num {v v' : Int} {b : Bool} (h : v = v') : Ending.returned (.tuple #[.int .i64 v, .bool b]) = .returned (.tuple #[.int .i64 v', .bool b]) := by rw [h]
set_option maxRecDepth 100000 in
set_option maxHeartbeats 1000000 in
theorem number_any (S : ByteArray) (w : World) (hS : S.size ≤ 1000000) :
    Calls Tryd.prog 27 #[.string S] w (NumP S w) := by
  by_cases h1 : 1 ≤ S.size ∧ S.size ≤ 20
  · obtain ⟨h1, h2⟩ := h1
    have hn1 : (1 : Int) ≤ (S.size : Int) := by omega
    have hn2 : (S.size : Int) ≤ 20 := by omega
    have hp : 0 < S.size := by omega
    obtain ⟨neg, hneg⟩ : ∃ neg : Bool, ((S[0].toNat : Int) == 45) = neg := ⟨_, rfl⟩
    have hd1 : decide ((20 : Int) < (S.size : Int)) = false := decide_eq_false (by omega)
    have hd2 : decide (20 < S.size) = false := decide_eq_false (by omega)
    have hd3 : ((S.size : Int) == 0) = false := by rw [beq_eq_false_iff_ne]; omega
    cases neg with
    | true =>
      have HH := Lib.hid ((num_head S hp true hneg).2 rfl)
      go_enter Tryd.func27, Tryd.ntmps27
      go_wp2_with fail
      go_loop [5, 6, 7] (fun n i _ => ∃ (k : Nat) (v : Int), i = .int .i64 (k : Int) ∧ k ≤ S.size ∧ n = .int .i64 v ∧ NR v ∧ NP S true k v) (fun _ i _ => S.size - (intOf i).toNat)
      case atStart => exact ⟨0, 0, rfl, Nat.zero_le _, rfl, by unfold NR; omega, NP_zero S true⟩
      case round =>
        obtain ⟨k, v, rfl, hk, rfl, hr, hnp⟩ := hrel
        have HR := Lib.hid hr
        have HN := Lib.hid hnp
        clear hr hnp
        by_cases hlt : k < S.size
        · by_cases hk0 : k = 0
          · subst hk0
            have HS := Lib.hid (NP_skip HN.out)
            go_wp2_with fail
            go_round
            case rel => exact ⟨1, v, by go_num, by omega, rfl, HR.out, HS.out⟩
            case measure => simp [intOf]; omega
          · have hk1 : ((k : Int) == 0) = false := by rw [beq_eq_false_iff_ne]; omega
            obtain ⟨c, hc⟩ : ∃ c, S[k] = c := ⟨_, rfl⟩
            have HC := Lib.hid (show S.data.toList[k]? = some c by rw [← hc]; exact Lib.data_getElem? S k hlt)
            by_cases hd : 48 ≤ c.toNat ∧ c.toNat ≤ 57
            · have e1 : decide ((c.toNat : Int) < 48) = false := decide_eq_false (by omega)
              have e2 : decide ((57 : Int) < (c.toNat : Int)) = false := decide_eq_false (by omega)
              have HS := Lib.hid (NP_neg (HH.out) hk0 HC.out HN.out)
              go_wp2_with fail
              go_round
              case rel => exact ⟨k + 1, _, by go_num, by omega, rfl, wrap_NR _, HS.out⟩
              case measure => simp [intOf]; omega
            · have HBAD := Lib.hid (fun a => NP_bad HC.out hd (fun _ => hk0) a)
              by_cases e1 : c.toNat < 48
              · have e3 : decide ((c.toNat : Int) < 48) = true := decide_eq_true (by omega)
                clear hd
                go_wp2_with fail
                go_ret2
                exact ⟨0, false, rfl, by unfold NR; omega, fun a _ hs => (HBAD.out a hs).elim, rfl⟩
              · have e3 : decide ((c.toNat : Int) < 48) = false := decide_eq_false (by omega)
                have e2 : decide ((57 : Int) < (c.toNat : Int)) = true := decide_eq_true (by omega)
                clear hd
                go_wp2_with fail
                go_ret2
                exact ⟨0, false, rfl, by unfold NR; omega, fun a _ hs => (HBAD.out a hs).elim, rfl⟩
        · obtain rfl : k = S.size := by omega
          have HE := Lib.hid (fun a (ha : NR a) hs => NP_end ⟨fun _ => rfl, fun _ => HH.out⟩ HN.out a ha hs)
          go_wp2_with fail
          go_ret2
          exact ⟨v, true, rfl, HR.out, fun a ha hs => ⟨rfl, HE.out a ha hs⟩, rfl⟩
    | false =>
      have HH := Lib.hid ((fun e => by cases (num_head S hp false hneg).1 e : ¬ (S.data.toList.head? = some 45)))
      go_enter Tryd.func27, Tryd.ntmps27
      go_wp2_with fail
      go_loop [5, 6, 7] (fun n i _ => ∃ (k : Nat) (v : Int), i = .int .i64 (k : Int) ∧ k ≤ S.size ∧ n = .int .i64 v ∧ NR v ∧ NP S false k v) (fun _ i _ => S.size - (intOf i).toNat)
      case atStart => exact ⟨0, 0, rfl, Nat.zero_le _, rfl, by unfold NR; omega, NP_zero S false⟩
      case round =>
        obtain ⟨k, v, rfl, hk, rfl, hr, hnp⟩ := hrel
        have HR := Lib.hid hr
        have HN := Lib.hid hnp
        clear hr hnp
        by_cases hlt : k < S.size
        · obtain ⟨b0, hb0⟩ : ∃ b, ((k : Int) == 0) = b := ⟨_, rfl⟩
          cases b0
          all_goals
            obtain ⟨c, hc⟩ : ∃ c, S[k] = c := ⟨_, rfl⟩
            have HC := Lib.hid (show S.data.toList[k]? = some c by rw [← hc]; exact Lib.data_getElem? S k hlt)
            by_cases hd : 48 ≤ c.toNat ∧ c.toNat ≤ 57
            · have e1 : decide ((c.toNat : Int) < 48) = false := decide_eq_false (by omega)
              have e2 : decide ((57 : Int) < (c.toNat : Int)) = false := decide_eq_false (by omega)
              have HS := Lib.hid (NP_pos (HH.out) HC.out HN.out)
              go_wp2_with fail
              go_round
              case rel => exact ⟨k + 1, _, by go_num, by omega, rfl, wrap_NR _, HS.out⟩
              case measure => simp [intOf]; omega
            · have HBAD := Lib.hid (fun a => NP_bad HC.out hd (fun e => (HH.out e).elim) a)
              by_cases e1 : c.toNat < 48
              · have e3 : decide ((c.toNat : Int) < 48) = true := decide_eq_true (by omega)
                clear hd
                go_wp2_with fail
                go_ret2
                exact ⟨0, false, rfl, by unfold NR; omega, fun a _ hs => (HBAD.out a hs).elim, rfl⟩
              · have e3 : decide ((c.toNat : Int) < 48) = false := decide_eq_false (by omega)
                have e2 : decide ((57 : Int) < (c.toNat : Int)) = true := decide_eq_true (by omega)
                clear hd
                go_wp2_with fail
                go_ret2
                exact ⟨0, false, rfl, by unfold NR; omega, fun a _ hs => (HBAD.out a hs).elim, rfl⟩
        · obtain rfl : k = S.size := by omega
          have HE := Lib.hid (fun a (ha : NR a) hs => NP_end ⟨fun e => (HH.out e).elim, fun e => by cases e⟩ HN.out a ha hs)
          go_wp2_with fail
          go_ret2
          exact ⟨v, true, rfl, HR.out, fun a ha hs => ⟨rfl, HE.out a ha hs⟩, rfl⟩
  · have HL := Lib.hid (show ∀ a, NR a → S.data.toList = Lib.itoa a → False by
      intro a ha hs
      have hl : S.data.toList.length = S.size := by simp
      have := itoa_len a ha
      rw [← hs, hl] at this
      exact h1 this)
    by_cases h0 : S.size = 0
    · have hd3 : ((S.size : Int) == 0) = true := by rw [beq_iff_eq]; omega
      clear h1 h0
      go_enter Tryd.func27, Tryd.ntmps27
      go_wp2_with fail
      go_ret2
      exact ⟨0, false, rfl, by unfold NR; omega, fun a ha hs => (HL.out a ha hs).elim, rfl⟩
    · have hd3 : ((S.size : Int) == 0) = false := by rw [beq_eq_false_iff_ne]; omega
      have hd1 : decide ((20 : Int) < (S.size : Int)) = true := decide_eq_true (by omega)
      have hd2 : decide (20 < S.size) = true := decide_eq_true (by omega)
      clear h1 h0
      go_enter Tryd.func27, Tryd.ntmps27
      go_wp2_with fail
      go_ret2
      exact ⟨0, false, rfl, by unfold NR; omega, fun a ha hs => (HL.out a ha hs).elim, rfl⟩
end Go.Proofs.YtpiafgdbjpfcaaaDoor
