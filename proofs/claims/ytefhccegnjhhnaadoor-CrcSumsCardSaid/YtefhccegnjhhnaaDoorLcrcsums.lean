/- CrcSums: any text's sum behind any sum, and the sum of any parts, are the document's, where the table holds what the program's text lays. -/
import Derived.Test.YtefhccegnjhhnaaDoorCa
namespace Go.Proofs.YtefhccegnjhhnaaDoor
open Go.RowKit Cm

def bsum (ss : List ByteArray) : Nat := (ss.map (·.size)).sum
theorem bsum_app (a b : List ByteArray) : bsum (a ++ b) = bsum a + bsum b := by
  simp only [bsum, List.map_append, List.sum_append]
theorem bsum_take (ss : List ByteArray) (k : Nat) (h : k < ss.length) : bsum (ss.take (k + 1)) = bsum (ss.take k) + ss[k].size := by
  rw [List.take_succ_eq_append_getElem h]; simp only [bsum, List.map_append, List.sum_append, List.map_cons, List.map_nil, List.sum_cons, List.sum_nil]; omega
theorem bsum_le (ss : List ByteArray) : ∀ s ∈ ss, s.size ≤ bsum ss := by
  intro s hs
  induction ss with
  | nil => cases hs
  | cons a r ih =>
    simp only [bsum, List.map_cons, List.sum_cons] at ih ⊢
    rcases List.mem_cons.1 hs with rfl | hs
    · omega
    · have := ih hs; omega
theorem flat_len (ss : List ByteArray) : (flat ss).length = bsum ss := by
  induction ss with
  | nil => rfl
  | cons a r ih => simp only [flat, bsum, List.flatMap_cons, List.length_append, List.map_cons, List.sum_cons] at ih ⊢; rw [ih]; simp

set_option maxHeartbeats 800000 in
set_option maxRecDepth 100000 in
theorem bytes_any (a : Option Addr) (len cap : Nat) (ss : List ByteArray) (w : World) (hsl : SlS w a len ss) (hle : len ≤ 1000) (hs : ∀ s ∈ ss, s.size ≤ maxLen) :
    Calls Tryd.prog 10 #[.slice a len cap] w fun e w' => (∃ r : Nat, e = .returned (.int .i64 (r : Int)) ∧ (r < 1000000 → bsum ss = r)) ∧ w = w' := by
  obtain ⟨hlen, hcl⟩ := hsl
  rcases Nat.eq_zero_or_pos len with h0 | hpos
  · subst h0
    have : ss = [] := List.length_eq_zero_iff.1 hlen
    subst this
    clear hcl hs hlen
    go_enter Tryd.func10, Tryd.ntmps10
    go_wp2
    refine wp_loop_rounds 1 ?_
    rw [rounds_succ]
    go_wp2
    go_ret
    exact ⟨⟨0, rfl, fun _ => rfl⟩, rfl⟩
  · obtain ⟨b, off, rfl, hc⟩ := hcl hpos
    have HC := Lib.hid hc
    have HN := Lib.hid hs
    have HL := Lib.hid hlen
    clear hc hs hlen hcl
    go_enter Tryd.func10, Tryd.ntmps10
    go_wp2
    go_loop [3, 8] (fun v i => ∃ (k r : Nat), i = .int .i64 (k : Int) ∧ k ≤ len ∧ v = .int .i64 (r : Int) ∧ r < 1000000 ∧ bsum (ss.take k) = r) (fun _ i => len - (intOf i).toNat)
    case atStart => exact ⟨0, 0, rfl, by omega, rfl, by omega, by rw [List.take_zero]; rfl⟩
    case round =>
      obtain ⟨k, r, rfl, hk, rfl, hr, hrs⟩ := hrel
      have HR := Lib.hid hrs
      clear hrs
      by_cases hlt : k < len
      · have hkn : k < ss.length := by rw [HL.out]; exact hlt
        have hc := HC.out k hkn
        have hsk := HN.out _ (List.getElem_mem hkn)
        unfold maxLen at hsk
        have hst := bsum_take ss k hkn
        rw [HR.out] at hst
        have HST := Lib.hid hst
        clear hst
        by_cases hbig : 1000000 < (ss[k].size : Int)
        · have hf : (1000000 : Int) ≤ (r : Int) + 1000000 := by omega
          have hf2 : decide ((1000000 : Int) ≤ (r : Int) + 1000000) = true := decide_eq_true hf
          have hf3 : (1000000 : Nat) ≤ r + 1000000 := by omega
          go_wp2_with fail
          go_ret
          exact ⟨⟨r + 1000000, ret_val (by omega), fun h => by omega⟩, rfl⟩
        · by_cases hsum : 1000000 ≤ (r : Int) + ss[k].size
          · go_wp2
            all_goals go_ret
            all_goals exact ⟨⟨r + ss[k].size, ret_val (by omega), fun h => by omega⟩, rfl⟩
          · go_wp2
            all_goals go_round
            all_goals first
              | (case rel => exact ⟨k + 1, r + ss[k].size, by go_num, by omega, by first | rfl | go_num | (congr 2; omega), by omega, HST.out⟩)
              | skip
            all_goals first
              | (case measure => simp [intOf]; omega)
              | skip
      · have hfin : ss.take k = ss := List.take_of_length_le (by rw [HL.out]; omega)
        have hst : bsum ss = r := by rw [← HR.out, hfin]
        have HST := Lib.hid hst
        clear hst hfin
        go_wp2
        go_ret
        exact ⟨⟨r, rfl, fun _ => HST.out⟩, rfl⟩

namespace LCrcSums
set_option maxHeartbeats 1600000 in
set_option maxRecDepth 100000 in
theorem walk (sum : Nat) (s : ByteArray) (a : Option Addr) (len cap : Nat) (ss : List ByteArray) (w : World) (hT : Tab w) (hsum : sum < 4294967296) (hs : s.size ≤ maxLen) (hlm : len ≤ maxLen) (hsl : SlS w a len ss) (hss : ∀ s ∈ ss, s.size ≤ maxLen) :
    Calls Tryd.prog 3 #[.int .u32 sum, .string s, .slice a len cap] w fun e w' => e = .returned (.bool true) ∧ Below w.heap.size w w' := by
  have hs2 := hs
  have hlm2 := hlm
  unfold maxLen at hs2 hlm2
  have HT := Lib.hid hT
  have HS := Lib.hid hss
  clear hT hss
  by_cases hb : 1000 < (s.size : Int)
  · go_enter Tryd.func3, Tryd.ntmps3
    go_wp2_with fail
    refine (awake2_any _ HT.out).mono ?_
    rintro e w1 ⟨rfl, hb1⟩
    go_wp2_with fail
    go_ret
    exact ⟨rfl, hb1⟩
  by_cases hbl : 100 < (len : Int)
  · go_enter Tryd.func3, Tryd.ntmps3
    go_wp2_with fail
    refine (awake2_any _ HT.out).mono ?_
    rintro e w1 ⟨rfl, hb1⟩
    go_wp2_with fail
    go_ret
    exact ⟨rfl, hb1⟩
  go_enter Tryd.func3, Tryd.ntmps3
  go_wp2_with fail
  refine (bytes_any a len cap ss w hsl (by omega) HS.out).mono ?_
  rintro e w1 ⟨⟨r, rfl, hr⟩, rfl⟩
  have HR := Lib.hid hr
  clear hr
  by_cases hbig : 2000 < (r : Int)
  · go_wp2_with fail
    refine (awake2_any _ HT.out).mono ?_
    rintro e w1 ⟨rfl, hb1⟩
    go_wp2_with fail
    go_ret
    exact ⟨rfl, hb1⟩
  have hbs : bsum ss ≤ 2000 := by have := HR.out (by omega); omega
  have hle := bsum_le ss
  have hfl := flat_len ss
  have hlen := hsl.1
  have HLE := Lib.hid hle
  have HFL := Lib.hid hfl
  have HL := Lib.hid hlen
  clear hle hfl hlen HR
  have hof := on_lt 0 (flat ss)
  rcases Nat.eq_zero_or_pos len with h0 | hpos
  · subst h0
    have hnil : ss = [] := List.length_eq_zero_iff.1 HL.out
    subst hnil
    go_wp2_with fail
    refine wp_loop_rounds 1 ?_
    rw [rounds_succ]
    go_wp2_with fail
    refine (on_any sum s w HT.out hsum (by omega)).mono ?_
    rintro e w2 ⟨rfl, rfl⟩
    go_wp2_with fail
    refine (refOn_any sum s w hsum (by omega)).mono ?_
    rintro e w2 ⟨rfl, hb2⟩
    have q1 : ((on sum s.data.toList : Int) == (on sum s.data.toList : Int)) = true := by simp
    go_wp2_with fail
    refine (of_any a 0 cap [] w2 (HT.out.later hb2) (⟨rfl, fun h => by omega⟩) (by omega) (by simp)).mono ?_
    rintro e w3 ⟨rfl, rfl⟩
    go_wp2_with fail
    refine (refOn_any 0 ⟨#[]⟩ w2 (by omega) (by decide)).mono ?_
    rintro e w4 ⟨rfl, k⟩
    have hb4 := hb2.trans (k.mono hb2.size)
    have hz1 : on 0 (flat []) = 0 := by decide
    have hz2 : on 0 (ByteArray.mk #[]).data.toList = 0 := by decide
    rw [hz1, hz2]
    go_wp2_with fail
    refine (awake2_any w4 (HT.out.later hb4)).mono ?_
    rintro e w5 ⟨rfl, k⟩
    go_wp2_with fail
    go_ret
    exact ⟨rfl, hb4.trans (k.mono hb4.size)⟩
  · obtain ⟨b, off, rfl, hc⟩ := hsl.2 hpos
    have HC := Lib.hid hc
    have HSL := Lib.hid hsl
    clear hc hsl
    go_wp2_with fail
    go_loop [7, 26] (fun v i => ∃ (k : Nat), i = .int .i64 (k : Int) ∧ k ≤ len ∧ v = .string ⟨(flat (ss.take k)).toArray⟩) (fun _ i => len - (intOf i).toNat)
    case atStart => exact ⟨0, rfl, by omega, rfl⟩
    case round =>
      obtain ⟨k, rfl, hk, rfl⟩ := hrel
      by_cases hlt : k < len
      · have hkn : k < ss.length := by rw [HL.out]; exact hlt
        have hc := HC.out k hkn
        have hsk := HLE.out _ (List.getElem_mem hkn)
        have hfk : (flat (ss.take k)).length ≤ 2000 := by
          have h1 : bsum (ss.take k) ≤ bsum ss := by
            have e := bsum_app (ss.take k) (ss.drop k)
            rw [List.take_append_drop] at e
            omega
          rw [flat_len]; omega
        have hst : (⟨(flat (ss.take k)).toArray⟩ : ByteArray) ++ ss[k] = ⟨(flat (ss.take (k + 1))).toArray⟩ := by
          rw [List.take_succ_eq_append_getElem hkn, flat_snoc]
          exact ByteArray.mk_append_mk _ ss[k].data.toList
        have HST := Lib.hid hst
        clear hst
        go_wp2
        go_round
        case rel => exact ⟨k + 1, by go_num, by omega, by rw [HST.out]⟩
        case measure => simp [intOf]; omega
      · have hfin : ss.take k = ss := List.take_of_length_le (by rw [HL.out]; omega)
        rw [hfin]
        have hks : (ByteArray.mk (flat ss).toArray).size ≤ 2000 := by show (flat ss).toArray.size ≤ 2000; simp; rw [HFL.out]; omega
        clear hfin
        go_wp2_with fail
        refine (on_any sum s w HT.out hsum (by omega)).mono ?_
        rintro e w2 ⟨rfl, rfl⟩
        go_wp2_with fail
        refine (refOn_any sum s w hsum (by omega)).mono ?_
        rintro e w2 ⟨rfl, hb2⟩
        have q1 : ((on sum s.data.toList : Int) == (on sum s.data.toList : Int)) = true := by simp
        go_wp2_with fail
        refine (of_any (some ⟨b, off, none⟩) len cap ss w2 (HT.out.later hb2) ?_ (by omega) (fun s hs => by have := HLE.out s hs; omega)).mono ?_
        · refine ⟨HL.out, fun _ => ⟨b, off, rfl, fun k hk => ?_⟩⟩
          rw [hb2.cell (p := ⟨b, off + k, none⟩) (World.block_lt_of_cell? w _ (HC.out k hk))]
          exact HC.out k hk
        rintro e w3 ⟨rfl, rfl⟩
        go_wp2_with fail
        refine (refOn_any 0 ⟨(flat ss).toArray⟩ w2 (by omega) (by omega)).mono ?_
        rintro e w4 ⟨rfl, k⟩
        have hb4 := hb2.trans (k.mono hb2.size)
        have q2 : ((on 0 (flat ss) : Int) == (on 0 (flat ss) : Int)) = true := by simp
        go_wp2_with fail
        refine (awake2_any w4 (HT.out.later hb4)).mono ?_
        rintro e w5 ⟨rfl, k⟩
        go_wp2_with fail
        go_ret
        exact ⟨rfl, hb4.trans (k.mono hb4.size)⟩
end LCrcSums
end Go.Proofs.YtefhccegnjhhnaaDoor
