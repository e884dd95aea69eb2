/- Contracts of the statements' Bytes and few over rows of texts; NameChecks. -/
import Derived.Test.YtdjjabjegmbmaaaNw
namespace Go.Proofs.Ytdjjabjegmbmaaa
open Go.RowKit

def nsum (ss : List ByteArray) : Nat := (ss.map (·.size)).sum
theorem nsum_app (a b : List ByteArray) : nsum (a ++ b) = nsum a + nsum b := by
  simp only [nsum, List.map_append, List.sum_append]
theorem nsum_take (ss : List ByteArray) (k : Nat) (h : k < ss.length) : nsum (ss.take (k + 1)) = nsum (ss.take k) + ss[k].size := by
  rw [List.take_succ_eq_append_getElem h]; simp only [nsum, List.map_append, List.sum_append, List.map_cons, List.map_nil, List.sum_cons, List.sum_nil]; omega
theorem nsum_le (ss : List ByteArray) : ∀ s ∈ ss, s.size ≤ nsum ss := by
  intro s hs
  induction ss with
  | nil => cases hs
  | cons a r ih =>
    simp only [nsum, List.map_cons, List.sum_cons] at ih ⊢
    rcases List.mem_cons.1 hs with rfl | hs
    · omega
    · have := ih hs; omega
set_option maxHeartbeats 800000 in
set_option maxRecDepth 100000 in
theorem nbytes_any (a : Option Addr) (len cap : Nat) (ss : List ByteArray) (w : World) (hsl : SlN w a len ss) (hle : len ≤ 1000) (hs : ∀ s ∈ ss, s.size ≤ maxLen) :
    Calls Try.prog 86 #[.slice a len cap] w fun e w' => (∃ r : Nat, e = .returned (.int .i64 (r : Int)) ∧ (r < 1000000 → nsum ss = r)) ∧ w = w' := by
  obtain ⟨hlen, hcl⟩ := hsl
  rcases Nat.eq_zero_or_pos len with h0 | hpos
  · subst h0
    have : ss = [] := List.length_eq_zero_iff.1 hlen
    subst this
    clear hcl hs hlen
    go_enter Try.func86, Try.ntmps86
    go_wp2
    refine wp_loop_rounds 1 ?_
    rw [rounds_succ]
    go_wp2
    go_ret
    exact ⟨⟨0, rfl, fun _ => rfl⟩, rfl⟩
  · obtain ⟨b, off, rfl, hc⟩ := hcl hpos
    have HC := Lib.hid hc
    have HN := Lib.hid hs
    have HL := Lib.hid hlen
    clear hc hs hlen hcl
    go_enter Try.func86, Try.ntmps86
    go_wp2
    go_loop [3, 8] (fun v i => ∃ (k r : Nat), i = .int .i64 (k : Int) ∧ k ≤ len ∧ v = .int .i64 (r : Int) ∧ r < 1000000 ∧ nsum (ss.take k) = r) (fun _ i => len - (intOf i).toNat)
    case atStart => exact ⟨0, 0, rfl, by omega, rfl, by omega, by rw [List.take_zero]; rfl⟩
    case round =>
      obtain ⟨k, r, rfl, hk, rfl, hr, hrs⟩ := hrel
      have HR := Lib.hid hrs
      clear hrs
      by_cases hlt : k < len
      · have hkn : k < ss.length := by rw [HL.out]; exact hlt
        have hc := HC.out k hkn
        have hsk := HN.out _ (List.getElem_mem hkn)
        unfold maxLen at hsk
        have hst := nsum_take ss k hkn
        rw [HR.out] at hst
        have HST := Lib.hid hst
        clear hst
        by_cases hbig : 1000000 < (ss[k].size : Int)
        · have hf : (1000000 : Int) ≤ (r : Int) + 1000000 := by omega
          have hf2 : decide ((1000000 : Int) ≤ (r : Int) + 1000000) = true := decide_eq_true hf
          have hf3 : (1000000 : Nat) ≤ r + 1000000 := by omega
          go_wp2_with fail
          go_ret
          exact ⟨⟨r + 1000000, ret_n (by omega), fun h => by omega⟩, rfl⟩
        · by_cases hsum : 1000000 ≤ (r : Int) + ss[k].size
          · go_wp2
            all_goals go_ret
            all_goals exact ⟨⟨r + ss[k].size, ret_n (by omega), fun h => by omega⟩, rfl⟩
          · go_wp2
            all_goals go_round
            all_goals first
              | (case rel => exact ⟨k + 1, r + ss[k].size, by go_num, by omega, by first | rfl | go_num | (congr 2; omega), by omega, HST.out⟩)
              | skip
            all_goals first
              | (case measure => simp [intOf]; omega)
              | skip
      · have hfin : ss.take k = ss := List.take_of_length_le (by rw [HL.out]; omega)
        have hst : nsum ss = r := by rw [← HR.out, hfin]
        have HST := Lib.hid hst
        clear hst hfin
        go_wp2
        go_ret
        exact ⟨⟨r, rfl, fun _ => HST.out⟩, rfl⟩


/-- few, or not -/
def FewIs (w : World) (e : Ending) (w' : World) : Prop := ∃ b : Bool, e = .returned (.bool b) ∧ w = w'
end Go.Proofs.Ytdjjabjegmbmaaa
