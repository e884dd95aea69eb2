/- Contracts of varint.Row and of the verifier's own comparison of two rows over this translation. Conditions: rows of at most ten thousand numbers of 64 bits. -/
import Derived.Test.YtefhccegnjhhnaaVrows
import Derived.Deep.QuietTactic
import Derived.BigQuiet
namespace Go.Proofs.Ytefhccegnjhhnaa
open Go.RowKit Vi

/-- a slice that reads as these numbers -/
def Sl (w : World) (a : Option Addr) (len : Nat) (ns : List Nat) : Prop :=
  ns.length = len ∧ (0 < len → ∃ b off, a = some ⟨b, off, none⟩ ∧ ∀ k (_ : k < ns.length), w.cell? ⟨b, off + k, none⟩ = some (.int .u64 (ns[k] : Int)))

theorem Sl.later {w w' : World} {a : Option Addr} {len : Nat} {ns : List Nat} (h : Sl w a len ns) (hb : Below w.heap.size w w') : Sl w' a len ns := by
  refine ⟨h.1, fun hp => ?_⟩
  obtain ⟨b, off, ha, hc⟩ := h.2 hp
  refine ⟨b, off, ha, fun k hk => ?_⟩
  rw [hb.cell (p := ⟨b, off + k, none⟩) (World.block_lt_of_cell? w _ (hc k hk))]
  exact hc k hk
theorem Sl.own {w : World} {B : Nat} {v : Value} {ns : List Nat} (h : w.ownsRow B 22 1 v ns.length (ns.map nv)) : ∃ a c, v = .slice a ns.length c ∧ Sl w a ns.length ns := by
  have h0 := h
  rcases h.2 with ⟨rfl, he⟩ | ⟨g, cap, cur, rfl, hg, hh, hnc, hcp, hcs, htake⟩
  · have : ns = [] := List.length_eq_zero_iff.1 he
    subst this
    exact ⟨none, 0, rfl, rfl, fun h => by simp at h⟩
  · refine ⟨some ⟨g, 0, none⟩, cap, rfl, rfl, fun _ => ⟨g, 0, rfl, fun k hk => ?_⟩⟩
    rw [Nat.zero_add, h0.cellAt k (by omega)]
    simp [nv, hk]

set_option maxHeartbeats 800000 in
set_option maxRecDepth 100000 in
theorem row_any (a : Option Addr) (len cap : Nat) (ns : List Nat) (w : World) (hsl : Sl w a len ns) (hle : len ≤ 10000) (hn : ∀ n ∈ ns, (n : Int) ≤ 18446744073709551615) :
    Calls Try.prog 21 #[.slice a len cap] w fun e w' => e = .returned (.string ⟨(cat ns).toArray⟩) ∧ Below w.heap.size w w' := by
  obtain ⟨hlen, hcl⟩ := hsl
  rcases Nat.eq_zero_or_pos len with h0 | hpos
  · subst h0
    have : ns = [] := List.length_eq_zero_iff.1 hlen
    subst this
    clear hcl hn hlen
    have hcv := run_convert_bytes_nil (w := w) 54 5 Try.underlying54 Try.underlying5 0 0 9 Try.underlying9
    go_enter Try.func21, Try.ntmps21
    go_wp2
    refine wp_loop_rounds 1 ?_
    rw [rounds_succ]
    go_wp2
    go_ret
    exact ⟨rfl, Below.refl _ _⟩
  · obtain ⟨b, off, rfl, hc⟩ := hcl hpos
    have HC := Lib.hid hc
    have HN := Lib.hid hn
    have HL := Lib.hid hlen
    have hbl := World.block_lt_of_cell? w _ (hc 0 (by omega))
    have hbl' : b < w.heap.size := hbl
    clear hc hn hlen hcl hbl
    go_enter Try.func21, Try.ntmps21
    go_wp2
    go_loopw [3, 8] (fun v i wr => ∃ (k : Nat), i = .int .i64 (k : Int) ∧ k ≤ len ∧ wr.ownsRow w.heap.size 5 1 v (cat (ns.take k)).length ((cat (ns.take k)).map bv) ∧ Below w.heap.size w wr) (fun _ i _ => len - (intOf i).toNat)
    case atStart => exact ⟨0, rfl, by omega, World.ownsRow_nil _ _ _ _, Below.refl _ _⟩
    case round =>
      obtain ⟨k, rfl, hk, hown, hb⟩ := hrel
      have hsz := hb.size
      by_cases hlt : k < len
      · have hkn : k < ns.length := by rw [HL.out]; exact hlt
        have hc := (hb.cell (p := ⟨b, off + k, none⟩) hbl').trans (HC.out k hkn)
        have hnk := HN.out _ (List.getElem_mem hkn)
        have hcl := cat_len (ns.take k)
        have htl : (ns.take k).length ≤ k := List.length_take_le _ _
        go_wp2_with fail
        refine (grow_any w.heap.size _ (cat (ns.take k)) ns[k] wr hnk (by omega) hsz hown).mono ?_
        rintro e w1 ⟨v', rfl, hown1, hb1⟩
        have hst : cat (ns.take k) ++ put ns[k] = cat (ns.take (k + 1)) := by
          rw [List.take_succ_eq_append_getElem hkn, cat_snoc]
        rw [hst] at hown1
        have hb2 := hb.trans hb1
        clear hown hb hb1 hst hc hcl htl
        go_wp2
        go_roundw
        case rel => exact ⟨k + 1, by go_num, by omega, hown1, hb2⟩
        case measure => simp [intOf]; omega
      · have hfin : ns.take k = ns := List.take_of_length_le (by rw [HL.out]; omega)
        rw [hfin] at hown
        have hcv := conv_own hown
        clear hown hfin
        go_wp2
        go_ret
        exact ⟨rfl, hb⟩

theorem eq_of_at : ∀ (xs ys : List Nat), xs.length = ys.length → (∀ k (h : k < xs.length) (h' : k < ys.length), xs[k] = ys[k]) → xs = ys :=
  fun _ _ h1 h2 => List.ext_getElem h1 h2

set_option maxHeartbeats 800000 in
set_option maxRecDepth 100000 in
theorem nums_any (a : Option Addr) (la ca : Nat) (xs : List Nat) (b : Option Addr) (lb cb : Nat) (ys : List Nat) (w : World) (ha : Sl w a la xs) (hb : Sl w b lb ys) (hle : la ≤ 1000000) (hle2 : lb ≤ 1000000) :
    Calls Try.prog 23 #[.slice a la ca, .slice b lb cb] w fun e w' => e = .returned (.bool (decide (xs = ys))) ∧ Below w.heap.size w w' := by
  obtain ⟨hxl, hxc⟩ := ha
  obtain ⟨hyl, hyc⟩ := hb
  by_cases hll : la = lb
  · subst hll
    have hq : ((la : Int) != la) = false := by simp
    rcases Nat.eq_zero_or_pos la with h0 | hpos
    · subst h0
      have e1 : xs = [] := List.length_eq_zero_iff.1 hxl
      have e2 : ys = [] := List.length_eq_zero_iff.1 hyl
      subst e1 e2
      clear hxc hyc hxl hyl
      go_enter Try.func23, Try.ntmps23
      go_wp2
      refine wp_loop_rounds 1 ?_
      rw [rounds_succ]
      go_wp2
      go_ret
      exact ⟨rfl, Below.refl _ _⟩
    · obtain ⟨b1, o1, rfl, hc1⟩ := hxc hpos
      obtain ⟨b2, o2, rfl, hc2⟩ := hyc hpos
      have HC1 := Lib.hid hc1
      have HC2 := Lib.hid hc2
      have HX := Lib.hid hxl
      have HY := Lib.hid hyl
      have hb1 : b1 < w.heap.size := World.block_lt_of_cell? w _ (hc1 0 (by omega))
      have hb2 : b2 < w.heap.size := World.block_lt_of_cell? w _ (hc2 0 (by omega))
      clear hc1 hc2 hxl hyl hxc hyc
      go_enter Try.func23, Try.ntmps23
      go_wp2
      go_loopw [13] (fun i wr => ∃ (k : Nat), i = .int .i64 (k : Int) ∧ k ≤ la ∧ (∀ j (h : j < xs.length) (h' : j < ys.length), j < k → xs[j] = ys[j]) ∧ Below w.heap.size w wr) (fun i _ => la - (intOf i).toNat)
      case atStart => exact ⟨0, rfl, by omega, fun _ _ _ h => by omega, Below.refl _ _⟩
      case round =>
        obtain ⟨k, rfl, hk, hall, hbw⟩ := hrel
        have HA := Lib.hid hall
        clear hall
        by_cases hlt : k < la
        · have hkx : k < xs.length := by rw [HX.out]; exact hlt
          have hky : k < ys.length := by rw [HY.out]; exact hlt
          have hc1 := (hbw.cell (p := ⟨b1, o1 + k, none⟩) hb1).trans (HC1.out k hkx)
          have hc2 := (hbw.cell (p := ⟨b2, o2 + k, none⟩) hb2).trans (HC2.out k hky)
          by_cases he : xs[k] = ys[k]
          · have ht : (((xs[k] : Nat) : Int) != ((ys[k] : Nat) : Int)) = false := by simp [he]
            have ht2 : (((xs[k] : Nat) : Int) == ((ys[k] : Nat) : Int)) = true := by simp [he]
            have HE := Lib.hid he
            clear he
            go_wp2
            go_quiet (fail)
            all_goals
              go_wp2
              go_roundw
              case rel => exact ⟨k + 1, by go_num, by omega, fun j h h' hj => by
                  by_cases hjk : j = k
                  · subst hjk; exact HE.out
                  · exact HA.out j h h' (by omega), by first | exact hbw | exact hbw.drew | exact hbw.drew.drew | exact below_drewN hbw _⟩
              case measure => simp [intOf]; omega
          · have ht : (((xs[k] : Nat) : Int) != ((ys[k] : Nat) : Int)) = true := by simp; omega
            have ht2 : (((xs[k] : Nat) : Int) == ((ys[k] : Nat) : Int)) = false := by simp; omega
            have hne : xs ≠ ys := fun h => he (by simp [h])
            have HE := Lib.hid hne
            clear he hne
            go_wp2
            go_quiet (fail)
            all_goals
              go_wp2
              go_ret
              exact ⟨by rw [decide_eq_false HE.out]; rfl, by first | exact hbw | exact hbw.drew | exact hbw.drew.drew | exact below_drewN hbw _⟩
        · have hfin : xs = ys := eq_of_at _ _ (by rw [HX.out, HY.out]) (fun j h h' => HA.out j h h' (by have := HX.out; omega))
          have HF := Lib.hid hfin
          clear hfin
          go_wp2
          go_ret
          exact ⟨by rw [decide_eq_true HF.out]; rfl, hbw⟩
  · have hq : ((la : Int) != lb) = true := by simp; omega
    have hq2 : ((la : Int) == lb) = false := by simp; omega
    have hne : xs ≠ ys := fun h => hll (by rw [← hxl, ← hyl, h])
    have HE := Lib.hid hne
    clear hne hll hxl hyl hxc hyc
    go_enter Try.func23, Try.ntmps23
    go_wp2
    go_ret
    exact ⟨by rw [decide_eq_false HE.out]; rfl, Below.refl _ _⟩
end Go.Proofs.Ytefhccegnjhhnaa
