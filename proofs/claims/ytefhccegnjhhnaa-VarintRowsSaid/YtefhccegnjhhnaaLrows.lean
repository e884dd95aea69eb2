/- VarintRows: any row of numbers of 64 bits comes back from its bytes, whatever is behind, and so many numbers of any text are the document's. No condition. -/
import Derived.Test.YtefhccegnjhhnaaRows
import Derived.Test.YtefhccegnjhhnaaVawake
import Derived.Test.YtefhccegnjhhnaaVrow
import Derived.OpenShut
namespace Go.Proofs.Ytefhccegnjhhnaa.LRows
open Go.RowKit Vi

set_option maxHeartbeats 1600000 in
set_option maxRecDepth 100000 in
theorem walk (a : Option Addr) (len cap : Nat) (ns : List Nat) (s : ByteArray) (count : Int) (w : World) (hsl : Sl w a len ns) (hn : ∀ n ∈ ns, (n : Int) ≤ 18446744073709551615)
    (hlm : len ≤ maxLen) (hs : s.size ≤ maxLen) (hc0 : -9223372036854775808 ≤ count) (hc1 : count ≤ 9223372036854775807) :
    Calls Try.prog 6 #[.slice a len cap, .string s, .int .i64 count] w fun e w' => e = .returned (.bool true) ∧ Below w.heap.size w w' := by
  have hs2 := hs
  have hlm2 := hlm
  unfold maxLen at hs2 hlm2
  by_cases hb : 300 < (len : Int)
  · go_enter Try.func6, Try.ntmps6
    go_wp2_with fail
    refine (awake_any _).mono ?_
    rintro e w1 ⟨rfl, hb1⟩
    go_wp2_with fail
    go_ret
    exact ⟨rfl, hb1⟩
  by_cases hbs : 1000 < (s.size : Int)
  · go_enter Try.func6, Try.ntmps6
    go_wp2_with fail
    refine (awake_any _).mono ?_
    rintro e w1 ⟨rfl, hb1⟩
    go_wp2_with fail
    go_ret
    exact ⟨rfl, hb1⟩
  have hlen := hsl.1
  have hcl := cat_len ns
  have hcl2 : (cat ns).length ≤ 3000 := by omega
  have hd : (ByteArray.mk (cat ns).toArray ++ s).data.toList = cat ns ++ s.data.toList := by simp
  have hds : (ByteArray.mk (cat ns).toArray ++ s).size ≤ 1000000 := by
    rw [ByteArray.size_append]; show (cat ns).toArray.size + _ ≤ _; simp; omega
  have hrc := rws_cat ns s.data.toList [] 0 (fun n h => by have := hn n h; omega)
  rw [hlen, Nat.zero_add, List.nil_append] at hrc
  have HD := Lib.hid hd
  have HR := Lib.hid hrc
  have HL := Lib.hid hlen
  have HN := Lib.hid hn
  clear hd hrc hlen hn hcl
  go_enter Try.func6, Try.ntmps6
  go_wp2_with fail
  refine (row_any a len cap ns w hsl (by omega) HN.out).mono ?_
  rintro e w1 ⟨rfl, hb1⟩
  go_wp2_with fail
  refine (rows_any _ (len : Int) _ hds (by omega) (by omega)).mono ?_
  rintro e w2 h2
  rcases h2 with ⟨acc, p, v, hacc, rfl, hown, hb2⟩ | ⟨hno, _⟩
  case inr => rw [HD.out, Int.toNat_natCast, HR.out] at hno; cases hno
  rw [HD.out, Int.toNat_natCast, HR.out] at hacc
  simp only [Option.some.injEq, Prod.mk.injEq] at hacc
  obtain ⟨rfl, rfl⟩ := hacc
  obtain ⟨a2, c2, rfl, hsl2⟩ := Sl.own hown
  have hb12 : Below w.heap.size w w2 := hb1.trans (hb2.mono hb1.size)
  have hsl' := hsl.later hb12
  clear hown hb1 hb2 hds HD HR
  rw [HL.out] at *
  go_wp2_with fail
  refine (nums_any a2 len c2 ns a len cap ns w2 hsl2 hsl' (by omega) (by omega)).mono ?_
  rintro e w3 ⟨rfl, hb3⟩
  have hdec : decide (ns = ns) = true := by simp
  rw [hdec]
  have hb13 : Below w.heap.size w w3 := hb12.trans (hb3.mono hb12.size)
  clear hb12 hb3 hsl2 hsl' hdec
  have q1 : (((cat ns).length : Int) != ((cat ns).length : Int)) = false := by simp
  go_wp2_with fail
  refine (rows_any s count _ (by omega) hc0 hc1).mono ?_
  rintro e w4 h4
  rcases h4 with ⟨acc, p, v, hacc, rfl, hown, hb4⟩ | ⟨hno, rfl, hb4⟩
  · obtain ⟨a4, c4, rfl, hsl4⟩ := Sl.own hown
    clear hown
    go_wp2_with fail
    refine (refRows_any s count _ (by omega) hc0 hc1).mono ?_
    rintro e w5 h5
    rcases h5 with ⟨acc5, p5, v5, hacc5, rfl, hown5, hb5⟩ | ⟨hno5, _⟩
    case inr => rw [hno5] at hacc; cases hacc
    rw [hacc] at hacc5
    simp only [Option.some.injEq, Prod.mk.injEq] at hacc5
    obtain ⟨rfl, rfl⟩ := hacc5
    obtain ⟨a5, c5, rfl, hsl5⟩ := Sl.own hown5
    have hal := rws_len _ _ _ _ _ _ hacc
    have hal2 : acc.length ≤ 1000 := by simp at hal; omega
    have hsl4' := hsl4.later hb5
    have hb15 : Below w.heap.size w w5 := (hb13.trans (hb4.mono hb13.size)).trans (hb5.mono (by have := hb13.size; have := hb4.size; omega))
    clear hown5 hal hsl4 hb4 hb5 hb13 hacc
    go_wp2_with fail
    refine (nums_any a4 _ c4 acc a5 _ c5 acc w5 hsl4' hsl5 (by omega) (by omega)).mono ?_
    rintro e w6 ⟨rfl, hb6⟩
    have hdec : decide (acc = acc) = true := by simp
    rw [hdec]
    have hb16 : Below w.heap.size w w6 := hb15.trans (hb6.mono hb15.size)
    clear hdec hsl4' hsl5 hb6 hb15
    have q2 : ((p : Int) == (p : Int)) = true := by simp
    go_wp2_with fail
    refine (awake_any _).mono ?_
    rintro e w7 ⟨rfl, hb7⟩
    go_wp2_with fail
    go_ret
    exact ⟨rfl, hb16.trans (hb7.mono hb16.size)⟩
  · go_wp2_with fail
    refine (refRows_any s count _ (by omega) hc0 hc1).mono ?_
    rintro e w5 h5
    rcases h5 with ⟨acc5, p5, v5, hacc5, rfl, hown5, hb5⟩ | ⟨hno5, rfl, hb5⟩
    case inl => rw [hno] at hacc5; cases hacc5
    have hb15 : Below w.heap.size w w5 := (hb13.trans (hb4.mono hb13.size)).trans (hb5.mono (by have := hb13.size; have := hb4.size; omega))
    clear hb4 hb5 hb13 hno hno5
    go_wp2_with fail
    refine (nums_any none 0 0 [] none 0 0 [] w5 ⟨rfl, fun h => by omega⟩ ⟨rfl, fun h => by omega⟩ (by omega) (by omega)).mono ?_
    rintro e w6 ⟨rfl, hb6⟩
    have hdec : decide (([] : List Nat) = []) = true := by simp
    rw [hdec]
    have hb16 : Below w.heap.size w w6 := hb15.trans (hb6.mono hb15.size)
    clear hdec hb6 hb15
    go_wp2_with fail
    refine (awake_any _).mono ?_
    rintro e w7 ⟨rfl, hb7⟩
    go_wp2_with fail
    go_ret
    exact ⟨rfl, hb16.trans (hb7.mono hb16.size)⟩

theorem sl_of_row (x : Addr) (len cap : Nat) (zs : List Int) (w : World) (hl : len ≤ cap) (hz : zs.length = cap)
    (hcell : ∀ i, i < zs.length → w.cell? (x.add i) = some (.int .u64 (zs.getD i 0))) (hwz : ∀ n ∈ zs, (Lit.int .u64 n).wf = true) :
    ∃ ns, Sl w (some x) len ns ∧ ∀ n ∈ ns, (n : Int) ≤ 18446744073709551615 := by
  refine ⟨(zs.take len).map Int.toNat, ⟨by simp; omega, fun hp => ?_⟩, ?_⟩
  · obtain ⟨b, off, spot⟩ := x
    have h0 := hcell 0 (by omega)
    have hspot : spot = none := by simpa [Addr.add] using World.cell?_spot h0
    subst hspot
    refine ⟨b, off, rfl, fun k hk => ?_⟩
    have hk2 : k < zs.length := by simp at hk; omega
    have hc := hcell k hk2
    have hb := bounds_u64 (hwz _ (List.getElem_mem hk2))
    rw [Addr.add_lit] at hc
    rw [hc]
    simp [List.getElem?_eq_getElem hk2]
    omega
  · intro n hn
    simp only [List.mem_map] at hn
    obtain ⟨z, hz1, rfl⟩ := hn
    have hb := bounds_u64 (hwz z (List.mem_of_mem_take hz1))
    omega
end Go.Proofs.Ytefhccegnjhhnaa.LRows
