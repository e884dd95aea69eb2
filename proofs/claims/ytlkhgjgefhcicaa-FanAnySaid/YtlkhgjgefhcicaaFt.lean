/- The contract of (fan.Fan).Find whatever the fan says. -/
import Derived.Test.YtlkhgjgefhcicaaFs
namespace Go.Proofs.Ytlkhgjgefhcicaa
open Go.RowKit

set_option maxRecDepth 100000 in
set_option maxHeartbeats 800000 in
theorem span_int (cs : Array Value) (p : Nat) (x y : Int) (w : World) (hp : p < 16) (hy : cs[p]? = some (.int .i64 y)) (hx : (p = 0 ∧ x = 0) ∨ (0 < p ∧ cs[p - 1]? = some (.int .i64 x))) :
    Calls Try.prog 33 #[.agg cs, .int .i64 (p : Int)] w fun e w' => e = .returned (.tuple #[.int .i64 x, .int .i64 y]) ∧ Below w.heap.size w w' := by
  have cy : (w.alloc (.cells cs 38)).cell? ⟨w.heap.size, p, none⟩ = some (.int .i64 y) := by
    rw [cell_of_row _ _ _ _ _ _ (MapKept.heap_alloc w (.cells cs 38)).1]
    exact hy
  have hp0 : 0 ≤ (p : Int) := by omega
  have hp1 : (p : Int) < 16 := by omega
  rcases hx with ⟨rfl, rfl⟩ | ⟨h0, hx⟩
  · clear hy
    go_enter Try.func33, Try.ntmps33
    go_wp2_with fail
    go_quiet (fail)
    go_wp2
    go_ret2
    exact ⟨rfl, bel_drewN2 ((Below.refl _ w).alloc (Nat.le_refl _) _) _⟩
  · obtain ⟨m, rfl⟩ : ∃ m, p = m + 1 := ⟨p - 1, by omega⟩
    rw [Nat.add_sub_cancel] at hx
    have cx : (w.alloc (.cells cs 38)).cell? ⟨w.heap.size, m, none⟩ = some (.int .i64 x) := by
      rw [cell_of_row _ _ _ _ _ _ (MapKept.heap_alloc w (.cells cs 38)).1]
      exact hx
    have m0 : 0 ≤ (m : Int) := by omega
    have m1 : (m : Int) < 16 := by omega
    clear hy hx
    go_enter Try.func33, Try.ntmps33
    go_wp2_with fail
    go_quiet (fail)
    go_wp2
    go_ret2
    exact ⟨rfl, bel_drewN2 ((Below.refl _ w).alloc (Nat.le_refl _) _) _⟩

/-- what Find may answer -/
def RetF (w : World) (ss : List ByteArray) (x : ByteArray) (e : Ending) (w' : World) : Prop :=
  (e = .returned (.tuple #[.int .i64 0, .bool false]) ∨ (inB ss x = true ∧ e = .returned (.tuple #[.int .i64 (lessN ss x : Int), .bool true]))) ∧ Below w.heap.size w w'
theorem mid_at {ss : List ByteArray} {x : ByteArray} (f n : Nat) (hr : Rise ss) (hx : inB ((ss.drop f).take n) x = true) (hs : Rise ((ss.drop f).take n)) : inB ss x = true ∧ f + lessN ((ss.drop f).take n) x = lessN ss x := by
  have hm := mem_in.1 hx
  obtain ⟨i, hi, e⟩ := List.getElem_of_mem hm
  have hk := cut_idx hs i hi e
  have e2 : ((ss.drop f).take n)[i]? = some x := by rw [List.getElem?_eq_getElem hi, e]
  have hin : i < n := by rw [List.length_take] at hi; omega
  rw [List.getElem?_take, if_pos hin, List.getElem?_drop] at e2
  obtain ⟨h1, h2⟩ := List.getElem?_eq_some_iff.1 e2
  exact ⟨mem_in.2 (List.mem_of_mem_drop (List.mem_of_mem_take hm)), by rw [← hk]; exact cut_idx hr (f + i) h1 h2⟩

set_option maxRecDepth 100000 in
set_option maxHeartbeats 3200000 in
theorem find_int (cs : List Value) (fs : List Int) (hcs : cs = fs.map (Value.int .i64)) (hfl : fs.length = 16) (hwf : ∀ n ∈ fs, (Lit.int .i64 n).wf = true) (a : Option Addr) (len cap : Nat) (ss : List ByteArray) (x : ByteArray) (w : World) (hsl : SlN w a len ss) (hlm : len ≤ 100000) (hlc : len ≤ cap) (hr : Rise ss) :
    Calls Try.prog 35 #[.agg cs.toArray, .slice a len cap, .string x] w (RetF w ss x) := by
  have hcl : cs.length = 16 := by rw [hcs, List.length_map, hfl]
  have hone : ∀ v ∈ cs, v.oneCell' = true := by
    intro v hv
    rw [hcs] at hv
    obtain ⟨x, _, rfl⟩ := List.mem_map.1 hv
    rfl
  have hat : ∀ j, (h : j < 16) → ∃ n : Int, cs.toArray[j]? = some (.int .i64 n) ∧ -9223372036854775808 ≤ n ∧ n ≤ 9223372036854775807 := by
    intro j h
    refine ⟨fs[j]'(by omega), ?_, ?_⟩
    · rw [hcs, List.getElem?_toArray, List.getElem?_map, List.getElem?_eq_getElem (by omega)]
      rfl
    · have := hwf _ (List.getElem_mem (by omega : j < fs.length))
      simpa [Lit.wf, IntKind.min, IntKind.max, IntKind.bits, IntKind.signed] using this
  clear hcs
  by_cases h32 : x.size = 32
  · have hx0 : 0 < x.size := by omega
    have HX := Lib.hid h32
    obtain ⟨p, hp⟩ : ∃ p, p = prt x := ⟨_, rfl⟩
    have hp16 : p < 16 := by rw [hp]; exact prt_lt x
    have HP := Lib.hid hp
    obtain ⟨t, hy, t0, t1⟩ := hat p hp16
    obtain ⟨f, hf, f0, f1⟩ : ∃ f : Int, ((p = 0 ∧ f = 0) ∨ (0 < p ∧ cs.toArray[p - 1]? = some (.int .i64 f))) ∧ -9223372036854775808 ≤ f ∧ f ≤ 9223372036854775807 := by
      rcases Nat.eq_zero_or_pos p with h0 | h0
      · exact ⟨0, .inl ⟨h0, rfl⟩, by omega, by omega⟩
      · obtain ⟨f, h1, h2, h3⟩ := hat (p - 1) (by omega)
        exact ⟨f, .inr ⟨h0, h1⟩, h2, h3⟩
    have HSP := Lib.hid (fun W => span_int cs.toArray p f t W hp16 hy hf)
    have HS := Lib.hid hsl
    have HR := Lib.hid hr
    have hu := Try.underlying38
    have hi : (Try.prog.info? 38).map (·.size) = some cs.length := by rw [hcl]; kernel_rfl
    have R0 := range_new w cs 38
    have HB1 := Lib.hid (show Below w.heap.size w (w.alloc (.cells cs.toArray 38)).drew from ((Below.refl _ w).alloc (Nat.le_refl _) _).drew)
    have l3 : (len : Int) ≤ 100000 := by omega
    clear hy hf hp h32 hsl hr hat hwf hfl
    by_cases c1 : f < 0
    rotate_left
    by_cases c2 : t < f
    rotate_left
    by_cases c3 : (len : Int) < t
    rotate_left
    · obtain ⟨F, rfl⟩ : ∃ F : Nat, f = (F : Int) := ⟨f.toNat, by omega⟩
      obtain ⟨T, rfl⟩ : ∃ T : Nat, t = (T : Int) := ⟨t.toNat, by omega⟩
      have hft : F ≤ T := by omega
      have htl : T ≤ len := by omega
      have HSM := Lib.hid (HS.out.mid cap F T hft htl hlc)
      have HRP := Lib.hid (show Rise ((ss.drop F).take (T - F)) from List.Pairwise.sublist (List.Sublist.trans (List.take_sublist _ _) (List.drop_sublist _ _)) HR.out)
      have HPY := Lib.hid (fun h => mid_at (x := x) F (T - F) HR.out h HRP.out)
      have e1 := slice_mid a len cap F T hft (by omega)
      obtain ⟨k, hk⟩ : ∃ k, k = lessN ((ss.drop F).take (T - F)) x := ⟨_, rfl⟩
      have hkb : (k : Int) ≤ 100000 := by
        have h1 := lessN_le ((ss.drop F).take (T - F)) x
        rw [List.length_take, ← hk] at h1
        omega
      obtain ⟨sub, hsub⟩ : ∃ sub, sub = (ss.drop F).take (T - F) := ⟨_, rfl⟩
      rw [← hsub] at HSM HRP HPY hk
      have HKK := Lib.hid hk
      clear hk hsub f0 f1 t0 t1
      cases hq : inB sub x
      all_goals
        have HQ := Lib.hid hq
        clear hq
        go_enter Try.func35, Try.ntmps35
        go_wp2_with fail
        refine (isSum_yes x _ HX.out).mono ?_
        rintro e w' ⟨rfl, rfl⟩
        go_wp2_with fail
        go_region_held3 (fun w' => w'.rangeAt w.heap.size 0 cs) (first | go_keep_ranges | exact R0 | exact hk2) (first
          | (go_at_call 51; refine (partOf_any x _ hx0).mono ?_; rintro e w' ⟨rfl, rfl⟩; rw [← HP.out])
          | (go_at_call 33; refine (HSP.out _).mono ?_; rintro e w2 ⟨rfl, hb2⟩; have hk2 := range_later R0 hb2))
        all_goals
          go_wp2_with fail
          refine (bsearch_any (cutA a cap F) (T - F) (cap - F) sub x (lessN sub x) _ (HSM.out.later (HB1.out.trans (hb2.mono HB1.out.size))) (by omega) (cut_of _ x HRP.out)).mono ?_
          rintro e w' ⟨rfl, rfl⟩
          rw [in_met HRP.out, HQ.out, ← HKK.out]
          go_wp2
          go_ret2
          first
          | exact ⟨Or.inl rfl, HB1.out.trans (hb2.mono HB1.out.size)⟩
          | exact ⟨Or.inr ⟨(HPY.out HQ.out).1, by rw [← (HPY.out HQ.out).2, ← HKK.out, Int.natCast_add]; rfl⟩, HB1.out.trans (hb2.mono HB1.out.size)⟩
    all_goals
      go_enter Try.func35, Try.ntmps35
      go_wp2_with fail
      refine (isSum_yes x _ HX.out).mono ?_
      rintro e w' ⟨rfl, rfl⟩
      go_wp2_with fail
      go_region_held3 (fun w' => w'.rangeAt w.heap.size 0 cs) (first | go_keep_ranges | exact R0 | exact hk2) (first
        | (go_at_call 51; refine (partOf_any x _ hx0).mono ?_; rintro e w' ⟨rfl, rfl⟩; rw [← HP.out])
        | (go_at_call 33; refine (HSP.out _).mono ?_; rintro e w2 ⟨rfl, hb2⟩; have hk2 := range_later R0 hb2))
      all_goals
        go_wp2
        go_ret2
        exact ⟨Or.inl rfl, HB1.out.trans (hb2.mono HB1.out.size)⟩
  · have HX := Lib.hid h32
    clear hsl hr h32 hat hwf hfl
    go_enter Try.func35, Try.ntmps35
    go_wp2_with fail
    refine (isSum_no x _ HX.out).mono ?_
    rintro e w' ⟨rfl, rfl⟩
    go_wp2
    go_ret2
    exact ⟨Or.inl rfl, (Below.refl _ w).alloc (Nat.le_refl _) _⟩
end Go.Proofs.Ytlkhgjgefhcicaa
