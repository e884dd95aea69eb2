/- few and awake of layer 25; what came in as a node, an edge. Conditions: texts that are no longer than a text may be. -/
import Derived.Test.YtdjjabjegmbmaaaAe
import Derived.Test.YtdjjabjegmbmaaaSh
import Derived.Test.YtdjjabjegmbmaaaNy
import Derived.IntWalk
namespace Go.Proofs.Ytdjjabjegmbmaaa
open Go.RowKit Vi

theorem sln_of {w : World} {A : Option Addr} {n : Nat} {l : List ByteArray} (h : RdX (Sh.cells .str) 1 w A n l) : SlN w A n l :=
  ⟨h.1, fun hp => by
    obtain ⟨b, off, e, _, hc⟩ := h.2 hp
    refine ⟨b, off, e, fun i hi => ?_⟩
    have := hc i l[i] 0 (.string l[i]) (List.getElem?_eq_getElem hi) rfl
    rwa [Nat.mul_one, Nat.add_zero] at this⟩
abbrev ShP : Sh := .pair .str (.pair (.int .i64) (.pair (.int .i64) .str))
theorem prC_sh : Sh.cells ShP = prC := rfl
theorem wf_bd {n : Int} (h : (Lit.int .i64 n).wf = true) : -9223372036854775808 ≤ n ∧ n ≤ 9223372036854775807 := by simpa [Lit.wf, IntKind.min, IntKind.max, IntKind.bits, IntKind.signed] using h
theorem okP_sh {w : World} {p : Pr} (h : Sh.Ok w ShP p) : p.1.size ≤ maxLen ∧ (Lit.int .i64 p.2.1).wf = true ∧ (Lit.int .i64 p.2.2.1).wf = true ∧ p.2.2.2.size ≤ maxLen := h
theorem lp_of {w : World} (x : SlX ByteArray) (y : SlX Pr) (h : Sh.Ok w (.slice .str) x) (k : Sh.Ok w (.slice ShP) y) : LP w x.a x.n x.l y.a y.n y.l ∧ LOk x.n x.l y.n y.l ∧ IntsOk y.l := by
  obtain ⟨h1, h2, h3, h4⟩ := h
  obtain ⟨k1, k2, k3, k4⟩ := k
  refine ⟨⟨sln_of h1, ?_⟩, ⟨Nat.le_trans h2 h3, Nat.le_trans k2 k3, fun s hs => h4 s hs, fun p hp => (okP_sh (k4 p hp)).1⟩, fun p hp => wf_bd (okP_sh (k4 p hp)).2.2.1⟩
  exact k1
def FewE (n n2 : Nat) (w : World) (e : Ending) (w' : World) : Prop := ∃ b : Bool, e = .returned (.bool b) ∧ (b = true → n ≤ 20 ∧ n2 ≤ 20) ∧ Below w.heap.size w w'
set_option maxRecDepth 100000 in
set_option maxHeartbeats 4000000 in
theorem few25_any (A A2 : Option Addr) (n c n2 c2 : Nat) (ss : List ByteArray) (ps : List Pr) (w : World) (h : LP w A n ss A2 n2 ps) (k : LOk n ss n2 ps) :
    Calls Try.prog 24 #[.slice A n c, .slice A2 n2 c2] w (FewE n n2 w) := by
  have H := Lib.hid h
  have hm := k.n
  have hm2 := k.n2
  unfold maxLen at hm hm2
  have KS := Lib.hid k.s
  clear h k
  have HB1 := Lib.hid (Below.refl w.heap.size w)
  go_enter Try.func24, Try.ntmps24
  go_wp2_with fail
  go_loopw [5, 6] (fun s i wr => ∃ k m : Nat, s = .int .i64 (m : Int) ∧ i = .int .i64 (k : Int) ∧ k ≤ n2 ∧ k ≤ 21 ∧ m ≤ 20000 * k ∧ Below w.heap.size w wr) (fun _ i _ => n2 - (intOf i).toNat)
  case atStart => exact ⟨0, 0, rfl, rfl, Nat.zero_le _, by omega, by omega, HB1.out⟩
  case round =>
    obtain ⟨k, m, rfl, rfl, hk, hk1, hmm, hb⟩ := hrel
    have HB := Lib.hid hb
    clear hb
    by_cases hlt : k < n2 ∧ k ≤ 20
    · obtain ⟨hlt, h20⟩ := hlt
      have hd1 : decide ((k : Int) < (n2 : Int)) = true := decide_eq_true (by omega)
      have hd2 : decide ((k : Int) ≤ 20) = true := decide_eq_true (by omega)
      obtain ⟨b, off, hl, rfl, hbb, _⟩ := (H.out.p.below HB.out).at hlt
      obtain ⟨x, hx⟩ : ∃ x, ps[k] = x := ⟨_, rfl⟩
      have HX := Lib.hid (show ps[k]? = some x by rw [List.getElem?_eq_getElem hl, hx])
      obtain ⟨s, a, d, v⟩ := x
      have hi0 : (0 : Int) ≤ (k : Int) := by omega
      clear hx
      by_cases hs1 : (10000 : Int) < (s.size : Int)
      · by_cases hs2 : (10000 : Int) < (v.size : Int)
        · have hw1 : IntKind.i64.wrap (10000 + 10000) = 10000 + 10000 := IntWalk.i64_in _ (by omega)
          have hw2 : IntKind.i64.wrap ((m : Int) + (10000 + 10000)) = (m : Int) + (10000 + 10000) := IntWalk.i64_in _ (by omega)
          have hc101 : wr.cell? ⟨b, off + k * 4, none⟩ = some (.string s) := (H.out.p.below HB.out).cellAt HX.out hlt 0 _ rfl
          have hc102 : wr.cell? ⟨b, off + k * 4 + 3, none⟩ = some (.string v) := (H.out.p.below HB.out).cellAt HX.out hlt 3 _ rfl
          go_wp2_with fail
          have hr103 := fun d os => cell_regrown hc101 d os
          have hr104 := fun d os => cell_regrown hc102 d os
          refine wp_region_quiet_below (by kernel_rfl) (by kernel_rfl) ?_
          repeat (any_goals (first | go_big_quiet_step (fail) | quiet_step (fail) | (refine wpQuiet_step (fun K hK => ?_); go_simp; refine hK _ ?_; clear hK K)))
          refine wpQuiet_nil ?_
          intro w11 hw11
          have hb11 := below_anyY hw11
          clear hw11 hr103 hr104
          clear hc101 hc102
          have HB2 := Lib.hid (HB.out.trans (hb11.mono HB.out.size))
          clear hb11
          go_wp2_with fail
          go_roundw
          case rel => exact ⟨k + 1, m + (10000 + 10000), by go_num, by go_num, by omega, by omega, by omega, HB2.out⟩
          case measure => simp [intOf] <;> omega
        · have hw1 : IntKind.i64.wrap (10000 + (v.size : Int)) = 10000 + (v.size : Int) := IntWalk.i64_in _ (by omega)
          have hw2 : IntKind.i64.wrap ((m : Int) + (10000 + (v.size : Int))) = (m : Int) + (10000 + (v.size : Int)) := IntWalk.i64_in _ (by omega)
          have hc101 : wr.cell? ⟨b, off + k * 4, none⟩ = some (.string s) := (H.out.p.below HB.out).cellAt HX.out hlt 0 _ rfl
          have hc102 : wr.cell? ⟨b, off + k * 4 + 3, none⟩ = some (.string v) := (H.out.p.below HB.out).cellAt HX.out hlt 3 _ rfl
          go_wp2_with fail
          have hr103 := fun d os => cell_regrown hc101 d os
          have hr104 := fun d os => cell_regrown hc102 d os
          refine wp_region_quiet_below (by kernel_rfl) (by kernel_rfl) ?_
          repeat (any_goals (first | go_big_quiet_step (fail) | quiet_step (fail) | (refine wpQuiet_step (fun K hK => ?_); go_simp; refine hK _ ?_; clear hK K)))
          refine wpQuiet_nil ?_
          intro w11 hw11
          have hb11 := below_anyY hw11
          clear hw11 hr103 hr104
          clear hc101 hc102
          have HB2 := Lib.hid (HB.out.trans (hb11.mono HB.out.size))
          clear hb11
          go_wp2_with fail
          go_roundw
          case rel => exact ⟨k + 1, m + (10000 + v.size), by go_num, by go_num, by omega, by omega, by omega, HB2.out⟩
          case measure => simp [intOf] <;> omega
      · by_cases hs2 : (10000 : Int) < (v.size : Int)
        · have hw1 : IntKind.i64.wrap ((s.size : Int) + 10000) = (s.size : Int) + 10000 := IntWalk.i64_in _ (by omega)
          have hw2 : IntKind.i64.wrap ((m : Int) + ((s.size : Int) + 10000)) = (m : Int) + ((s.size : Int) + 10000) := IntWalk.i64_in _ (by omega)
          have hc101 : wr.cell? ⟨b, off + k * 4, none⟩ = some (.string s) := (H.out.p.below HB.out).cellAt HX.out hlt 0 _ rfl
          have hc102 : wr.cell? ⟨b, off + k * 4 + 3, none⟩ = some (.string v) := (H.out.p.below HB.out).cellAt HX.out hlt 3 _ rfl
          go_wp2_with fail
          have hr103 := fun d os => cell_regrown hc101 d os
          have hr104 := fun d os => cell_regrown hc102 d os
          refine wp_region_quiet_below (by kernel_rfl) (by kernel_rfl) ?_
          repeat (any_goals (first | go_big_quiet_step (fail) | quiet_step (fail) | (refine wpQuiet_step (fun K hK => ?_); go_simp; refine hK _ ?_; clear hK K)))
          refine wpQuiet_nil ?_
          intro w11 hw11
          have hb11 := below_anyY hw11
          clear hw11 hr103 hr104
          clear hc101 hc102
          have HB2 := Lib.hid (HB.out.trans (hb11.mono HB.out.size))
          clear hb11
          go_wp2_with fail
          go_roundw
          case rel => exact ⟨k + 1, m + (s.size + 10000), by go_num, by go_num, by omega, by omega, by omega, HB2.out⟩
          case measure => simp [intOf] <;> omega
        · have hw1 : IntKind.i64.wrap ((s.size : Int) + (v.size : Int)) = (s.size : Int) + (v.size : Int) := IntWalk.i64_in _ (by omega)
          have hw2 : IntKind.i64.wrap ((m : Int) + ((s.size : Int) + (v.size : Int))) = (m : Int) + ((s.size : Int) + (v.size : Int)) := IntWalk.i64_in _ (by omega)
          have hc101 : wr.cell? ⟨b, off + k * 4, none⟩ = some (.string s) := (H.out.p.below HB.out).cellAt HX.out hlt 0 _ rfl
          have hc102 : wr.cell? ⟨b, off + k * 4 + 3, none⟩ = some (.string v) := (H.out.p.below HB.out).cellAt HX.out hlt 3 _ rfl
          go_wp2_with fail
          have hr103 := fun d os => cell_regrown hc101 d os
          have hr104 := fun d os => cell_regrown hc102 d os
          refine wp_region_quiet_below (by kernel_rfl) (by kernel_rfl) ?_
          repeat (any_goals (first | go_big_quiet_step (fail) | quiet_step (fail) | (refine wpQuiet_step (fun K hK => ?_); go_simp; refine hK _ ?_; clear hK K)))
          refine wpQuiet_nil ?_
          intro w11 hw11
          have hb11 := below_anyY hw11
          clear hw11 hr103 hr104
          clear hc101 hc102
          have HB2 := Lib.hid (HB.out.trans (hb11.mono HB.out.size))
          clear hb11
          go_wp2_with fail
          go_roundw
          case rel => exact ⟨k + 1, m + (s.size + v.size), by go_num, by go_num, by omega, by omega, by omega, HB2.out⟩
          case measure => simp [intOf] <;> omega
    · have hd0 : (decide ((k : Int) < (n2 : Int)) = false) ∨ (decide ((k : Int) < (n2 : Int)) = true ∧ decide ((k : Int) ≤ 20) = false) := by
        by_cases h1 : k < n2
        · exact Or.inr ⟨decide_eq_true (by omega), decide_eq_false (by omega)⟩
        · exact Or.inl (decide_eq_false (by omega))
      by_cases h2 : n2 ≤ 20
      rotate_left
      · rcases hd0 with hd1 | ⟨hd1, hd2⟩
        · have d2 : decide ((n2 : Int) ≤ 20) = false := decide_eq_false (by omega)
          go_wp2_with fail
          all_goals
            go_ret
            exact ⟨_, rfl, (fun h => by cases h), HB.out⟩
        · have d2 : decide ((n2 : Int) ≤ 20) = false := decide_eq_false (by omega)
          go_wp2_with fail
          all_goals
            go_ret
            exact ⟨_, rfl, (fun h => by cases h), HB.out⟩
      have d2 : decide ((n2 : Int) ≤ 20) = true := decide_eq_true (by omega)
      by_cases h3 : m ≤ 3000
      rotate_left
      · rcases hd0 with hd1 | ⟨hd1, hd2⟩
        · have d3 : decide ((m : Int) ≤ 3000) = false := decide_eq_false (by omega)
          go_wp2_with fail
          all_goals
            go_ret
            exact ⟨_, rfl, (fun h => by cases h), HB.out⟩
        · have d3 : decide ((m : Int) ≤ 3000) = false := decide_eq_false (by omega)
          go_wp2_with fail
          all_goals
            go_ret
            exact ⟨_, rfl, (fun h => by cases h), HB.out⟩
      have d3 : decide ((m : Int) ≤ 3000) = true := decide_eq_true (by omega)
      by_cases h4 : n ≤ 20
      rotate_left
      · rcases hd0 with hd1 | ⟨hd1, hd2⟩
        · have d4 : decide ((n : Int) ≤ 20) = false := decide_eq_false (by omega)
          go_wp2_with fail
          all_goals
            go_ret
            exact ⟨_, rfl, (fun h => by cases h), HB.out⟩
        · have d4 : decide ((n : Int) ≤ 20) = false := decide_eq_false (by omega)
          go_wp2_with fail
          all_goals
            go_ret
            exact ⟨_, rfl, (fun h => by cases h), HB.out⟩
      have d4 : decide ((n : Int) ≤ 20) = true := decide_eq_true (by omega)
      rcases hd0 with hd1 | ⟨hd1, hd2⟩
      · go_wp2_with fail
        refine (nbytes_any A n c ss _ (H.out.l.later HB.out) (by omega) KS.out).mono ?_
        rintro e w' ⟨⟨r, rfl, _⟩, rfl⟩
        go_wp2_with fail
        all_goals
          go_ret
          exact ⟨_, rfl, (fun _ => ⟨by omega, by omega⟩), HB.out⟩
      · go_wp2_with fail
        refine (nbytes_any A n c ss _ (H.out.l.later HB.out) (by omega) KS.out).mono ?_
        rintro e w' ⟨⟨r, rfl, _⟩, rfl⟩
        go_wp2_with fail
        all_goals
          go_ret
          exact ⟨_, rfl, (fun _ => ⟨by omega, by omega⟩), HB.out⟩
set_option maxRecDepth 100000 in
theorem awake25 (w : World) : Calls Try.prog 25 #[] w fun e w' => e = .returned (.bool true) ∧ Below w.heap.size w w' := by
  have hz : ndW ⟨#[97]⟩ [] [] = 0 := by decide
  have e1 : ptS [] [] = ⟨#[0, 0]⟩ := by
    have : nS 0 = ⟨#[0]⟩ := by
      have e2 : put 0 = [0] := by decide
      unfold nS
      rw [e2]
    unfold ptS
    show nS 0 ++ nS 0 = _
    rw [this]; rfl
  have HP := Lib.hid (pnode_yes ⟨#[97]⟩ none none 0 0 0 0 [] [] w ⟨⟨rfl, fun h => by omega⟩, RdX.nil⟩ ⟨by unfold maxLen; omega, by unfold maxLen; omega, (by intro s hs; cases hs), (by intro s hs; cases hs)⟩ (by unfold maxLen; decide) hz (by intro p hp; cases hp))
  rw [e1] at HP
  clear e1 hz
  go_enter Try.func25, Try.ntmps25
  go_wp2_with fail
  refine HP.out.mono ?_
  rintro e w1 ⟨rfl, hb1⟩
  have HB1 := Lib.hid hb1
  clear hb1
  go_wp2_with fail
  go_ret
  exact ⟨rfl, HB1.out⟩
end Go.Proofs.Ytdjjabjegmbmaaa
