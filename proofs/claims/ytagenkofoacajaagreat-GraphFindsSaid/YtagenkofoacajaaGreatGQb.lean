/- Few of layer 26; graph.Check. Conditions: texts that are no longer than a text may be. -/
import Derived.Test.YtagenkofoacajaaGreatOpc
import Derived.Test.YtagenkofoacajaaGreatZb
import Derived.IntWalk
import Derived.Maps.Own
import Derived.Maps.Views
import Derived.StringKeys
namespace Go.Proofs.YtagenkofoacajaaGreat
open Go.RowKit Vi

def thinN (X : List Nd) : Prop := ∀ x ∈ X, x.2.1.length ≤ 20 ∧ x.2.2.length ≤ 20
def thinE (Y : List Ed) : Prop := ∀ y ∈ Y, y.2.2.2.1.length ≤ 20 ∧ y.2.2.2.2.length ≤ 20
theorem wt_thin {ss : List ByteArray} {ps : List Pr} {m : Nat} (h : wt ss ps ≤ m) (hm : m ≤ 5000) : ss.length ≤ 20 ∧ ps.length ≤ 20 := by
  unfold wt at h
  split at h <;> omega
set_option maxRecDepth 100000 in
set_option maxHeartbeats 4000000 in
theorem few26s_any (A A2 : Option Addr) (n c n2 c2 : Nat) (X : List Nd) (Y : List Ed) (w : World) (h : GrIs w A n A2 n2 X Y) :
    Calls Tryz.prog 5 #[.agg #[.slice A n c, .slice A2 n2 c2]] w (RetBool (n ≤ 40 ∧ n2 ≤ 60 ∧ thinN X ∧ thinE Y) w) := by
  have H := Lib.hid h
  have HL := Lib.hid h.nl
  clear h
  by_cases g1 : n ≤ 40
  rotate_left
  · have d1 : decide ((40 : Int) < (n : Int)) = true := decide_eq_true (by omega)
    have HB1 := Lib.hid (Below.refl w.heap.size w)
    go_enter Tryz.func5, Tryz.ntmps5
    have HF2 := Lib.hid (blk_new w (.cells #[.slice A n c, .slice A2 n2 c2] 25 (0, 0)))
    have HB3 := Lib.hid (HB1.out.alloc HB1.out.size (.cells #[.slice A n c, .slice A2 n2 c2] 25 (0, 0)))
    clear HB1
    have hc4 : (w.alloc (.cells #[.slice A n c, .slice A2 n2 c2] 25 (0, 0))).cell? ⟨w.heap.size, 0, none⟩ = some (.slice A n c) := by rw [cell_of_row _ _ _ _ _ _ HF2.out]; rfl
    have hc5 : (w.alloc (.cells #[.slice A n c, .slice A2 n2 c2] 25 (0, 0))).cell? ⟨w.heap.size, 1, none⟩ = some (.slice A2 n2 c2) := by rw [cell_of_row _ _ _ _ _ _ HF2.out]; rfl
    go_wp2_with fail
    go_ret
    exact ⟨false, rfl, (fun h => by cases h), HB3.out⟩
  have d1 : decide ((40 : Int) < (n : Int)) = false := decide_eq_false (by omega)
  by_cases g2 : n2 ≤ 60
  rotate_left
  · have d2 : decide ((60 : Int) < (n2 : Int)) = true := decide_eq_true (by omega)
    have HB1 := Lib.hid (Below.refl w.heap.size w)
    go_enter Tryz.func5, Tryz.ntmps5
    have HF2 := Lib.hid (blk_new w (.cells #[.slice A n c, .slice A2 n2 c2] 25 (0, 0)))
    have HB3 := Lib.hid (HB1.out.alloc HB1.out.size (.cells #[.slice A n c, .slice A2 n2 c2] 25 (0, 0)))
    clear HB1
    have hc4 : (w.alloc (.cells #[.slice A n c, .slice A2 n2 c2] 25 (0, 0))).cell? ⟨w.heap.size, 0, none⟩ = some (.slice A n c) := by rw [cell_of_row _ _ _ _ _ _ HF2.out]; rfl
    have hc5 : (w.alloc (.cells #[.slice A n c, .slice A2 n2 c2] 25 (0, 0))).cell? ⟨w.heap.size, 1, none⟩ = some (.slice A2 n2 c2) := by rw [cell_of_row _ _ _ _ _ _ HF2.out]; rfl
    go_wp2_with fail
    go_ret
    exact ⟨false, rfl, (fun h => by cases h), HB3.out⟩
  have d2 : decide ((60 : Int) < (n2 : Int)) = false := decide_eq_false (by omega)
  have HB1 := Lib.hid (Below.refl w.heap.size w)
  go_enter Tryz.func5, Tryz.ntmps5
  have HF2 := Lib.hid (blk_new w (.cells #[.slice A n c, .slice A2 n2 c2] 25 (0, 0)))
  have HB3 := Lib.hid (HB1.out.alloc HB1.out.size (.cells #[.slice A n c, .slice A2 n2 c2] 25 (0, 0)))
  clear HB1
  have hc4 : (w.alloc (.cells #[.slice A n c, .slice A2 n2 c2] 25 (0, 0))).cell? ⟨w.heap.size, 0, none⟩ = some (.slice A n c) := by rw [cell_of_row _ _ _ _ _ _ HF2.out]; rfl
  have hc5 : (w.alloc (.cells #[.slice A n c, .slice A2 n2 c2] 25 (0, 0))).cell? ⟨w.heap.size, 1, none⟩ = some (.slice A2 n2 c2) := by rw [cell_of_row _ _ _ _ _ _ HF2.out]; rfl
  go_wp2_with fail
  clear hc4 hc5
  clear d1 d2
  go_loopw [3, 4] (fun s i wr => ∃ k m : Nat, s = .int .i64 (m : Int) ∧ i = .int .i64 (k : Int) ∧ k ≤ n ∧ m ≤ 600000 * k ∧ Hid (∀ x ∈ X.take k, wt x.2.1 x.2.2 ≤ m) ∧ Below w.heap.size w wr ∧ wr.heap[w.heap.size]? = some (.cells #[.slice A n c, .slice A2 n2 c2] 25 (0, 0))) (fun _ i _ => n - (intOf i).toNat)
  case atStart => exact ⟨0, 0, rfl, rfl, Nat.zero_le _, by omega, Lib.hid (by simp), HB3.out, HF2.out⟩
  case round =>
    obtain ⟨k, m, rfl, rfl, hk, hmm, HW, hb, ha⟩ := hrel
    have HB := Lib.hid hb
    have HA := Lib.hid ha
    clear hb ha
    have ca0 : wr.cell? ⟨w.heap.size, 0, none⟩ = some (.slice A n c) := by rw [cell_of_row _ _ _ _ _ _ HA.out]; rfl
    have ca1 : wr.cell? ⟨w.heap.size, 1, none⟩ = some (.slice A2 n2 c2) := by rw [cell_of_row _ _ _ _ _ _ HA.out]; rfl
    by_cases hlt : k < n
    · have hd1 : decide ((k : Int) < (n : Int)) = true := decide_eq_true (by omega)
      have hi0 : (0 : Int) ≤ (k : Int) := by omega
      have hkl : k < X.length := by have := HL.out.1; omega
      obtain ⟨x, hxx⟩ : ∃ x, x = X[k] := ⟨_, rfl⟩
      have HK := Lib.hid (show X[k]? = some x by rw [List.getElem?_eq_getElem hkl, hxx])
      clear hxx
      obtain ⟨b1, o1, L1, q1, r1, M1, rfl, x0, x1, x2, hp1⟩ := (H.out.below HB.out).node hlt HK.out
      obtain ⟨i, ss, ps⟩ := x
      dsimp only at x0 x1 x2 hp1
      have HC := Lib.hid (fun (W : World) (g1 : LP W L1 ss.length ss M1 ps.length ps) => weight_any L1 M1 ss.length q1 ps.length r1 ss ps W g1)
      have HP1 := Lib.hid hp1
      clear hp1
      have hv0 : IntKind.i64.wrap ((m : Int) + min (i.size : Int) 5000) = (m : Int) + min (i.size : Int) 5000 := IntWalk.i64_in _ (by omega)
      obtain ⟨z, hz⟩ : ∃ z, z = wt ss ps := ⟨_, rfl⟩
      have hzl := wt_le ss ps
      have HW2 := Lib.hid (show ∀ x ∈ X.take (k + 1), wt x.2.1 x.2.2 ≤ m + min i.size 5000 + z from fun x hx => by
        rw [List.take_add_one, HK.out] at hx
        rcases List.mem_append.1 hx with hx | hx
        · have := HW.out x hx; omega
        · have e : x = (i, ss, ps) := by simpa using hx
          subst e; show wt ss ps ≤ _; omega)
      rw [← hz] at HC hzl
      clear hz
      have hv1 : IntKind.i64.wrap (((m : Int) + min (i.size : Int) 5000) + (z : Int)) = ((m : Int) + min (i.size : Int) 5000) + (z : Int) := IntWalk.i64_in _ (by omega)
      generalize ss.length = ns at *
      generalize ps.length = np at *
      go_wp2_with fail
      have Rx0 := fun d os => cell_regrown x0 d os
      have Rx1 := fun d os => cell_regrown x1 d os
      have Rx2 := fun d os => cell_regrown x2 d os
      have Rca0 := fun d os => cell_regrown ca0 d os
      have Rca1 := fun d os => cell_regrown ca1 d os
      refine wp_region_quiet_below (by kernel_rfl) (by kernel_rfl) ?_
      repeat (any_goals (first | go_big_quiet_step ((go_at_call 27; with_reducible exact Calls.regrown_of (HC.out _ (HP1.out.below ((below_regrown _ _ _)))))) | quiet_step ((go_at_call 27; with_reducible exact Calls.regrown_of (HC.out _ (HP1.out.below ((below_regrown _ _ _)))))) | (refine wpQuiet_step (fun K hK => ?_); go_simp; refine hK _ ?_; clear hK K)))
      refine wpQuiet_nil ?_
      intro w11 hw11
      have hb11 := below_anyY hw11
      clear hw11 Rx0 Rx1 Rx2 Rca0 Rca1
      clear x0 x1 x2 ca0 ca1
      have HB2 := Lib.hid (HB.out.trans (hb11.mono HB.out.size))
      have HA2 := Lib.hid (blk_below HA.out hb11)
      clear hb11
      clear hv0 hv1
      go_wp2_with fail
      go_roundw
      case rel => exact ⟨k + 1, m + min i.size 5000 + z, nat_eq (by omega), by go_num, by omega, by omega, HW2, HB2.out, HA2.out⟩
      case measure => simp [intOf] <;> omega
    · have hd1 : decide ((k : Int) < (n : Int)) = false := decide_eq_false (by omega)
      have hm1 : m ≤ 24000000 := by omega
      have HWX := Lib.hid (show ∀ x ∈ X, wt x.2.1 x.2.2 ≤ m from fun x hx => HW.out x (by rw [List.take_of_length_le (by have := HL.out.1; omega)]; exact hx))
      go_wp2_with fail
      clear hd1 ca0 ca1
      go_loopw [3, 5] (fun s i wr => ∃ k m : Nat, s = .int .i64 (m : Int) ∧ i = .int .i64 (k : Int) ∧ k ≤ n2 ∧ m ≤ 24000000 + 600000 * k ∧ Hid (∀ x ∈ X, wt x.2.1 x.2.2 ≤ m) ∧ Hid (∀ y ∈ Y.take k, wt y.2.2.2.1 y.2.2.2.2 ≤ m) ∧ Below w.heap.size w wr ∧ wr.heap[w.heap.size]? = some (.cells #[.slice A n c, .slice A2 n2 c2] 25 (0, 0))) (fun _ i _ => n2 - (intOf i).toNat)
      case atStart => exact ⟨0, m, rfl, rfl, Nat.zero_le _, by omega, HWX, Lib.hid (by simp), HB.out, HA.out⟩
      case round =>
        clear hlt hk hmm hm1 HB HA HW HWX
        obtain ⟨k, m, rfl, rfl, hk, hmm, HWX, HWY, hb, ha⟩ := hrel
        have HB := Lib.hid hb
        have HA := Lib.hid ha
        clear hb ha
        have ca0 : wr.cell? ⟨w.heap.size, 0, none⟩ = some (.slice A n c) := by rw [cell_of_row _ _ _ _ _ _ HA.out]; rfl
        have ca1 : wr.cell? ⟨w.heap.size, 1, none⟩ = some (.slice A2 n2 c2) := by rw [cell_of_row _ _ _ _ _ _ HA.out]; rfl
        by_cases hlt : k < n2
        · have hd1 : decide ((k : Int) < (n2 : Int)) = true := decide_eq_true (by omega)
          have hi0 : (0 : Int) ≤ (k : Int) := by omega
          have hkl : k < Y.length := by have := HL.out.2; omega
          obtain ⟨x, hxx⟩ : ∃ x, x = Y[k] := ⟨_, rfl⟩
          have HK := Lib.hid (show Y[k]? = some x by rw [List.getElem?_eq_getElem hkl, hxx])
          clear hxx
          obtain ⟨b1, o1, L1, q1, r1, M1, rfl, x0, x1, x2, x3, x4, hp1⟩ := (H.out.below HB.out).edge hlt HK.out
          obtain ⟨i, f, g, ss, ps⟩ := x
          dsimp only at x0 x1 x2 x3 x4 hp1
          have HC := Lib.hid (fun (W : World) (g1 : LP W L1 ss.length ss M1 ps.length ps) => weight_any L1 M1 ss.length q1 ps.length r1 ss ps W g1)
          have HP1 := Lib.hid hp1
          clear hp1
          obtain ⟨z, hz⟩ : ∃ z, z = wt ss ps := ⟨_, rfl⟩
          have hzl := wt_le ss ps
          have HWX2 := Lib.hid (show ∀ x ∈ X, wt x.2.1 x.2.2 ≤ m + min i.size 5000 + min f.size 5000 + min g.size 5000 + z from fun x hx => by have := HWX.out x hx; omega)
          have HWY2 := Lib.hid (show ∀ y ∈ Y.take (k + 1), wt y.2.2.2.1 y.2.2.2.2 ≤ m + min i.size 5000 + min f.size 5000 + min g.size 5000 + z from fun x hx => by
            rw [List.take_add_one, HK.out] at hx
            rcases List.mem_append.1 hx with hx | hx
            · have := HWY.out x hx; omega
            · have e : x = (i, f, g, ss, ps) := by simpa using hx
              subst e; show wt ss ps ≤ _; omega)
          rw [← hz] at HC hzl
          clear hz
          have hv0 : IntKind.i64.wrap ((m : Int) + min (i.size : Int) 5000) = (m : Int) + min (i.size : Int) 5000 := IntWalk.i64_in _ (by omega)
          have hv1 : IntKind.i64.wrap (((m : Int) + min (i.size : Int) 5000) + min (f.size : Int) 5000) = ((m : Int) + min (i.size : Int) 5000) + min (f.size : Int) 5000 := IntWalk.i64_in _ (by omega)
          have hv2 : IntKind.i64.wrap ((((m : Int) + min (i.size : Int) 5000) + min (f.size : Int) 5000) + min (g.size : Int) 5000) = (((m : Int) + min (i.size : Int) 5000) + min (f.size : Int) 5000) + min (g.size : Int) 5000 := IntWalk.i64_in _ (by omega)
          have hv3 : IntKind.i64.wrap (((((m : Int) + min (i.size : Int) 5000) + min (f.size : Int) 5000) + min (g.size : Int) 5000) + (z : Int)) = ((((m : Int) + min (i.size : Int) 5000) + min (f.size : Int) 5000) + min (g.size : Int) 5000) + (z : Int) := IntWalk.i64_in _ (by omega)
          generalize ss.length = ns at *
          generalize ps.length = np at *
          have HB0 := Lib.hid (Below.refl wr.heap.size wr)
          have HAA := Lib.hid (blk_alloc HA.out (.cells #[.string i, .string f, .string g, .slice L1 ns q1, .slice M1 np r1] 36 (0, 0)))
          have HF101 := Lib.hid (blk_new wr (.cells #[.string i, .string f, .string g, .slice L1 ns q1, .slice M1 np r1] 36 (0, 0)))
          have HB102 := Lib.hid (HB0.out.alloc HB0.out.size (.cells #[.string i, .string f, .string g, .slice L1 ns q1, .slice M1 np r1] 36 (0, 0)))
          clear HB0
          have hc103 : (wr.alloc (.cells #[.string i, .string f, .string g, .slice L1 ns q1, .slice M1 np r1] 36 (0, 0))).cell? ⟨wr.heap.size, 0, none⟩ = some (.string i) := by rw [cell_of_row _ _ _ _ _ _ HF101.out]; rfl
          have hc104 : (wr.alloc (.cells #[.string i, .string f, .string g, .slice L1 ns q1, .slice M1 np r1] 36 (0, 0))).cell? ⟨wr.heap.size, 1, none⟩ = some (.string f) := by rw [cell_of_row _ _ _ _ _ _ HF101.out]; rfl
          have hc105 : (wr.alloc (.cells #[.string i, .string f, .string g, .slice L1 ns q1, .slice M1 np r1] 36 (0, 0))).cell? ⟨wr.heap.size, 2, none⟩ = some (.string g) := by rw [cell_of_row _ _ _ _ _ _ HF101.out]; rfl
          have hc106 : (wr.alloc (.cells #[.string i, .string f, .string g, .slice L1 ns q1, .slice M1 np r1] 36 (0, 0))).cell? ⟨wr.heap.size, 3, none⟩ = some (.slice L1 ns q1) := by rw [cell_of_row _ _ _ _ _ _ HF101.out]; rfl
          have hc107 : (wr.alloc (.cells #[.string i, .string f, .string g, .slice L1 ns q1, .slice M1 np r1] 36 (0, 0))).cell? ⟨wr.heap.size, 4, none⟩ = some (.slice M1 np r1) := by rw [cell_of_row _ _ _ _ _ _ HF101.out]; rfl
          go_wp2_with fail
          clear x0 x1 x2 x3 x4 ca0 ca1
          have Rhc103 := fun d os => cell_regrown hc103 d os
          have Rhc104 := fun d os => cell_regrown hc104 d os
          have Rhc105 := fun d os => cell_regrown hc105 d os
          have Rhc106 := fun d os => cell_regrown hc106 d os
          have Rhc107 := fun d os => cell_regrown hc107 d os
          refine wp_region_quiet_below (by kernel_rfl) (by kernel_rfl) ?_
          repeat (any_goals (first | go_big_quiet_step ((go_at_call 27; with_reducible exact Calls.regrown_of (HC.out _ (HP1.out.below (HB102.out.trans ((below_regrown _ _ _).mono HB102.out.size)))))) | quiet_step ((go_at_call 27; with_reducible exact Calls.regrown_of (HC.out _ (HP1.out.below (HB102.out.trans ((below_regrown _ _ _).mono HB102.out.size)))))) | (refine wpQuiet_step (fun K hK => ?_); go_simp; refine hK _ ?_; clear hK K)))
          refine wpQuiet_nil ?_
          intro w11 hw11
          have hb11 := below_anyY hw11
          clear hw11 Rhc103 Rhc104 Rhc105 Rhc106 Rhc107
          clear hc103 hc104 hc105 hc106 hc107
          have HB2 := Lib.hid (HB102.out.trans (hb11.mono HB102.out.size))
          have HA2 := Lib.hid (blk_below HAA.out hb11)
          clear hb11
          clear hv0 hv1 hv2 hv3
          go_wp2_with fail
          go_roundw
          case rel => exact ⟨k + 1, m + min i.size 5000 + min f.size 5000 + min g.size 5000 + z, nat_eq (by omega), by go_num, by omega, by omega, HWX2, HWY2, HB.out.trans (HB2.out.mono HB.out.size), HA2.out⟩
          case measure => simp [intOf] <;> omega
        · have hd1 : decide ((k : Int) < (n2 : Int)) = false := decide_eq_false (by omega)
          go_wp2_with fail
          all_goals
            go_ret
            exact ⟨_, rfl, (fun hq => by
              first
              | (cases hq; done)
              | (have hm5 : m ≤ 5000 := by first | omega | (simp at hq; omega)
                 exact ⟨by omega, by omega, fun x hx => wt_thin (HWX.out x hx) hm5, fun y hy => wt_thin (HWY.out y (by rw [List.take_of_length_le (by have := HL.out.2; omega)]; exact hy)) hm5⟩)), HB.out⟩
end Go.Proofs.YtagenkofoacajaaGreat
namespace Go.Proofs.YtagenkofoacajaaGreat
open Go.RowKit Vi Go.WideMaps Go.Maps

def emR (v : Value) : Option (DataW Nat × List MemPlace) := match v with
  | .agg a => if a.size = 0 then some (.nil, []) else none
  | _ => none
theorem emR_inv {v : Value} {z : DataW Nat × List MemPlace} (h : emR v = some z) : v = .agg #[] := by
  unfold emR at h
  split at h
  · next a =>
    split at h
    · next h0 => rw [Array.size_eq_zero_iff.1 h0]
    · cases h
  · cases h
/-- a set of texts -/
def SetM (w : World) (B : Nat) (ks : List ByteArray) : Prop := ∃ n D, w.ownsMap Tryz.prog 9 emR B n D ∧ n ≤ ks.length ∧ IsMap D ∧ ∀ s : ByteArray, s.size ≤ maxLen → has D (.string s.data.toList) = ks.any fun x => x.toList == s.toList
theorem SetM.made (w : World) : SetM (w.alloc (.map #[] 0)) w.heap.size [] :=
  ⟨0, .map [], World.ownsMap_made w _ _ _, Nat.le_refl _, isMap_empty, fun _ _ => rfl⟩
theorem SetM.kept {w w' : World} {B : Nat} {ks : List ByteArray} (h : SetM w B ks) (hb : w'.heap[B]? = w.heap[B]?) : SetM w' B ks := by
  obtain ⟨n, D, ⟨es, cl, h1, h2⟩, h3⟩ := h
  exact ⟨n, D, ⟨es, cl, hb.trans h1, h2⟩, h3⟩
theorem SetM.lt {w : World} {B : Nat} {ks : List ByteArray} (h : SetM w B ks) : B < w.heap.size := by
  obtain ⟨n, D, h1, _⟩ := h
  exact h1.lt
theorem lit_ba {s x : ByteArray} : (x.toList == s.toList) = true ↔ x = s := by
  constructor
  · intro h
    have h1 : x.toList = s.toList := by simpa using h
    rw [Lib.toList_data, Lib.toList_data] at h1
    exact ByteArray.ext (Array.ext' h1)
  · rintro rfl; simp
theorem SetM.put {w : World} {B : Nat} {ks : List ByteArray} (h : SetM w B ks) (x : ByteArray) (hx : x.size ≤ maxLen) (hk : ks.length < maxLen) :
    ∃ w', (Instr.mapUpdate 125 (.map (some B)) (.string x) (.agg #[])).run Tryz.prog w = .ok () w' ∧ SetM w' B (ks ++ [x]) ∧ w.grownBy w' (some B) := by
  obtain ⟨n, D, h1, h2, h3, h4⟩ := h
  obtain ⟨w', hrun, hown, hg⟩ := h1.update (string_keyed Tryz.underlying9) Tryz.underlying125 (by omega) (key := .string x) (val := .agg #[]) (keyOf_string_mk Tryz.underlying9 hx) (d := .nil) (ps := []) rfl
  refine ⟨w', hrun, ⟨n + 1, _, hown, by rw [List.length_append]; simp; omega, h3.put _ _, fun s hs => ?_⟩, hg⟩
  rw [List.any_append]
  by_cases e : x = s
  · subst e
    rw [has_put_same (k := .string x.data.toList) h3 trivial]
    simp
  · have hne : (Lit.string s.data.toList) ≠ .string x.data.toList := by
      intro q
      injection q with q
      exact e (ByteArray.ext (Array.ext' q.symm))
    rw [has_put_other hne, h4 s hs]
    have hf : (x.toList == s.toList) = false := by
      cases q : (x.toList == s.toList) with
      | false => rfl
      | true => exact absurd (lit_ba.1 q) e
    simp [hf]
theorem zero_unit (w : World) : (zeroValue 157).run Tryz.prog w = .ok (.agg #[]) w := by
  simp [go_sem]
theorem SetM.look {w : World} {B : Nat} {ks : List ByteArray} (h : SetM w B ks) (s : ByteArray) (hs : s.size ≤ maxLen) :
    (Instr.lookup 125 (.map (some B)) (.string s) true).run Tryz.prog w = .ok (.tuple #[.agg #[], .bool (ks.any fun x => x.toList == s.toList)]) w := by
  obtain ⟨n, D, ⟨es, cl, h1, F, _, hD⟩, h2, h3, h4⟩ := h
  have h5 := h4 s hs
  rcases Maps.fit_look true (string_keyed Tryz.underlying9) Tryz.underlying125 (zero_unit w) h1 F (keyOf_string_mk Tryz.underlying9 hs) with ⟨hrun, _, hat⟩ | ⟨e0, y, _, _, hrun, hR, hat, _⟩
  · rw [← hD] at hat
    rw [has_false_of_atKey hat] at h5
    rw [hrun, ← h5]; rfl
  · rw [← hD] at hat
    rw [has_true_of_atKey hat] at h5
    rw [hrun, ← h5, emR_inv hR]; rfl
end Go.Proofs.YtagenkofoacajaaGreat
namespace Go.Proofs.YtagenkofoacajaaGreat
open Go.RowKit Vi Go.WideMaps Go.Maps

/-- what checkNodes leaves: the ids, if nothing is wrong -/
def ChkN (n B : Nat) (X : List Nd) (w : World) (e : Ending) (w' : World) : Prop := e = .returned (.int .i64 (wrN ⟨#[]⟩ X)) ∧ (wrN ⟨#[]⟩ X = 0 → SetM w' B (X.map (·.1))) ∧ Below n w w' ∧ w.heap.size ≤ w'.heap.size
theorem leS_three {i p : ByteArray} (h : leS i p = true) : (Op.bytesLess i.toList p.toList = true) ∨ (Op.bytesLess i.toList p.toList = false ∧ (i.toList == p.toList) = true) := by
  rcases leS_cases i p with ⟨g1, _⟩ | ⟨g1, g2, _⟩ | ⟨_, _, g3⟩
  · exact Or.inl g1
  · exact Or.inr ⟨g1, g2⟩
  · rw [g3] at h; cases h
set_option maxRecDepth 100000 in
set_option maxHeartbeats 4000000 in
theorem chknodes_any (w0 : World) (B m : Nat) (A A2 : Option Addr) (n c n2 : Nat) (X : List Nd) (Y : List Ed) (w : World) (h : GrIs w0 A n A2 n2 X Y) (k : GrOk X Y) (hn : n ≤ 1000000) (hw0 : Below w0.heap.size w0 w) (hm0 : w0.heap.size ≤ m) (hm : m ≤ B) (hB : SetM w B []) :
    Calls Tryz.prog 79 #[.slice A n c, .map (some B)] w (ChkN m B X w) := by
  have H := Lib.hid h
  have HL := Lib.hid h.nl
  have KN := Lib.hid k.nd
  have HS := Lib.hid hB
  have H0 := Lib.hid hw0
  have hmw : m ≤ w.heap.size := Nat.le_of_lt (Nat.lt_of_le_of_lt hm hB.lt)
  clear h k hB hw0
  go_enter Tryz.func79, Tryz.ntmps79
  go_wp2_with fail
  go_loopw [5, 11] (fun s j wr => ∃ k : Nat, s = .string (prevN X k) ∧ j = .int .i64 (k : Int) ∧ k ≤ n ∧ Hid (wrN (prevN X k) (X.drop k) = wrN ⟨#[]⟩ X) ∧ SetM wr B ((X.take k).map (·.1)) ∧ Below m w wr) (fun _ j _ => n - (intOf j).toNat)
  case atStart => exact ⟨0, rfl, rfl, Nat.zero_le _, Lib.hid rfl, HS.out, Below.refl _ _⟩
  case round =>
    obtain ⟨k, rfl, rfl, hk, HI, hst, hb⟩ := hrel
    have HST := Lib.hid hst
    have HB := Lib.hid hb
    have HB0 := Lib.hid (H0.out.trans (hb.mono hm0))
    have hsz := hb.size
    have hBw := hst.lt
    clear hst hb
    by_cases hlt : k < n
    · have hd1 : decide ((k : Int) < (n : Int)) = true := decide_eq_true (by omega)
      have hi0 : (0 : Int) ≤ (k : Int) := by omega
      have hkl : k < X.length := by have := HL.out.1; omega
      obtain ⟨x, hxx⟩ : ∃ x, x = X[k] := ⟨_, rfl⟩
      have HK := Lib.hid (show X[k]? = some x by rw [List.getElem?_eq_getElem hkl, hxx])
      have hok := KN.out x (by rw [hxx]; exact List.getElem_mem hkl)
      have HTK := Lib.hid (show (X.take (k + 1)).map (·.1) = (X.take k).map (·.1) ++ [x.1] by rw [List.take_succ_eq_append_getElem hkl, List.map_append, ← hxx]; rfl)
      have HLK := Lib.hid (show ((X.take k).map (·.1)).length < maxLen by rw [List.length_map, List.length_take]; unfold maxLen; omega)
      clear hxx
      obtain ⟨b1, o1, L1, q1, r1, M1, rfl, x0, x1, x2, hp1⟩ := (H.out.below HB0.out).node hlt HK.out
      have HZ := Lib.hid (show wrN (prevN X k) (X.drop k) = if ndE x ≠ 0 then ndE x else if leS x.1 (prevN X k) = true then 4 else wrN x.1 (X.drop (k + 1)) by rw [drop_at HK.out]; rfl)
      have HPS := Lib.hid (prevN_succ X k HK.out)
      obtain ⟨i, ss, ps⟩ := x
      dsimp only at x0 x1 x2 hp1 HZ HPS hok HTK
      have HC := Lib.hid (fun (W : World) (g1 : LP W L1 ss.length ss M1 ps.length ps) => cnode_any i L1 M1 ss.length q1 ps.length r1 ss ps W g1 hok.2 hok.1)
      have HIS := Lib.hid hok.1
      have HP1 := Lib.hid hp1
      clear hp1 hok
      obtain ⟨z, hz⟩ : ∃ z, z = ndE (i, ss, ps) := ⟨_, rfl⟩
      rw [← hz] at HZ
      have HC : Hid (∀ (W : World) (_ : LP W L1 ss.length ss M1 ps.length ps), Calls Tryz.prog 107 #[.agg #[.string i, .slice L1 ss.length q1, .slice M1 ps.length r1]] W fun e w' => e = .returned (.int .i64 z) ∧ Below W.heap.size W w') := by rw [hz]; exact HC
      clear hz
      generalize ss.length = ns at *
      generalize ps.length = np at *
      generalize prevN X k = p at HZ HI ⊢
      have HX0 := Lib.hid (Below.refl wr.heap.size wr)
      have HF101 := Lib.hid (blk_new wr (.cells #[.string i, .slice L1 ns q1, .slice M1 np r1] 32 (0, 0)))
      have HB102 := Lib.hid (HX0.out.alloc HX0.out.size (.cells #[.string i, .slice L1 ns q1, .slice M1 np r1] 32 (0, 0)))
      clear HX0
      have hc103 : (wr.alloc (.cells #[.string i, .slice L1 ns q1, .slice M1 np r1] 32 (0, 0))).cell? ⟨wr.heap.size, 0, none⟩ = some (.string i) := by rw [cell_of_row _ _ _ _ _ _ HF101.out]; rfl
      have hc104 : (wr.alloc (.cells #[.string i, .slice L1 ns q1, .slice M1 np r1] 32 (0, 0))).cell? ⟨wr.heap.size, 1, none⟩ = some (.slice L1 ns q1) := by rw [cell_of_row _ _ _ _ _ _ HF101.out]; rfl
      have hc105 : (wr.alloc (.cells #[.string i, .slice L1 ns q1, .slice M1 np r1] 32 (0, 0))).cell? ⟨wr.heap.size, 2, none⟩ = some (.slice M1 np r1) := by rw [cell_of_row _ _ _ _ _ _ HF101.out]; rfl
      go_wp2_with fail
      clear hc103 hc104 hc105
      refine (HC.out (wr.alloc (.cells #[.string i, .slice L1 ns q1, .slice M1 np r1] 32 (0, 0))) (HP1.out.below HB102.out)).mono ?_
      rintro e w11 ⟨rfl, hb11⟩
      have HF106 := Lib.hid (blk_below HF101.out hb11)
      have HB107 := Lib.hid (HB102.out.trans (hb11.mono HB102.out.size))
      clear hb11 HB102 HF101
      have HST1 := Lib.hid (HST.out.kept (HB107.out.block B hBw))
      have HB1 := Lib.hid (HB.out.trans (HB107.out.mono (Nat.le_trans hmw hsz)))
      have hz1 := HB107.out.size
      clear x0 x1 x2
      by_cases hz : z = 0
      rotate_left
      · have hzn : (z != 0) = true := by simpa using hz
        have HR := Lib.hid (show z = wrN ⟨#[]⟩ X by rw [← HI.out, HZ.out, if_pos hz])
        have HZN := Lib.hid hz
        clear hz
        go_wp2_with fail
        go_ret
        exact ⟨retI HR.out, (fun q => absurd (HR.out.trans q) HZN.out), HB1.out, by omega⟩
      have HZ2 := Lib.hid (show wrN p (X.drop k) = if leS i p = true then 4 else wrN i (X.drop (k + 1)) by rw [HZ.out, if_neg (by simpa using hz)])
      subst hz
      cases hle : leS i p with
      | true =>
        have HR := Lib.hid (show (4 : Int) = wrN ⟨#[]⟩ X by rw [← HI.out, HZ2.out, if_pos hle])
        rcases leS_three hle with g1 | ⟨g1, g2⟩
        all_goals
          clear hle
          have hc108 : w11.cell? ⟨wr.heap.size, 0, none⟩ = some (.string i) := by rw [cell_of_row _ _ _ _ _ _ HF106.out]; rfl
          have hc109 : w11.cell? ⟨wr.heap.size, 1, none⟩ = some (.slice L1 ns q1) := by rw [cell_of_row _ _ _ _ _ _ HF106.out]; rfl
          have hc110 : w11.cell? ⟨wr.heap.size, 2, none⟩ = some (.slice M1 np r1) := by rw [cell_of_row _ _ _ _ _ _ HF106.out]; rfl
          go_wp2_with fail
          go_ret
          exact ⟨retI HR.out, (fun q => by have := HR.out.trans q; omega), HB1.out, by omega⟩
      | false =>
        have HR := Lib.hid (show wrN i (X.drop (k + 1)) = wrN ⟨#[]⟩ X by rw [← HI.out, HZ2.out, if_neg (by rw [hle]; simp)])
        obtain ⟨g1, g2⟩ : Op.bytesLess i.toList p.toList = false ∧ (i.toList == p.toList) = false := by
          rcases leS_cases i p with ⟨_, g⟩ | ⟨_, _, g⟩ | ⟨g1, g2, _⟩
          · rw [hle] at g; cases g
          · rw [hle] at g; cases g
          · exact ⟨g1, g2⟩
        obtain ⟨w12, hrun, hset, hgrow⟩ := HST1.out.put i HIS.out HLK.out
        have HSET := Lib.hid hset
        have HB2 := Lib.hid (HB1.out.grown hgrow (by omega) (fun k hk => by injection hk with hk; omega))
        clear hset hgrow hle
        have hc108 : w11.cell? ⟨wr.heap.size, 0, none⟩ = some (.string i) := by rw [cell_of_row _ _ _ _ _ _ HF106.out]; rfl
        have hc109 : w11.cell? ⟨wr.heap.size, 1, none⟩ = some (.slice L1 ns q1) := by rw [cell_of_row _ _ _ _ _ _ HF106.out]; rfl
        have hc110 : w11.cell? ⟨wr.heap.size, 2, none⟩ = some (.slice M1 np r1) := by rw [cell_of_row _ _ _ _ _ _ HF106.out]; rfl
        go_wp2_with fail
        clear hc108 hc109 hc110
        clear hrun
        go_roundw
        case rel => exact ⟨k + 1, by rw [HPS.out], by go_num, by omega, Lib.hid (by rw [HPS.out]; exact HR.out), by rw [HTK.out]; exact HSET.out, HB2.out⟩
        case measure => simp [intOf] <;> omega
    · have hd1 : decide ((k : Int) < (n : Int)) = false := decide_eq_false (by omega)
      have HR := Lib.hid (show (0 : Int) = wrN ⟨#[]⟩ X by rw [← HI.out, List.drop_eq_nil_of_le (by have := HL.out.1; omega)]; rfl)
      have HE := Lib.hid (show X.take k = X from List.take_of_length_le (by have := HL.out.1; omega))
      rw [HE.out] at HST
      go_wp2_with fail
      go_ret
      exact ⟨retI HR.out, (fun _ => HST.out), HB.out, hsz⟩
end Go.Proofs.YtagenkofoacajaaGreat
namespace Go.Proofs.YtagenkofoacajaaGreat
open Go.RowKit Vi Go.WideMaps Go.Maps

theorem inN_ids (X : List Nd) (s : ByteArray) : (X.map (·.1)).any (fun x => x.toList == s.toList) = inN X s := by
  unfold inN
  rw [List.any_map]; rfl
set_option maxRecDepth 100000 in
set_option maxHeartbeats 4000000 in
theorem chkedges_any (w0 : World) (B : Nat) (A A2 : Option Addr) (n n2 c2 : Nat) (X : List Nd) (Y : List Ed) (w : World) (h : GrIs w0 A n A2 n2 X Y) (k : GrOk X Y) (hn : n2 ≤ 1000000) (hw0 : Below w0.heap.size w0 w) (hB : SetM w B (X.map (·.1))) :
    Calls Tryz.prog 80 #[.slice A2 n2 c2, .map (some B)] w fun e w' => e = .returned (.int .i64 (wrE X ⟨#[]⟩ Y)) ∧ Below w.heap.size w w' := by
  have H := Lib.hid h
  have HL := Lib.hid h.nl
  have KE := Lib.hid k.ed
  have HS := Lib.hid hB
  have H0 := Lib.hid hw0
  clear h k hB hw0
  go_enter Tryz.func80, Tryz.ntmps80
  go_wp2_with fail
  go_loopw [5, 15] (fun s j wr => ∃ k : Nat, s = .string (prevE Y k) ∧ j = .int .i64 (k : Int) ∧ k ≤ n2 ∧ Hid (wrE X (prevE Y k) (Y.drop k) = wrE X ⟨#[]⟩ Y) ∧ Below w.heap.size w wr) (fun _ j _ => n2 - (intOf j).toNat)
  case atStart => exact ⟨0, rfl, rfl, Nat.zero_le _, Lib.hid rfl, Below.refl _ _⟩
  case round =>
    obtain ⟨k, rfl, rfl, hk, HI, hb⟩ := hrel
    have HB := Lib.hid hb
    have HB0 := Lib.hid (H0.out.trans (hb.mono H0.out.size))
    have HST := Lib.hid (HS.out.kept (hb.block B HS.out.lt))
    clear hb
    by_cases hlt : k < n2
    · have hd1 : decide ((k : Int) < (n2 : Int)) = true := decide_eq_true (by omega)
      have hi0 : (0 : Int) ≤ (k : Int) := by omega
      have hkl : k < Y.length := by have := HL.out.2; omega
      obtain ⟨x, hxx⟩ : ∃ x, x = Y[k] := ⟨_, rfl⟩
      have HK := Lib.hid (show Y[k]? = some x by rw [List.getElem?_eq_getElem hkl, hxx])
      have hok := KE.out x (by rw [hxx]; exact List.getElem_mem hkl)
      clear hxx
      obtain ⟨b1, o1, L1, q1, r1, M1, rfl, x0, x1, x2, x3, x4, hp1⟩ := (H.out.below HB0.out).edge hlt HK.out
      have HZ := Lib.hid (show wrE X (prevE Y k) (Y.drop k) = if edE x ≠ 0 then edE x else if leS x.1 (prevE Y k) = true then 4 else if inN X x.2.1 = false ∨ inN X x.2.2.1 = false then 9 else wrE X x.1 (Y.drop (k + 1)) by rw [drop_at HK.out]; rfl)
      have HPS := Lib.hid (prevE_succ Y k HK.out)
      obtain ⟨i, f, g, ss, ps⟩ := x
      dsimp only at x0 x1 x2 x3 x4 hp1 HZ HPS hok
      have HC := Lib.hid (fun (W : World) (g1 : LP W L1 ss.length ss M1 ps.length ps) => cedge_any i f g L1 M1 ss.length q1 ps.length r1 ss ps W g1 hok.2.2.2 hok.1 hok.2.1 hok.2.2.1)
      have HFS := Lib.hid hok.2.1
      have HGS := Lib.hid hok.2.2.1
      have HP1 := Lib.hid hp1
      clear hp1 hok
      obtain ⟨z, hz⟩ : ∃ z, z = edE (i, f, g, ss, ps) := ⟨_, rfl⟩
      rw [← hz] at HZ
      have HC : Hid (∀ (W : World) (_ : LP W L1 ss.length ss M1 ps.length ps), Calls Tryz.prog 108 #[.agg #[.string i, .string f, .string g, .slice L1 ss.length q1, .slice M1 ps.length r1]] W fun e w' => e = .returned (.int .i64 z) ∧ Below W.heap.size W w') := by rw [hz]; exact HC
      clear hz
      generalize ss.length = ns at *
      generalize ps.length = np at *
      generalize prevE Y k = p at HZ HI ⊢
      have HX0 := Lib.hid (Below.refl wr.heap.size wr)
      have HF101 := Lib.hid (blk_new wr (.cells #[.string i, .string f, .string g, .slice L1 ns q1, .slice M1 np r1] 36 (0, 0)))
      have HB102 := Lib.hid (HX0.out.alloc HX0.out.size (.cells #[.string i, .string f, .string g, .slice L1 ns q1, .slice M1 np r1] 36 (0, 0)))
      clear HX0
      have hc103 : (wr.alloc (.cells #[.string i, .string f, .string g, .slice L1 ns q1, .slice M1 np r1] 36 (0, 0))).cell? ⟨wr.heap.size, 0, none⟩ = some (.string i) := by rw [cell_of_row _ _ _ _ _ _ HF101.out]; rfl
      have hc104 : (wr.alloc (.cells #[.string i, .string f, .string g, .slice L1 ns q1, .slice M1 np r1] 36 (0, 0))).cell? ⟨wr.heap.size, 1, none⟩ = some (.string f) := by rw [cell_of_row _ _ _ _ _ _ HF101.out]; rfl
      have hc105 : (wr.alloc (.cells #[.string i, .string f, .string g, .slice L1 ns q1, .slice M1 np r1] 36 (0, 0))).cell? ⟨wr.heap.size, 2, none⟩ = some (.string g) := by rw [cell_of_row _ _ _ _ _ _ HF101.out]; rfl
      have hc106 : (wr.alloc (.cells #[.string i, .string f, .string g, .slice L1 ns q1, .slice M1 np r1] 36 (0, 0))).cell? ⟨wr.heap.size, 3, none⟩ = some (.slice L1 ns q1) := by rw [cell_of_row _ _ _ _ _ _ HF101.out]; rfl
      have hc107 : (wr.alloc (.cells #[.string i, .string f, .string g, .slice L1 ns q1, .slice M1 np r1] 36 (0, 0))).cell? ⟨wr.heap.size, 4, none⟩ = some (.slice M1 np r1) := by rw [cell_of_row _ _ _ _ _ _ HF101.out]; rfl
      go_wp2_with fail
      clear hc103 hc104 hc105 hc106 hc107
      refine (HC.out (wr.alloc (.cells #[.string i, .string f, .string g, .slice L1 ns q1, .slice M1 np r1] 36 (0, 0))) (HP1.out.below HB102.out)).mono ?_
      rintro e w11 ⟨rfl, hb11⟩
      have HF108 := Lib.hid (blk_below HF101.out hb11)
      have HB109 := Lib.hid (HB102.out.trans (hb11.mono HB102.out.size))
      clear hb11 HB102 HF101
      have HST1 := Lib.hid (HST.out.kept (HB109.out.block B HST.out.lt))
      have HB1 := Lib.hid (HB.out.trans (HB109.out.mono HB.out.size))
      clear x0 x1 x2 x3 x4
      by_cases hz : z = 0
      rotate_left
      · have hzn : (z != 0) = true := by simpa using hz
        have HR := Lib.hid (show z = wrE X ⟨#[]⟩ Y by rw [← HI.out, HZ.out, if_pos hz])
        clear hz
        go_wp2_with fail
        go_ret
        exact ⟨retI HR.out, HB1.out⟩
      have HZ2 := Lib.hid (show wrE X p (Y.drop k) = if leS i p = true then 4 else if inN X f = false ∨ inN X g = false then 9 else wrE X i (Y.drop (k + 1)) by rw [HZ.out, if_neg (by simpa using hz)])
      subst hz
      cases hle : leS i p with
      | true =>
        have HR := Lib.hid (show (4 : Int) = wrE X ⟨#[]⟩ Y by rw [← HI.out, HZ2.out, if_pos hle])
        rcases leS_three hle with g1 | ⟨g1, g2⟩
        all_goals
          clear hle
          have hc110 : w11.cell? ⟨wr.heap.size, 0, none⟩ = some (.string i) := by rw [cell_of_row _ _ _ _ _ _ HF108.out]; rfl
          have hc111 : w11.cell? ⟨wr.heap.size, 1, none⟩ = some (.string f) := by rw [cell_of_row _ _ _ _ _ _ HF108.out]; rfl
          have hc112 : w11.cell? ⟨wr.heap.size, 2, none⟩ = some (.string g) := by rw [cell_of_row _ _ _ _ _ _ HF108.out]; rfl
          have hc113 : w11.cell? ⟨wr.heap.size, 3, none⟩ = some (.slice L1 ns q1) := by rw [cell_of_row _ _ _ _ _ _ HF108.out]; rfl
          have hc114 : w11.cell? ⟨wr.heap.size, 4, none⟩ = some (.slice M1 np r1) := by rw [cell_of_row _ _ _ _ _ _ HF108.out]; rfl
          go_wp2_with fail
          go_ret
          exact ⟨retI HR.out, HB1.out⟩
      | false =>
        have HZ3 := Lib.hid (show wrE X p (Y.drop k) = if inN X f = false ∨ inN X g = false then 9 else wrE X i (Y.drop (k + 1)) by rw [HZ2.out, if_neg (by rw [hle]; simp)])
        obtain ⟨g1, g2⟩ : Op.bytesLess i.toList p.toList = false ∧ (i.toList == p.toList) = false := by
          rcases leS_cases i p with ⟨_, g⟩ | ⟨_, _, g⟩ | ⟨g1, g2, _⟩
          · rw [hle] at g; cases g
          · rw [hle] at g; cases g
          · exact ⟨g1, g2⟩
        clear hle
        have l1 := HST1.out.look f HFS.out
        have l2 := (HST1.out.kept (Below.heap_alloc w11 (.cells #[] 157 (0, 0)) B HST1.out.lt)).look g HGS.out
        rw [inN_ids] at l1 l2
        have HB3 := Lib.hid ((HB1.out.alloc HB1.out.size (.cells #[] 157 (0, 0))).alloc (by have := HB1.out.size; simp at this ⊢ <;> omega) (.cells #[] 157 (0, 0)))
        cases hf : inN X f with
        | false =>
          cases hg : inN X g with
          | false =>
            rw [hf] at l1
            rw [hg] at l2
            have HR := Lib.hid (show (9 : Int) = wrE X ⟨#[]⟩ Y by rw [← HI.out, HZ3.out, if_pos (by rw [hf, hg]; simp)])
            clear hf hg
            have hc110 : w11.cell? ⟨wr.heap.size, 0, none⟩ = some (.string i) := by rw [cell_of_row _ _ _ _ _ _ HF108.out]; rfl
            have hc111 : w11.cell? ⟨wr.heap.size, 1, none⟩ = some (.string f) := by rw [cell_of_row _ _ _ _ _ _ HF108.out]; rfl
            have hc112 : w11.cell? ⟨wr.heap.size, 2, none⟩ = some (.string g) := by rw [cell_of_row _ _ _ _ _ _ HF108.out]; rfl
            have hc113 : w11.cell? ⟨wr.heap.size, 3, none⟩ = some (.slice L1 ns q1) := by rw [cell_of_row _ _ _ _ _ _ HF108.out]; rfl
            have hc114 : w11.cell? ⟨wr.heap.size, 4, none⟩ = some (.slice M1 np r1) := by rw [cell_of_row _ _ _ _ _ _ HF108.out]; rfl
            have u0 : (w11.alloc (.cells #[] 157 (0, 0))).cell? ⟨wr.heap.size, 0, none⟩ = some (.string i) := by rw [cell_of_row _ _ _ _ _ _ (blk_alloc HF108.out (.cells #[] 157 (0, 0)))]; rfl
            have u2 : (w11.alloc (.cells #[] 157 (0, 0))).cell? ⟨wr.heap.size, 2, none⟩ = some (.string g) := by rw [cell_of_row _ _ _ _ _ _ (blk_alloc HF108.out (.cells #[] 157 (0, 0)))]; rfl
            go_wp2_with fail
            go_ret
            exact ⟨retI HR.out, HB3.out⟩
          | true =>
            rw [hf] at l1
            rw [hg] at l2
            have HR := Lib.hid (show (9 : Int) = wrE X ⟨#[]⟩ Y by rw [← HI.out, HZ3.out, if_pos (by rw [hf, hg]; simp)])
            clear hf hg
            have hc110 : w11.cell? ⟨wr.heap.size, 0, none⟩ = some (.string i) := by rw [cell_of_row _ _ _ _ _ _ HF108.out]; rfl
            have hc111 : w11.cell? ⟨wr.heap.size, 1, none⟩ = some (.string f) := by rw [cell_of_row _ _ _ _ _ _ HF108.out]; rfl
            have hc112 : w11.cell? ⟨wr.heap.size, 2, none⟩ = some (.string g) := by rw [cell_of_row _ _ _ _ _ _ HF108.out]; rfl
            have hc113 : w11.cell? ⟨wr.heap.size, 3, none⟩ = some (.slice L1 ns q1) := by rw [cell_of_row _ _ _ _ _ _ HF108.out]; rfl
            have hc114 : w11.cell? ⟨wr.heap.size, 4, none⟩ = some (.slice M1 np r1) := by rw [cell_of_row _ _ _ _ _ _ HF108.out]; rfl
            have u0 : (w11.alloc (.cells #[] 157 (0, 0))).cell? ⟨wr.heap.size, 0, none⟩ = some (.string i) := by rw [cell_of_row _ _ _ _ _ _ (blk_alloc HF108.out (.cells #[] 157 (0, 0)))]; rfl
            have u2 : (w11.alloc (.cells #[] 157 (0, 0))).cell? ⟨wr.heap.size, 2, none⟩ = some (.string g) := by rw [cell_of_row _ _ _ _ _ _ (blk_alloc HF108.out (.cells #[] 157 (0, 0)))]; rfl
            go_wp2_with fail
            go_ret
            exact ⟨retI HR.out, HB3.out⟩
        | true =>
          cases hg : inN X g with
          | false =>
            rw [hf] at l1
            rw [hg] at l2
            have HR := Lib.hid (show (9 : Int) = wrE X ⟨#[]⟩ Y by rw [← HI.out, HZ3.out, if_pos (by rw [hf, hg]; simp)])
            clear hf hg
            have hc110 : w11.cell? ⟨wr.heap.size, 0, none⟩ = some (.string i) := by rw [cell_of_row _ _ _ _ _ _ HF108.out]; rfl
            have hc111 : w11.cell? ⟨wr.heap.size, 1, none⟩ = some (.string f) := by rw [cell_of_row _ _ _ _ _ _ HF108.out]; rfl
            have hc112 : w11.cell? ⟨wr.heap.size, 2, none⟩ = some (.string g) := by rw [cell_of_row _ _ _ _ _ _ HF108.out]; rfl
            have hc113 : w11.cell? ⟨wr.heap.size, 3, none⟩ = some (.slice L1 ns q1) := by rw [cell_of_row _ _ _ _ _ _ HF108.out]; rfl
            have hc114 : w11.cell? ⟨wr.heap.size, 4, none⟩ = some (.slice M1 np r1) := by rw [cell_of_row _ _ _ _ _ _ HF108.out]; rfl
            have u0 : (w11.alloc (.cells #[] 157 (0, 0))).cell? ⟨wr.heap.size, 0, none⟩ = some (.string i) := by rw [cell_of_row _ _ _ _ _ _ (blk_alloc HF108.out (.cells #[] 157 (0, 0)))]; rfl
            have u2 : (w11.alloc (.cells #[] 157 (0, 0))).cell? ⟨wr.heap.size, 2, none⟩ = some (.string g) := by rw [cell_of_row _ _ _ _ _ _ (blk_alloc HF108.out (.cells #[] 157 (0, 0)))]; rfl
            go_wp2_with fail
            go_ret
            exact ⟨retI HR.out, HB3.out⟩
          | true =>
            rw [hf] at l1
            rw [hg] at l2
            have HR := Lib.hid (show wrE X i (Y.drop (k + 1)) = wrE X ⟨#[]⟩ Y by rw [← HI.out, HZ3.out, if_neg (by rw [hf, hg]; simp)])
            clear hf hg
            have hc110 : w11.cell? ⟨wr.heap.size, 0, none⟩ = some (.string i) := by rw [cell_of_row _ _ _ _ _ _ HF108.out]; rfl
            have hc111 : w11.cell? ⟨wr.heap.size, 1, none⟩ = some (.string f) := by rw [cell_of_row _ _ _ _ _ _ HF108.out]; rfl
            have hc112 : w11.cell? ⟨wr.heap.size, 2, none⟩ = some (.string g) := by rw [cell_of_row _ _ _ _ _ _ HF108.out]; rfl
            have hc113 : w11.cell? ⟨wr.heap.size, 3, none⟩ = some (.slice L1 ns q1) := by rw [cell_of_row _ _ _ _ _ _ HF108.out]; rfl
            have hc114 : w11.cell? ⟨wr.heap.size, 4, none⟩ = some (.slice M1 np r1) := by rw [cell_of_row _ _ _ _ _ _ HF108.out]; rfl
            have u0 : (w11.alloc (.cells #[] 157 (0, 0))).cell? ⟨wr.heap.size, 0, none⟩ = some (.string i) := by rw [cell_of_row _ _ _ _ _ _ (blk_alloc HF108.out (.cells #[] 157 (0, 0)))]; rfl
            have u2 : (w11.alloc (.cells #[] 157 (0, 0))).cell? ⟨wr.heap.size, 2, none⟩ = some (.string g) := by rw [cell_of_row _ _ _ _ _ _ (blk_alloc HF108.out (.cells #[] 157 (0, 0)))]; rfl
            go_wp2_with fail
            go_roundw
            case rel => exact ⟨k + 1, by rw [HPS.out], by go_num, by omega, Lib.hid (by rw [HPS.out]; exact HR.out), HB3.out⟩
            case measure => simp [intOf] <;> omega
    · have hd1 : decide ((k : Int) < (n2 : Int)) = false := decide_eq_false (by omega)
      have HR := Lib.hid (show (0 : Int) = wrE X ⟨#[]⟩ Y by rw [← HI.out, List.drop_eq_nil_of_le (by have := HL.out.2; omega)]; rfl)
      go_wp2_with fail
      go_ret
      exact ⟨retI HR.out, HB.out⟩
set_option maxRecDepth 100000 in
set_option maxHeartbeats 4000000 in
theorem gcheck_any (A A2 : Option Addr) (n c n2 c2 : Nat) (X : List Nd) (Y : List Ed) (w : World) (h : GrIs w A n A2 n2 X Y) (k : GrOk X Y) :
    Calls Tryz.prog 55 #[.agg #[.slice A n c, .slice A2 n2 c2]] w fun e w' => e = .returned (.int .i64 (gW X Y)) ∧ Below w.heap.size w w' := by
  have H := Lib.hid h
  have K := Lib.hid k
  have HL := Lib.hid h.nl
  clear h k
  have hmm := fun W : World => run_makeMap (P := Tryz.prog) 125 W
  by_cases g1 : n ≤ 500
  rotate_left
  · have d1 : decide ((500 : Int) < (n : Int)) = true := decide_eq_true (by omega)
    have HR := Lib.hid (show (5 : Int) = gW X Y by unfold gW; rw [if_pos (Or.inl (by have := HL.out; omega))])
    have HB1 := Lib.hid (Below.refl w.heap.size w)
    go_enter Tryz.func55, Tryz.ntmps55
    have HF2 := Lib.hid (blk_new w (.cells #[.slice A n c, .slice A2 n2 c2] 25 (0, 0)))
    have HB3 := Lib.hid (HB1.out.alloc HB1.out.size (.cells #[.slice A n c, .slice A2 n2 c2] 25 (0, 0)))
    clear HB1
    have hc4 : (w.alloc (.cells #[.slice A n c, .slice A2 n2 c2] 25 (0, 0))).cell? ⟨w.heap.size, 0, none⟩ = some (.slice A n c) := by rw [cell_of_row _ _ _ _ _ _ HF2.out]; rfl
    have hc5 : (w.alloc (.cells #[.slice A n c, .slice A2 n2 c2] 25 (0, 0))).cell? ⟨w.heap.size, 1, none⟩ = some (.slice A2 n2 c2) := by rw [cell_of_row _ _ _ _ _ _ HF2.out]; rfl
    go_wp2_with fail
    go_ret
    exact ⟨retI HR.out, HB3.out⟩
  have d1 : decide ((500 : Int) < (n : Int)) = false := decide_eq_false (by omega)
  by_cases g2 : n2 ≤ 1000
  rotate_left
  · have d2 : decide ((1000 : Int) < (n2 : Int)) = true := decide_eq_true (by omega)
    have HR := Lib.hid (show (5 : Int) = gW X Y by unfold gW; rw [if_pos (Or.inr (by have := HL.out; omega))])
    have HB1 := Lib.hid (Below.refl w.heap.size w)
    go_enter Tryz.func55, Tryz.ntmps55
    have HF2 := Lib.hid (blk_new w (.cells #[.slice A n c, .slice A2 n2 c2] 25 (0, 0)))
    have HB3 := Lib.hid (HB1.out.alloc HB1.out.size (.cells #[.slice A n c, .slice A2 n2 c2] 25 (0, 0)))
    clear HB1
    have hc4 : (w.alloc (.cells #[.slice A n c, .slice A2 n2 c2] 25 (0, 0))).cell? ⟨w.heap.size, 0, none⟩ = some (.slice A n c) := by rw [cell_of_row _ _ _ _ _ _ HF2.out]; rfl
    have hc5 : (w.alloc (.cells #[.slice A n c, .slice A2 n2 c2] 25 (0, 0))).cell? ⟨w.heap.size, 1, none⟩ = some (.slice A2 n2 c2) := by rw [cell_of_row _ _ _ _ _ _ HF2.out]; rfl
    go_wp2_with fail
    go_ret
    exact ⟨retI HR.out, HB3.out⟩
  have d2 : decide ((1000 : Int) < (n2 : Int)) = false := decide_eq_false (by omega)
  have HV := Lib.hid (show gW X Y = if wrN ⟨#[]⟩ X ≠ 0 then wrN ⟨#[]⟩ X else wrE X ⟨#[]⟩ Y by unfold gW; rw [if_neg (by have := HL.out; omega)])
  have HB1 := Lib.hid (Below.refl w.heap.size w)
  go_enter Tryz.func55, Tryz.ntmps55
  have HF2 := Lib.hid (blk_new w (.cells #[.slice A n c, .slice A2 n2 c2] 25 (0, 0)))
  have HB3 := Lib.hid (HB1.out.alloc HB1.out.size (.cells #[.slice A n c, .slice A2 n2 c2] 25 (0, 0)))
  clear HB1
  have hc4 : (w.alloc (.cells #[.slice A n c, .slice A2 n2 c2] 25 (0, 0))).cell? ⟨w.heap.size, 0, none⟩ = some (.slice A n c) := by rw [cell_of_row _ _ _ _ _ _ HF2.out]; rfl
  have hc5 : (w.alloc (.cells #[.slice A n c, .slice A2 n2 c2] 25 (0, 0))).cell? ⟨w.heap.size, 1, none⟩ = some (.slice A2 n2 c2) := by rw [cell_of_row _ _ _ _ _ _ HF2.out]; rfl
  have HM := Lib.hid (blk_alloc HF2.out (.map #[] 0))
  have HBM := Lib.hid (HB3.out.alloc HB3.out.size (.map #[] 0))
  have HSM : Hid (SetM ((w.alloc (.cells #[.slice A n c, .slice A2 n2 c2] 25 (0, 0))).alloc (.map #[] 0)) (w.heap.size + 1) []) := Lib.hid (by have q := SetM.made (w.alloc (.cells #[.slice A n c, .slice A2 n2 c2] 25 (0, 0))); simpa using q)
  have m0 : ((w.alloc (.cells #[.slice A n c, .slice A2 n2 c2] 25 (0, 0))).alloc (.map #[] 0)).cell? ⟨w.heap.size, 0, none⟩ = some (.slice A n c) := by rw [cell_of_row _ _ _ _ _ _ HM.out]; rfl
  have m1 : ((w.alloc (.cells #[.slice A n c, .slice A2 n2 c2] 25 (0, 0))).alloc (.map #[] 0)).cell? ⟨w.heap.size, 1, none⟩ = some (.slice A2 n2 c2) := by rw [cell_of_row _ _ _ _ _ _ HM.out]; rfl
  go_wp2_with fail
  clear hc4 hc5
  clear m0 m1 d1 d2
  refine (chknodes_any w (w.heap.size + 1) (w.heap.size + 1) A A2 n c n2 X Y _ H.out K.out (by omega) HBM.out (by omega) (Nat.le_refl _) HSM.out).mono ?_
  rintro e w1 ⟨rfl, hset, hb, hsz⟩
  have HA1 := Lib.hid ((hb.block w.heap.size (by omega)).trans HM.out)
  have HB1 := Lib.hid (HBM.out.trans (hb.mono (by omega)))
  have HSE := Lib.hid hset
  clear hset hb
  obtain ⟨z, hz⟩ : ∃ z, z = wrN ⟨#[]⟩ X := ⟨_, rfl⟩
  rw [← hz] at HV HSE
  rw [← hz]
  clear hz
  by_cases hz : z = 0
  rotate_left
  · have hzn : (z != 0) = true := by simpa using hz
    have HR := Lib.hid (show z = gW X Y by rw [HV.out, if_pos hz])
    clear hz
    go_wp2_with fail
    go_ret
    exact ⟨retI HR.out, HB1.out⟩
  have HS2 := Lib.hid (HSE.out hz)
  have HR := Lib.hid (show wrE X ⟨#[]⟩ Y = gW X Y by rw [HV.out, if_neg (by simpa using hz)])
  subst hz
  have m0 : w1.cell? ⟨w.heap.size, 0, none⟩ = some (.slice A n c) := by rw [cell_of_row _ _ _ _ _ _ HA1.out]; rfl
  have m1 : w1.cell? ⟨w.heap.size, 1, none⟩ = some (.slice A2 n2 c2) := by rw [cell_of_row _ _ _ _ _ _ HA1.out]; rfl
  go_wp2_with fail
  refine (chkedges_any w (w.heap.size + 1) A A2 n n2 c2 X Y w1 H.out K.out (by omega) HB1.out HS2.out).mono ?_
  rintro e w2 ⟨rfl, hb⟩
  have HB2 := Lib.hid (HB1.out.trans (hb.mono HB1.out.size))
  clear hb m0 m1
  rw [HR.out]
  go_wp2_with fail
  go_ret
  exact ⟨rfl, HB2.out⟩
end Go.Proofs.YtagenkofoacajaaGreat
