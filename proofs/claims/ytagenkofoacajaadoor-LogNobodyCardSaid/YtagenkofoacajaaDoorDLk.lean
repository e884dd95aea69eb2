/- slices.Backward of a row of writes, as what is ranged over, over this translation. Condition: less than a million writes. -/
import Derived.RangeFuncNested
import Derived.RangeFuncBound
import Derived.RangeFuncCalls
import Derived.RangeFuncLeaves
import Derived.Shelf.Abstract
import Derived.Shelf.RegionOpen
import Derived.WalkKit
import Derived.OwnWalkIn
import Derived.TacticsInMore
import Derived.LoopNIn
import Derived.LoopIn
import Derived.Test.YtagenkofoacajaaDoorDLj
namespace Go.Proofs.YtagenkofoacajaaDoor
open Go.RowKit Go.Shelf Vi
attribute [local go_sem] Oper.semAt_some

/-- what has come when k rounds are over -/
def bwU (CC : List Wr) (k : Nat) : List (Int × Wr) := (List.range k).map fun j => (((CC.length - 1 - j : Nat) : Int), (CC[CC.length - 1 - j]?).getD (0, ⟨#[]⟩))
theorem bwU_succ (CC : List Wr) (k : Nat) : bwU CC (k + 1) = bwU CC k ++ [(((CC.length - 1 - k : Nat) : Int), (CC[CC.length - 1 - k]?).getD (0, ⟨#[]⟩))] := by simp [bwU, List.range_succ]
theorem bwU_len (CC : List Wr) (k : Nat) : (bwU CC k).length = k := by simp [bwU]
theorem bwU_pre (CC : List Wr) {k n : Nat} (h : k ≤ n) : bwU CC k <+: bwU CC n := by
  have e : List.range k = (List.range n).take k := by
    rw [List.take_range, Nat.min_eq_left h]
  have q : List.range k <+: List.range n := by rw [e]; exact List.take_prefix _ _
  exact q.map _
abbrev bwE (x : Int × Wr) : Array Value := #[.int .i64 x.1, .agg #[.int .i64 x.2.1, .string x.2.2]]
set_option maxRecDepth 100000 in
set_option maxHeartbeats 2000000 in
theorem back1_in (F : Fence) (n : Nat) (hg : F.fn 127) (hro : F.round = none) (hn : 1 ≤ n) (l Bs n₀ : Nat) (A : Option Addr) (cap : Nat) (CC : List Wr) (hl : CC.length ≤ 1000000) (J Jx : List (Int × Wr) → World → Prop)
    (hY : ∀ pre x W, J pre W → pre.length < CC.length → YieldAt F (n - 1) Tryd.prog l (bwE x) W fun e W' =>
      (e = .returned (.bool true) ∧ J (pre ++ [x]) W' ∧ Below n₀ W W') ∨ (e = .returned (.bool false) ∧ Jx (pre ++ [x]) W'))
    (W : World) (hBs : W.cell? ⟨Bs, 0, none⟩ = some (.slice A CC.length cap)) (hBl : Bs < n₀) (hr : RdX wrC 2 W A CC.length CC) (hA : ∀ b o, A = some ⟨b, o, none⟩ → b < n₀) (h0 : J [] W) :
    CallsIn F n Tryd.prog 127 #[.func (.yield l) #[] #[], .pointer (some ⟨Bs, 0, none⟩)] W fun e W' => (∃ v, e = .returned v) ∧
      ((∃ ys, ys = bwU CC CC.length ∧ J ys W') ∨ (∃ pre, pre <+: bwU CC CC.length ∧ Jx pre W')) := by
  have HR := Lib.hid hr
  have HA := Lib.hid hA
  have HBS := Lib.hid hBs
  clear hr hA
  refine callsIn_of_wp Tryd.func127 rfl hg ?_ hro
  simp only [Tryd.ntmps127, List.size_toArray, List.length_cons, List.length_nil, Nat.reduceAdd, Nat.reduceSub, Array.replicate_succ, Array.replicate_zero, List.push_toArray, List.append_toArray, List.nil_append, List.cons_append]
  gi_wp2
  clear hBs
  gi_loopw [3] (fun i wr => ∃ m : Nat, m ≤ CC.length ∧ i = .int .i64 ((m : Int) - 1) ∧ J (bwU CC (CC.length - m)) wr ∧ Below n₀ W wr) (fun i _ => (intOf i + 1).toNat)
  case atStart => exact ⟨CC.length, Nat.le_refl _, rfl, by rw [Nat.sub_self]; exact h0, Below.refl _ _⟩
  case round =>
    obtain ⟨m, hm, rfl, hJs, hnx⟩ := hrel
    have HNX := Lib.hid hnx
    clear hnx
    cases m with
    | zero =>
      have HJ := Lib.hid (show J (bwU CC CC.length) wr by simpa using hJs)
      clear hJs
      gi_wp2
      go_end0
      exact ⟨⟨_, rfl⟩, .inl ⟨_, rfl, HJ.out⟩⟩
    | succ p =>
      have e : (((p + 1 : Nat) : Int) - 1) = (p : Int) := by omega
      rw [e]
      clear e
      have hp0 : (0 : Int) ≤ (p : Int) := by omega
      have hlt : p < CC.length := by omega
      obtain ⟨b, off, _, hAe, _, _⟩ := HR.out.at hlt
      obtain ⟨x, hx⟩ : ∃ x, CC[p]? = some x := ⟨_, List.getElem?_eq_getElem hlt⟩
      obtain rfl := hAe
      have hbl : b < n₀ := HA.out b off rfl
      have HJ := Lib.hid hJs
      have HS : Hid (bwU CC (CC.length - p) = bwU CC (CC.length - (p + 1)) ++ [((p : Int), x)]) := Lib.hid (by
        have e1 : CC.length - p = CC.length - (p + 1) + 1 := by omega
        have e2 : CC.length - 1 - (CC.length - (p + 1)) = p := by omega
        rw [e1, bwU_succ, e2, hx]; rfl)
      obtain ⟨at0, s⟩ := x
      have c0 : wr.cell? ⟨b, off + p * 2, none⟩ = some (.int .i64 at0) := by
        have q := HR.out.cellAt hx hlt 0 _ rfl
        rw [HNX.out.cell (p := ⟨b, off + p * 2, none⟩) hbl]; exact q
      have c1 : wr.cell? ⟨b, off + p * 2 + 1, none⟩ = some (.string s) := by
        have q := HR.out.cellAt hx hlt 1 _ rfl
        rw [HNX.out.cell (p := ⟨b, off + p * 2 + 1, none⟩) hbl]; exact q
      have cs : wr.cell? ⟨Bs, 0, none⟩ = some (.slice (some ⟨b, off, none⟩) CC.length cap) := by rw [HNX.out.cell (p := ⟨Bs, 0, none⟩) hBl]; exact HBS.out
      obtain ⟨fn, tmps, assign, body, hy, hR⟩ := hY _ ((p : Int), (at0, s)) wr hJs (by rw [bwU_len]; omega)
      dsimp only [bwE] at hy
      have hpl : (p : Int) < (CC.length : Int) := by omega
      clear hx hJs
      gi_wp2
      refine hR.mono ?_
      rintro e W3 (⟨rfl, hJ3, hk3⟩ | ⟨rfl, hJx3⟩)
      · have HJ3 := Lib.hid hJ3
        have HK3 := Lib.hid (HNX.out.trans hk3)
        clear hJ3 hk3
        gi_wp2
        go_roundw
        case rel => exact ⟨p, by omega, rfl, by rw [HS.out]; exact HJ3.out, HK3.out⟩
        case measure => simp [intOf] <;> omega
      · have HJ3 := Lib.hid hJx3
        clear hJx3
        gi_wp2
        refine bodyPost_ret (results_none rfl _ _ _) rfl ?_
        exact ⟨⟨_, rfl⟩, .inr ⟨_, by rw [← HS.out]; exact bwU_pre CC (by omega), HJ3.out⟩⟩
set_option maxHeartbeats 1000000 in
theorem back_in (F : Fence) (n : Nat) (hg : F.fn 99) (hro : F.round = none) (a : Option Addr) (len cap : Nat) (w : World) :
    CallsIn F n Tryd.prog 99 #[.slice a len cap] w fun e w' => e = .returned (.func (.func 127) #[] #[.pointer (some ⟨w.heap.size, 0, none⟩)]) ∧ w' = w.alloc (.cells #[.slice a len cap] 92) := by
  refine callsIn_of_wp Tryd.func99 rfl hg ?_ hro
  simp only [Tryd.ntmps99, List.size_toArray, List.length_cons, List.length_nil, Nat.reduceAdd, Nat.reduceSub, Array.replicate_succ, Array.replicate_zero, List.push_toArray, List.append_toArray, List.nil_append, List.cons_append]
  gi_wp2
  go_ret
  exact ⟨rfl, rfl⟩
theorem back_stops (F : Fence) (n : Nat) (hg : F.fn 127) (hro : F.round = none) (hn : 1 ≤ n) (Bs : Nat) (A : Option Addr) (cap : Nat) (CC : List Wr) (hl : CC.length ≤ 1000000) (w : World) (hBs : Bs < w.heap.size)
    (hc : w.cell? ⟨Bs, 0, none⟩ = some (.slice A CC.length cap)) (hr : RdX wrC 2 w A CC.length CC) (hA : ∀ b o, A = some ⟨b, o, none⟩ → b < w.heap.size) :
    SeqStopsK F n Tryd.prog 127 #[.pointer (some ⟨Bs, 0, none⟩)] bwE (Below w.heap.size) (fun ys => ys = bwU CC CC.length) (fun pre => pre <+: bwU CC CC.length) CC.length w := fun l J Jx W hW _ _ hY h0 =>
  back1_in F n hg hro hn l Bs w.heap.size A cap CC hl J Jx hY W ((hW.cell (p := ⟨Bs, 0, none⟩) hBs).trans hc) hBs (hr.below hW) hA h0
end Go.Proofs.YtagenkofoacajaaDoor
