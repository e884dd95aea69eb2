/- Several texts of one family, merged for a claim. Conditions as in its parts. -/
import Derived.Test.YtiflieaemgamkaaGreatDoorPr
import Derived.Test.YtiflieaemgamkaaGreatDoorZb
import Derived.Deep.DeepCutAuto
import Derived.IntWalk
import Derived.Deep.RegionHeld3
import Derived.Lib.MinMax
import Derived.OrdersHeld
import Derived.Test.YtiflieaemgamkaaGreatDoorProg
import Derived.RangeFuncNested
import Derived.RangeFuncBound
import Derived.RangeFuncCalls
import Derived.RangeFuncLeaves
import Derived.Shelf.Abstract
import Derived.Shelf.RegionOpen
import Derived.WalkKit
import Derived.OwnWalkIn
import Derived.TacticsInMore
import Derived.LoopNIn
import Derived.LoopIn
import Derived.Maps.Own
import Derived.Maps.Views
import Derived.Maps.Keyed
import Derived.Lib.AppendZerosOnto
namespace Go.Proofs.YtiflieaemgamkaaGreatDoor
open Go.RowKit Vi

structure KK (l : List Nat) (w W : World) : Prop where
  os : W.os = w.os
  tape : W.tape = w.tape
  output : W.output = w.output
  size : w.heap.size ≤ W.heap.size
  block : ∀ i, i < w.heap.size → i ∉ l → W.heap[i]? = w.heap[i]?
theorem KK.refl (l : List Nat) (w : World) : KK l w w := ⟨rfl, rfl, rfl, Nat.le_refl _, fun _ _ _ => rfl⟩
theorem KK.trans {l : List Nat} {a b c : World} (h : KK l a b) (k : KK l b c) : KK l a c :=
  ⟨k.os.trans h.os, k.tape.trans h.tape, k.output.trans h.output, Nat.le_trans h.size k.size, fun i hi hn => (k.block i (Nat.lt_of_lt_of_le hi h.size) hn).trans (h.block i hi hn)⟩
theorem KK.of_below {l : List Nat} {w w' : World} (h : Below w.heap.size w w') : KK l w w' := ⟨h.os, h.tape, h.output, h.size, fun k hk _ => h.block k hk⟩
theorem KK.of_but {l : List Nat} {b : Nat} {w w' : World} (h : But b w w') (hb : b ∈ l) : KK l w w' :=
  ⟨h.os, h.tape, h.output, h.size, fun i hi hn => h.block i hi (fun e => hn (by cases e; exact hb))⟩
theorem KK.drewl {l : List Nat} {w W : World} (k : KK l w.drew W) : KK l w W := ⟨k.os, k.tape, k.output, k.size, k.block⟩
theorem KK.alloc {l : List Nat} {a w : World} (h : KK l a w) (o : Obj) : KK l a (w.alloc o) := h.trans (KK.of_below ((Below.refl _ _).alloc (Nat.le_refl _) _))
theorem KK.set {l : List Nat} {a w : World} (h : KK l a w) {b : Nat} (hb : b ∈ l) (i : Nat) (u : Value) : KK l a (w.setCell ⟨b, i, none⟩ u) :=
  h.trans (KK.of_but ((But.refl b w).set i u) hb)
theorem KK.setNew {l : List Nat} {a w : World} (h : KK l a w) {b : Nat} (hb : a.heap.size ≤ b) (i : Nat) (u : Value) : KK l a (w.setCell ⟨b, i, none⟩ u) := by
  have k : KK [b] w (w.setCell ⟨b, i, none⟩ u) := KK.of_but ((But.refl b w).set i u) (by simp)
  exact ⟨k.os.trans h.os, k.tape.trans h.tape, k.output.trans h.output, Nat.le_trans h.size k.size, fun j hj hn => (k.block j (Nat.lt_of_lt_of_le hj h.size) (by simp; omega)).trans (h.block j hj hn)⟩
theorem KK.row {l : List Nat} {a w w' : World} {b n : Nat} (h : KK l a w) (hb : b ∈ l ∨ a.heap.size ≤ b) (hbel : Below n w w') (ho : ∀ k, k ≠ b → w'.heap[k]? = w.heap[k]?) : KK l a w' :=
  ⟨hbel.os.trans h.os, hbel.tape.trans h.tape, hbel.output.trans h.output, Nat.le_trans h.size hbel.size, fun i hi hn => (ho i (fun e => by
    rcases hb with hb | hb
    · exact hn (e ▸ hb)
    · omega)).trans (h.block i hi hn)⟩
theorem KK.below {l : List Nat} {n : Nat} {w0 w W : World} (k : KK l w W) (h : Below n w0 w) (hl : ∀ b ∈ l, n ≤ b) (hs : n ≤ w.heap.size) : Below n w0 W :=
  ⟨k.os.trans h.os, k.tape.trans h.tape, k.output.trans h.output, Nat.le_trans h.size k.size, fun i hi => (k.block i (Nat.lt_of_lt_of_le hi hs) (fun e => by have := hl i e; omega)).trans (h.block i hi)⟩
theorem KK.blk {l : List Nat} {w W : World} {b : Nat} {o : Obj} (k : KK l w W) (h : w.heap[b]? = some o) (hb : b ∉ l) : W.heap[b]? = some o := (k.block b (lt_of_block h) hb).trans h
theorem OwX.kk {α : Type} {f : α → List Value} {s : Nat} {T : TypeId} {w W : World} {B : Nat} {v : Value} {l : List α} {m : List Nat} (h : OwX f s T w B v l) (k : KK m w W) (hm : ∀ b ∈ m, b < B) : OwX f s T W B v l := by
  rcases h with ⟨h1, h | ⟨g, cap, cur, h2, h3, h4, h5⟩⟩
  · exact ⟨h1, .inl h⟩
  · exact ⟨h1, .inr ⟨g, cap, cur, h2, h3, k.blk h4 (fun e => by have := hm g e; omega), h5⟩⟩
/-- a row of another kind stays when one is appended to -/
theorem OwX.other {α β : Type} {f : α → List Value} {g : β → List Value} {s s' : Nat} {T T' : TypeId} {w w' : World} {B B' : Nat} {v v2 : Value} {l : List α} {l2 : List β} (h : OwX f s T w B v l) (k : OwX g s' T' w B' v2 l2) (hT : T ≠ T') (hg : w.grownBy w' v2.ownBlock) : OwX f s T w' B v l := by
  rcases h with ⟨h1, h | ⟨b, cap, cur, h2, h3, h4, h5⟩⟩
  · exact ⟨h1, .inl h⟩
  · refine ⟨h1, .inr ⟨b, cap, cur, h2, h3, ?_, h5⟩⟩
    rw [hg.block b (lt_of_block h4) (fun e => by
      rcases k.2 with ⟨hv, _⟩ | ⟨b2, cap2, cur2, hv, _, h6, _⟩
      · rw [hv] at e; simp [Value.ownBlock] at e
      · rw [hv] at e
        simp [Value.ownBlock] at e
        subst e
        rw [h6] at h4
        cases h4
        exact hT rfl)]
    exact h4
/-- a box of another kind stays, too -/
theorem OwX.box {β : Type} {g : β → List Value} {s' : Nat} {T' : TypeId} {w w' : World} {B' : Nat} {v2 : Value} {l2 : List β} (k : OwX g s' T' w B' v2 l2) (hg : w.grownBy w' v2.ownBlock) {b : Nat} {cs : Array Value} {T : TypeId} {fr : Nat × Nat} (h : w.heap[b]? = some (.cells cs T fr)) (hT : T ≠ T' ∨ b < B') : w'.heap[b]? = some (.cells cs T fr) := by
  rw [hg.block b (lt_of_block h) (fun e => by
    rcases k.2 with ⟨hv, _⟩ | ⟨b2, cap2, cur2, hv, hB, h6, _⟩
    · rw [hv] at e; simp [Value.ownBlock] at e
    · rw [hv] at e
      simp [Value.ownBlock] at e
      subst e
      rw [h6] at h
      cases h
      rcases hT with hT | hT
      · exact hT rfl
      · omega)]
  exact h
def slLen : Value → Nat
  | .slice _ n _ => n
  | _ => 0
theorem OwX.lenL {α : Type} {f : α → List Value} {s : Nat} {T : TypeId} {w : World} {B : Nat} {v : Value} {l : List α} (h : OwX f s T w B v l) : slLen v = l.length := by
  rcases h.2 with ⟨e, h0⟩ | ⟨g, cap, cur, e, _⟩
  · rw [e, h0]; rfl
  · rw [e]; rfl
theorem OwX.sl {α : Type} {f : α → List Value} {s : Nat} {T : TypeId} {w : World} {B : Nat} {v : Value} {l : List α} (h : OwX f s T w B v l) : ∃ A c, v = .slice A l.length c := by
  rcases h.2 with ⟨e, h0⟩ | ⟨g, cap, cur, e, _⟩
  · exact ⟨none, 0, by rw [e, h0]⟩
  · exact ⟨_, _, e⟩
theorem OwX.sl3 {α : Type} {f : α → List Value} {s : Nat} {T : TypeId} {w : World} {B : Nat} {v : Value} {l : List α} (h : OwX f s T w B v l) : ∃ A n c, v = .slice A n c := by
  obtain ⟨A, c, e⟩ := h.sl; exact ⟨A, _, c, e⟩
theorem OwX.one {α : Type} {f : α → List Value} {s : Nat} {T : TypeId} {w : World} {B : Nat} {v : Value} {l : List α} (h : OwX f s T w B v l) : v.oneCell' = true := by
  obtain ⟨A, c, rfl⟩ := h.sl; rfl
theorem step_appX {α : Type} {f : α → List Value} {s : Nat} {ops : Array Oper} {o : Oper} {a : Act} {K : Act → World → Prop} {Q : Exit → Act → World → Prop} {E : Prop} {w : World} (hgd : o.guard = none) (sl xo : Operand) (t e : TypeId) (z : Value) (bytes : Nat)
    (ho : o.op = .call { callee := .builtin .append, args := #[sl, xo], argTypes := #[t, t] })
    (hu : Tryz.prog.underlying t = some (.slice e)) (hinfo : (Tryz.prog.info? e).map (fun i => (i.zero, i.size, i.bytes)) = some (some z, s, bytes)) (hz : z.cells.size = s) (hs0 : 0 < s) (hby : bytes ≤ 100)
    (hf : ∀ x, (f x).length = s) (h1 : ∀ x, ∀ u ∈ f x, u.oneCell' = true)
    (B : Nat) (w0 : World) (hb : Below B w0 w) (hB : B ≤ w.heap.size) (v : Value) (l : List α) (hs : a.eval sl = v) (hown : OwX f s e w B v l)
    (bn c : Nat) (x : α) (cs : Array Value) (T' : TypeId) (fr : Nat × Nat) (hx : a.eval xo = .slice (some ⟨bn, 0, none⟩) 1 c) (hbn : w.heap[bn]? = some (.cells cs T' fr)) (hcs : cs.toList = f x) (hm : l.length + 1 ≤ 1000000)
    (h : ∀ v' w', Hid (OwX f s e w' B v' (l ++ [x])) → Hid (Below B w0 w') → Hid (B ≤ w'.heap.size) → Hid (w.grownBy w' v.ownBlock) → K (a.put o.dst v') w') :
    if Region.wanted o (yielded ops a.tmps) = true then Oper.wp Tryz.prog o a w K Q else E := by
  have hw : Region.wanted o (yielded ops a.tmps) = true := by simp [Region.wanted, hgd]
  rw [if_pos hw]
  obtain ⟨v', w', hr, h2, h3⟩ := run_appX hu hinfo hz hs0 hby hf h1 o.type B v l hown bn c x cs T' fr hbn hcs hm hB
  unfold Oper.wp execOp
  simp only [ho, resolve, invoke, builtin, Sem.run_bind, Sem.run_pure, Result.andThen_ok, List.map_toArray, List.map_cons, List.map_nil, hs, hx, hr]
  exact h v' w' h2 (hb.grown h3 hB (fun k hk => (World.ownsRow.lt hown k hk).1)) (Nat.le_trans hB h3.size) h3
end Go.Proofs.YtiflieaemgamkaaGreatDoor

namespace Go.Proofs.YtiflieaemgamkaaGreatDoor
open Go.RowKit Vi

/-- a disk's box -/
def dkO (sa : Option Addr) (sn sc : Nat) (ca : Option Addr) (cn cc : Nat) (mk dn : Bool) (ops fu : Int) : Obj := .cells #[.slice sa sn sc, .slice ca cn cc, .bool mk, .bool dn, .int .i64 ops, .int .i64 fu] 89 (0, 0)
theorem dk_retB {a b : Bool} (h : a = b) : Ending.returned (.bool a) = .returned (.bool b) := by rw [h]
theorem dk_retI {a b : Int} (h : a = b) : Ending.returned (.int .i64 a) = .returned (.int .i64 b) := by rw [h]
section
variable {D : Nat} {sa : Option Addr} {sn sc : Nat} {ca : Option Addr} {cn cc : Nat} {mk dn : Bool} {ops fu : Int} {w : World}
theorem dk_cells (h : w.heap[D]? = some (dkO sa sn sc ca cn cc mk dn ops fu)) : w.cell? ⟨D, 0, none⟩ = some (.slice sa sn sc) ∧ w.cell? ⟨D, 1, none⟩ = some (.slice ca cn cc) ∧ w.cell? ⟨D, 2, none⟩ = some (.bool mk) ∧ w.cell? ⟨D, 3, none⟩ = some (.bool dn) ∧ w.cell? ⟨D, 4, none⟩ = some (.int .i64 ops) ∧ w.cell? ⟨D, 5, none⟩ = some (.int .i64 fu) :=
  ⟨(cell_of_row _ _ _ _ _ _ h).trans rfl, (cell_of_row _ _ _ _ _ _ h).trans rfl, (cell_of_row _ _ _ _ _ _ h).trans rfl, (cell_of_row _ _ _ _ _ _ h).trans rfl, (cell_of_row _ _ _ _ _ _ h).trans rfl, (cell_of_row _ _ _ _ _ _ h).trans rfl⟩
end
theorem dsec_any (s : ByteArray) (w : World) : Calls Tryz.prog 114 #[.string s] w fun e w' => e = .returned (.bool (decide (s.size = 128))) ∧ w = w' := by
  by_cases h : s.size = 128
  · have d1 : ((s.size : Int) == 128) = true := by simp; omega
    have HR := Lib.hid (show true = decide (s.size = 128) from (decide_eq_true h).symm)
    clear h
    go_enter Tryz.func114, Tryz.ntmps114
    go_wp2_with fail
    go_ret
    exact ⟨dk_retB HR.out, rfl⟩
  · have d1 : ((s.size : Int) == 128) = false := by rw [beq_eq_false_iff_ne]; omega
    have HR := Lib.hid (show false = decide (s.size = 128) from (decide_eq_false h).symm)
    clear h
    go_enter Tryz.func114, Tryz.ntmps114
    go_wp2_with fail
    go_ret
    exact ⟨dk_retB HR.out, rfl⟩
theorem dsize_any (n : Int) (w : World) : Calls Tryz.prog 35 #[.int .i64 n] w fun e w' => e = .returned (.bool (decide (16 ≤ n ∧ n ≤ 4096))) ∧ w = w' := by
  by_cases h : 16 ≤ n
  · have d1 : decide ((16 : Int) ≤ n) = true := decide_eq_true h
    have d1' : decide (n ≥ (16 : Int)) = true := decide_eq_true h
    by_cases k : n ≤ 4096
    · have d2 : decide (n ≤ (4096 : Int)) = true := decide_eq_true k
      have HR := Lib.hid (show true = decide (16 ≤ n ∧ n ≤ 4096) from (decide_eq_true ⟨h, k⟩).symm)
      clear h k
      go_enter Tryz.func35, Tryz.ntmps35
      go_wp2_with fail
      go_ret
      exact ⟨dk_retB HR.out, rfl⟩
    · have d2 : decide (n ≤ (4096 : Int)) = false := decide_eq_false k
      have HR := Lib.hid (show false = decide (16 ≤ n ∧ n ≤ 4096) from (decide_eq_false fun q => k q.2).symm)
      clear h k
      go_enter Tryz.func35, Tryz.ntmps35
      go_wp2_with fail
      go_ret
      exact ⟨dk_retB HR.out, rfl⟩
  · have d1 : decide ((16 : Int) ≤ n) = false := decide_eq_false h
    have d1' : decide (n ≥ (16 : Int)) = false := decide_eq_false h
    have HR := Lib.hid (show false = decide (16 ≤ n ∧ n ≤ 4096) from (decide_eq_false fun q => h q.1).symm)
    clear h
    go_enter Tryz.func35, Tryz.ntmps35
    go_wp2_with fail
    go_ret
    exact ⟨dk_retB HR.out, rfl⟩
theorem dhas_any (D : Nat) (sa : Option Addr) (sn sc : Nat) (i : Int) (w : World) (h : w.cell? ⟨D, 0, none⟩ = some (.slice sa sn sc)) : Calls Tryz.prog 113 #[.pointer (some ⟨D, 0, none⟩), .int .i64 i] w fun e w' => e = .returned (.bool (decide (0 ≤ i ∧ i < (sn : Int)))) ∧ w = w' := by
  by_cases q : 0 ≤ i
  · have d1 : decide ((0 : Int) ≤ i) = true := decide_eq_true q
    have d1' : decide (i ≥ (0 : Int)) = true := decide_eq_true q
    by_cases k : i < (sn : Int)
    · have d2 : decide (i < (sn : Int)) = true := decide_eq_true k
      have HR := Lib.hid (show true = decide (0 ≤ i ∧ i < (sn : Int)) from (decide_eq_true ⟨q, k⟩).symm)
      clear q k
      go_enter Tryz.func113, Tryz.ntmps113
      go_wp2_with fail
      go_ret
      exact ⟨dk_retB HR.out, rfl⟩
    · have d2 : decide (i < (sn : Int)) = false := decide_eq_false k
      have HR := Lib.hid (show false = decide (0 ≤ i ∧ i < (sn : Int)) from (decide_eq_false fun z => k z.2).symm)
      clear q k
      go_enter Tryz.func113, Tryz.ntmps113
      go_wp2_with fail
      go_ret
      exact ⟨dk_retB HR.out, rfl⟩
  · have d1 : decide ((0 : Int) ≤ i) = false := decide_eq_false q
    have d1' : decide (i ≥ (0 : Int)) = false := decide_eq_false q
    have HR := Lib.hid (show false = decide (0 ≤ i ∧ i < (sn : Int)) from (decide_eq_false fun z => q z.1).symm)
    clear q
    go_enter Tryz.func113, Tryz.ntmps113
    go_wp2_with fail
    go_ret
    exact ⟨dk_retB HR.out, rfl⟩
/-- why a text can't be written to a sector -/
def dckE (sn : Nat) (i : Int) (s : ByteArray) : Int := if 0 ≤ i ∧ i < (sn : Int) then (if s.size = 128 then 0 else 2) else 8
theorem dcheck_any (D : Nat) (sa : Option Addr) (sn sc : Nat) (i : Int) (s : ByteArray) (w : World) (h : w.cell? ⟨D, 0, none⟩ = some (.slice sa sn sc)) : Calls Tryz.prog 56 #[.pointer (some ⟨D, 0, none⟩), .int .i64 i, .string s] w fun e w' => e = .returned (.int .i64 (dckE sn i s)) ∧ w = w' := by
  have H1 := Lib.hid (dhas_any D sa sn sc i w h)
  have H2 := Lib.hid (dsec_any s w)
  by_cases q : 0 ≤ i ∧ i < (sn : Int)
  · rw [decide_eq_true q] at H1
    by_cases k : s.size = 128
    · rw [decide_eq_true k] at H2
      have HR := Lib.hid (show (0 : Int) = dckE sn i s by unfold dckE; rw [if_pos q, if_pos k])
      clear q k
      go_enter Tryz.func56, Tryz.ntmps56
      go_wp2_with fail
      refine H1.out.mono ?_
      rintro e w' ⟨rfl, rfl⟩
      go_wp2_with fail
      refine H2.out.mono ?_
      rintro e w' ⟨rfl, rfl⟩
      go_wp2_with fail
      go_ret
      exact ⟨dk_retI HR.out, rfl⟩
    · rw [decide_eq_false k] at H2
      have HR := Lib.hid (show (2 : Int) = dckE sn i s by unfold dckE; rw [if_pos q, if_neg k])
      clear q k
      go_enter Tryz.func56, Tryz.ntmps56
      go_wp2_with fail
      refine H1.out.mono ?_
      rintro e w' ⟨rfl, rfl⟩
      go_wp2_with fail
      refine H2.out.mono ?_
      rintro e w' ⟨rfl, rfl⟩
      go_wp2_with fail
      go_ret
      exact ⟨dk_retI HR.out, rfl⟩
  · rw [decide_eq_false q] at H1
    have HR := Lib.hid (show (8 : Int) = dckE sn i s by unfold dckE; rw [if_neg q])
    clear q
    go_enter Tryz.func56, Tryz.ntmps56
    go_wp2_with fail
    refine H1.out.mono ?_
    rintro e w' ⟨rfl, rfl⟩
    go_wp2_with fail
    go_ret
    exact ⟨dk_retI HR.out, rfl⟩
theorem dmade_nil (w : World) : Calls Tryz.prog 39 #[.pointer none] w fun e w' => e = .returned (.bool false) ∧ w = w' := by
  go_enter Tryz.func39, Tryz.ntmps39
  go_wp2_with fail
  go_ret
  exact ⟨rfl, rfl⟩
theorem dmade_any (D : Nat) (sa : Option Addr) (sn sc : Nat) (ca : Option Addr) (cn cc : Nat) (mk dn : Bool) (ops fu : Int) (w : World) (h : w.heap[D]? = some (dkO sa sn sc ca cn cc mk dn ops fu)) : Calls Tryz.prog 39 #[.pointer (some ⟨D, 0, none⟩)] w fun e w' => e = .returned (.bool mk) ∧ w = w' := by
  obtain ⟨c0, c1, c2, c3, c4, c5⟩ := dk_cells h
  clear h c0 c1 c3 c4 c5
  go_enter Tryz.func39, Tryz.ntmps39
  cases mk
  all_goals
    go_wp2_with fail
    go_ret
    exact ⟨rfl, rfl⟩
theorem dready_nil (w : World) : Calls Tryz.prog 59 #[.pointer none] w fun e w' => e = .returned (.int .i64 1) ∧ w = w' := by
  have HM := Lib.hid (dmade_nil w)
  go_enter Tryz.func59, Tryz.ntmps59
  go_wp2_with fail
  refine HM.out.mono ?_
  rintro e w' ⟨rfl, rfl⟩
  go_wp2_with fail
  go_ret
  exact ⟨rfl, rfl⟩
theorem dready_no (D : Nat) (sa : Option Addr) (sn sc : Nat) (ca : Option Addr) (cn cc : Nat) (dn : Bool) (ops fu : Int) (w : World) (h : w.heap[D]? = some (dkO sa sn sc ca cn cc false dn ops fu)) : Calls Tryz.prog 59 #[.pointer (some ⟨D, 0, none⟩)] w fun e w' => e = .returned (.int .i64 1) ∧ w = w' := by
  have HM := Lib.hid (dmade_any D sa sn sc ca cn cc false dn ops fu w h)
  clear h
  go_enter Tryz.func59, Tryz.ntmps59
  go_wp2_with fail
  refine HM.out.mono ?_
  rintro e w' ⟨rfl, rfl⟩
  go_wp2_with fail
  go_ret
  exact ⟨rfl, rfl⟩
theorem dready_any (D : Nat) (sa : Option Addr) (sn sc : Nat) (ca : Option Addr) (cn cc : Nat) (dn : Bool) (ops fu : Int) (w : World) (h : w.heap[D]? = some (dkO sa sn sc ca cn cc true dn ops fu)) : Calls Tryz.prog 59 #[.pointer (some ⟨D, 0, none⟩)] w fun e w' => e = .returned (.int .i64 (if dn = true then 7 else 0)) ∧ w = w' := by
  have HM := Lib.hid (dmade_any D sa sn sc ca cn cc true dn ops fu w h)
  obtain ⟨c0, c1, c2, c3, c4, c5⟩ := dk_cells h
  clear h
  cases dn
  all_goals
    go_enter Tryz.func59, Tryz.ntmps59
    go_wp2_with fail
    refine HM.out.mono ?_
    rintro e w' ⟨rfl, rfl⟩
    go_wp2_with fail
    go_ret
    exact ⟨rfl, rfl⟩
theorem dszz_nil (w : World) : Calls Tryz.prog 97 #[.pointer none] w fun e w' => e = .returned (.int .i64 0) ∧ w = w' := by
  have HM := Lib.hid (dmade_nil w)
  go_enter Tryz.func97, Tryz.ntmps97
  go_wp2_with fail
  refine HM.out.mono ?_
  rintro e w' ⟨rfl, rfl⟩
  go_wp2_with fail
  go_ret
  exact ⟨rfl, rfl⟩
theorem dszz_no (D : Nat) (sa : Option Addr) (sn sc : Nat) (ca : Option Addr) (cn cc : Nat) (dn : Bool) (ops fu : Int) (w : World) (h : w.heap[D]? = some (dkO sa sn sc ca cn cc false dn ops fu)) : Calls Tryz.prog 97 #[.pointer (some ⟨D, 0, none⟩)] w fun e w' => e = .returned (.int .i64 0) ∧ w = w' := by
  have HM := Lib.hid (dmade_any D sa sn sc ca cn cc false dn ops fu w h)
  clear h
  go_enter Tryz.func97, Tryz.ntmps97
  go_wp2_with fail
  refine HM.out.mono ?_
  rintro e w' ⟨rfl, rfl⟩
  go_wp2_with fail
  go_ret
  exact ⟨rfl, rfl⟩
theorem dszz_any (D : Nat) (sa : Option Addr) (sn sc : Nat) (ca : Option Addr) (cn cc : Nat) (dn : Bool) (ops fu : Int) (w : World) (h : w.heap[D]? = some (dkO sa sn sc ca cn cc true dn ops fu)) : Calls Tryz.prog 97 #[.pointer (some ⟨D, 0, none⟩)] w fun e w' => e = .returned (.int .i64 (sn : Int)) ∧ w = w' := by
  have HM := Lib.hid (dmade_any D sa sn sc ca cn cc true dn ops fu w h)
  obtain ⟨c0, c1, c2, c3, c4, c5⟩ := dk_cells h
  clear h
  go_enter Tryz.func97, Tryz.ntmps97
  go_wp2_with fail
  refine HM.out.mono ?_
  rintro e w' ⟨rfl, rfl⟩
  go_wp2_with fail
  go_ret
  exact ⟨rfl, rfl⟩
theorem dops_nil (w : World) : Calls Tryz.prog 14 #[.pointer none] w fun e w' => e = .returned (.int .i64 0) ∧ w = w' := by
  have HM := Lib.hid (dmade_nil w)
  go_enter Tryz.func14, Tryz.ntmps14
  go_wp2_with fail
  refine HM.out.mono ?_
  rintro e w' ⟨rfl, rfl⟩
  go_wp2_with fail
  go_ret
  exact ⟨rfl, rfl⟩
theorem dops_no (D : Nat) (sa : Option Addr) (sn sc : Nat) (ca : Option Addr) (cn cc : Nat) (dn : Bool) (ops fu : Int) (w : World) (h : w.heap[D]? = some (dkO sa sn sc ca cn cc false dn ops fu)) : Calls Tryz.prog 14 #[.pointer (some ⟨D, 0, none⟩)] w fun e w' => e = .returned (.int .i64 0) ∧ w = w' := by
  have HM := Lib.hid (dmade_any D sa sn sc ca cn cc false dn ops fu w h)
  clear h
  go_enter Tryz.func14, Tryz.ntmps14
  go_wp2_with fail
  refine HM.out.mono ?_
  rintro e w' ⟨rfl, rfl⟩
  go_wp2_with fail
  go_ret
  exact ⟨rfl, rfl⟩
theorem dops_any (D : Nat) (sa : Option Addr) (sn sc : Nat) (ca : Option Addr) (cn cc : Nat) (dn : Bool) (ops fu : Int) (w : World) (h : w.heap[D]? = some (dkO sa sn sc ca cn cc true dn ops fu)) : Calls Tryz.prog 14 #[.pointer (some ⟨D, 0, none⟩)] w fun e w' => e = .returned (.int .i64 ops) ∧ w = w' := by
  have HM := Lib.hid (dmade_any D sa sn sc ca cn cc true dn ops fu w h)
  obtain ⟨c0, c1, c2, c3, c4, c5⟩ := dk_cells h
  clear h
  go_enter Tryz.func14, Tryz.ntmps14
  go_wp2_with fail
  refine HM.out.mono ?_
  rintro e w' ⟨rfl, rfl⟩
  go_wp2_with fail
  go_ret
  exact ⟨rfl, rfl⟩
theorem dall_any (i : Int) (w : World) : Calls Tryz.prog 112 #[.int .i64 i] w fun e w' => e = .returned (.bool true) ∧ w = w' := by
  go_enter Tryz.func112, Tryz.ntmps112
  go_wp2_with fail
  go_ret
  exact ⟨rfl, rfl⟩
theorem dnone_any (i : Int) (w : World) : Calls Tryz.prog 63 #[.int .i64 i] w fun e w' => e = .returned (.bool false) ∧ w = w' := by
  go_enter Tryz.func63, Tryz.ntmps63
  go_wp2_with fail
  go_ret
  exact ⟨rfl, rfl⟩
/-- the power goes, or comes back -/
theorem dturn_any (D : Nat) (sa : Option Addr) (sn sc : Nat) (ca : Option Addr) (cn cc : Nat) (mk dn : Bool) (ops fu : Int) (b : Bool) (w : World) (h : w.heap[D]? = some (dkO sa sn sc ca cn cc mk dn ops fu)) : Calls Tryz.prog 62 #[.pointer (some ⟨D, 0, none⟩), .bool b] w fun e w' => e = .returned (.tuple #[]) ∧ w'.heap[D]? = some (dkO sa sn sc ca cn cc mk b ops 0) ∧ KK [D] w w' := by
  have H := Lib.hid h
  obtain ⟨c0, c1, c2, c3, c4, c5⟩ := dk_cells h
  have f3 : w.frozen? ⟨D, 3, none⟩ = false := frozen_of_row _ _ _ _ _ h
  have f5 : w.frozen? ⟨D, 5, none⟩ = false := frozen_of_row _ _ _ _ _ h
  clear h
  go_enter Tryz.func62, Tryz.ntmps62
  go_wp2_with fail
  have HR : Hid (((w.setCell ⟨D, 3, none⟩ (.bool b)).setCell ⟨D, 5, none⟩ (.int .i64 0)).heap[D]? = some (dkO sa sn sc ca cn cc mk b ops 0)) := Lib.hid (by have q := heap_setCell_at (i := 5) (u := .int .i64 0) (heap_setCell_at (i := 3) (u := .bool b) H.out); exact q)
  have HK := Lib.hid (((KK.refl [D] w).set (b := D) (by simp) 3 (.bool b)).set (b := D) (by simp) 5 (.int .i64 0))
  refine bodyPost_end (results_none rfl _ _ _) rfl ?_
  exact ⟨rfl, HR.out, HK.out⟩
end Go.Proofs.YtiflieaemgamkaaGreatDoor

namespace Go.Proofs.YtiflieaemgamkaaGreatDoor
open Go.RowKit Vi

theorem RdX.cellAt {α : Type} {f : α → List Value} {s : Nat} {w : World} {n b off k : Nat} {l : List α} {x : α} (h : RdX f s w (some ⟨b, off, none⟩) n l) (hx : l[k]? = some x) (hk : k < n) (j : Nat) (u : Value) (hu : (f x)[j]? = some u) : w.cell? ⟨b, off + k * s + j, none⟩ = some u := by
  obtain ⟨b2, off2, e, _, hc⟩ := h.2 (by omega)
  cases e
  exact hc k x j u hx hu
theorem of_same {P : Program} {f : FuncId} {args : Array Value} {W : World} {v : Value} (h : Calls P f args W fun e w' => e = .returned v ∧ W = w') : Calls P f args W fun e w' => e = .returned v ∧ Below W.heap.size W w' :=
  h.mono fun _ _ ⟨h1, h2⟩ => ⟨h1, h2 ▸ Below.refl _ _⟩
theorem of_drew {P : Program} {f : FuncId} {args : Array Value} {W : World} {v : Value} (h : Calls P f args W fun e w' => e = .returned v ∧ ∃ q, w' = W.drewN q) : Calls P f args W fun e w' => e = .returned v ∧ Below W.heap.size W w' :=
  h.mono fun _ _ ⟨h1, q, h2⟩ => ⟨h1, by subst h2; exact ⟨rfl, rfl, rfl, Nat.le_refl _, fun _ _ => rfl⟩⟩
def stC (s : ByteArray) : List Value := [.string s]
theorem stC_len (s : ByteArray) : (stC s).length = 1 := rfl
theorem stC_one (p : ByteArray) : ∀ u ∈ stC p, u.oneCell' = true := by
  intro u hu
  simp [stC] at hu
  subst hu; rfl
theorem info_stA : (Tryz.prog.info? 9).map (fun i => (i.zero, i.size, i.bytes)) = some (some (.string ⟨#[]⟩), 1, 16) := by kernel_rfl
end Go.Proofs.YtiflieaemgamkaaGreatDoor

namespace Go.Proofs.YtiflieaemgamkaaGreatDoor
open Go.RowKit Vi

abbrev Wr := Int × ByteArray
def wrC (x : Wr) : List Value := [.int .i64 x.1, .string x.2]
theorem wrC_len (x : Wr) : (wrC x).length = 2 := rfl
theorem wrC_one (x : Wr) : ∀ u ∈ wrC x, u.oneCell' = true := by
  intro u hu
  simp [wrC] at hu
  rcases hu with rfl | rfl <;> rfl
theorem info_wrB : (Tryz.prog.info? 102).map (fun i => (i.zero, i.size, i.bytes)) = some (some (.agg #[.int .i64 0, .string ⟨#[]⟩]), 2, 24) := by kernel_rfl
theorem flat_st (l : List ByteArray) : flat stC l = l.map Value.string := by
  induction l with
  | nil => rfl
  | cons x r ih =>
    show stC x ++ flat stC r = _
    rw [ih]
    rfl
theorem OwX.setS {w : World} {B g n c i : Nat} {T : TypeId} {SS : List ByteArray} (s : ByteArray) (h : OwX stC 1 T w B (.slice (some ⟨g, 0, none⟩) n c) SS) : OwX stC 1 T (w.setCell ⟨g, i, none⟩ (.string s)) B (.slice (some ⟨g, 0, none⟩) n c) (SS.set i s) := by
  unfold OwX at h ⊢
  rw [flat_st] at h ⊢
  rcases h with ⟨h1, h | ⟨g', cap, cur, h2, h3, h4, h5, h6, h7, h8⟩⟩
  · cases h.1
  · injection h2 with e1 e2 e3
    injection e1 with e1
    injection e1 with e1
    subst e1
    refine ⟨by rw [List.length_map, List.length_set] at *; exact h1, .inr ⟨g, cap, cur.setIfInBounds i (.string s), by rw [List.length_set, e2, e3], h3, ?_, by rw [List.length_set]; exact h5, h6, by rw [Array.size_setIfInBounds]; exact h7, ?_⟩⟩
    · exact heap_setCell_at (i := i) (u := .string s) h4
    · rw [Array.toList_setIfInBounds, List.length_set, List.take_set, h8, List.map_set]
theorem OwX.kkD {α : Type} {f : α → List Value} {s : Nat} {T : TypeId} {w W : World} {B g : Nat} {v : Value} {l : List α} {cs : Array Value} {T' : TypeId} {fr : Nat × Nat} (h : OwX f s T w B v l) (k : KK [g] w W) (hg : w.heap[g]? = some (.cells cs T' fr)) (hT : T ≠ T') : OwX f s T W B v l := by
  rcases h with ⟨h1, h | ⟨b, cap, cur, h2, h3, h4, h5⟩⟩
  · exact ⟨h1, .inl h⟩
  · exact ⟨h1, .inr ⟨b, cap, cur, h2, h3, k.blk h4 (fun e => by
      have e1 : b = g := by simpa using e
      subst e1
      rw [hg] at h4
      cases h4
      exact hT rfl), h5⟩⟩
/-- a disk that is there -/
structure DK (D : Nat) (SS : List ByteArray) (CC : List Wr) (dn : Bool) (ops fu : Int) (w : World) : Prop where
  box : ∃ (sa : Option Addr) (sn sc : Nat) (ca : Option Addr) (cn cc : Nat), w.heap[D]? = some (dkO sa sn sc ca cn cc true dn ops fu) ∧ OwX stC 1 9 w 0 (.slice sa sn sc) SS ∧ OwX wrC 2 102 w 0 (.slice ca cn cc) CC
  at' : ∀ x ∈ CC, 0 ≤ x.1 ∧ x.1 < (SS.length : Int) ∧ x.2.size = 128
theorem DK.kept {D : Nat} {SS : List ByteArray} {CC : List Wr} {dn : Bool} {ops fu : Int} {w w' : World} (h : DK D SS CC dn ops fu w) (hb : Below w.heap.size w w') : DK D SS CC dn ops fu w' := by
  obtain ⟨⟨sa, sn, sc, ca, cn, cc, h1, h2, h3⟩, h4⟩ := h
  exact ⟨⟨sa, sn, sc, ca, cn, cc, blk_below h1 hb, h2.kept hb, h3.kept hb⟩, h4⟩
/-- a block is a disk's own: its box, or that of one of its rows -/
def InD (D : Nat) (w : World) (b : Nat) : Prop := b = D ∨ (∃ o n c, w.cell? ⟨D, 0, none⟩ = some (.slice (some ⟨b, o, none⟩) n c)) ∨ (∃ o n c, w.cell? ⟨D, 1, none⟩ = some (.slice (some ⟨b, o, none⟩) n c))
/-- only a disk's own blocks have turned, and no other old one has become its own -/
structure Kd (D : Nat) (w w' : World) : Prop where
  os : w'.os = w.os
  tape : w'.tape = w.tape
  output : w'.output = w.output
  size : w.heap.size ≤ w'.heap.size
  block : ∀ b, b < w.heap.size → ¬ InD D w b → w'.heap[b]? = w.heap[b]?
  ind : ∀ b, b < w.heap.size → InD D w' b → InD D w b
theorem Kd.refl (D : Nat) (w : World) : Kd D w w := ⟨rfl, rfl, rfl, Nat.le_refl _, fun _ _ _ => rfl, fun _ _ h => h⟩
theorem Kd.trans {D : Nat} {a b c : World} (h : Kd D a b) (k : Kd D b c) : Kd D a c :=
  ⟨k.os.trans h.os, k.tape.trans h.tape, k.output.trans h.output, Nat.le_trans h.size k.size, fun i hi hn => (k.block i (Nat.lt_of_lt_of_le hi h.size) (fun q => hn (h.ind i hi q))).trans (h.block i hi hn), fun i hi q => h.ind i hi (k.ind i (Nat.lt_of_lt_of_le hi h.size) q)⟩
theorem Kd.of_below {D : Nat} {w w' : World} (hb : Below w.heap.size w w') (hD : D < w.heap.size) : Kd D w w' :=
  ⟨hb.os, hb.tape, hb.output, hb.size, fun b hb' _ => hb.block b hb', fun b _ q => by
    rcases q with q | ⟨o, n, c, q⟩ | ⟨o, n, c, q⟩
    · exact .inl q
    · exact .inr (.inl ⟨o, n, c, by rw [← hb.cell (p := ⟨D, 0, none⟩) hD]; exact q⟩)
    · exact .inr (.inr ⟨o, n, c, by rw [← hb.cell (p := ⟨D, 1, none⟩) hD]; exact q⟩)⟩
theorem InD.self (D : Nat) (w : World) : InD D w D := .inl rfl
section
variable {D : Nat} {sa : Option Addr} {sn sc : Nat} {ca : Option Addr} {cn cc : Nat} {mk dn : Bool} {ops fu : Int} {w : World}
theorem InD.safe {g o : Nat} (h : w.heap[D]? = some (dkO (some ⟨g, o, none⟩) sn sc ca cn cc mk dn ops fu)) : InD D w g := .inr (.inl ⟨o, sn, sc, (dk_cells h).1⟩)
theorem InD.cache {g o : Nat} (h : w.heap[D]? = some (dkO sa sn sc (some ⟨g, o, none⟩) cn cc mk dn ops fu)) : InD D w g := .inr (.inr ⟨o, cn, cc, (dk_cells h).2.1⟩)
theorem InD.cases {b : Nat} (h : w.heap[D]? = some (dkO sa sn sc ca cn cc mk dn ops fu)) (q : InD D w b) : b = D ∨ (∃ o, sa = some ⟨b, o, none⟩) ∨ ∃ o, ca = some ⟨b, o, none⟩ := by
  rcases q with q | ⟨o, n, c, q⟩ | ⟨o, n, c, q⟩
  · exact .inl q
  · rw [(dk_cells h).1] at q
    cases q
    exact .inr (.inl ⟨o, rfl⟩)
  · rw [(dk_cells h).2.1] at q
    cases q
    exact .inr (.inr ⟨o, rfl⟩)
theorem Kd.of_box {sa' : Option Addr} {sn' sc' : Nat} {ca' : Option Addr} {cn' cc' : Nat} {mk' dn' : Bool} {ops' fu' : Int} {w' : World} {l : List Nat} (k : KK l w w') (hl : ∀ b ∈ l, InD D w b)
    (h : w.heap[D]? = some (dkO sa sn sc ca cn cc mk dn ops fu)) (h' : w'.heap[D]? = some (dkO sa' sn' sc' ca' cn' cc' mk' dn' ops' fu'))
    (hs : ∀ b o, sa' = some ⟨b, o, none⟩ → InD D w b ∨ w.heap.size ≤ b) (hc : ∀ b o, ca' = some ⟨b, o, none⟩ → InD D w b ∨ w.heap.size ≤ b) : Kd D w w' :=
  ⟨k.os, k.tape, k.output, k.size, fun b hb hn => k.block b hb (fun q => hn (hl b q)), fun b hb q => by
    rcases q.cases h' with q | ⟨o, q⟩ | ⟨o, q⟩
    · subst q; exact .inl rfl
    · rcases hs b o q with r | r
      · exact r
      · omega
    · rcases hc b o q with r | r
      · exact r
      · omega⟩
/-- the box's rows stay -/
theorem Kd.of_same {mk' dn' : Bool} {ops' fu' : Int} {w' : World} (k : KK [D] w w') (h : w.heap[D]? = some (dkO sa sn sc ca cn cc mk dn ops fu)) (h' : w'.heap[D]? = some (dkO sa sn sc ca cn cc mk' dn' ops' fu')) : Kd D w w' :=
  Kd.of_box k (fun b hb => by obtain rfl : b = D := (by simpa using hb); exact .inl rfl) h h' (fun b o e => .inl (by subst e; exact InD.safe h)) (fun b o e => .inl (by subst e; exact InD.cache h))
/-- the cache is gone -/
theorem Kd.of_none {mk' dn' : Bool} {ops' fu' : Int} {w' : World} (k : KK [D] w w') (h : w.heap[D]? = some (dkO sa sn sc ca cn cc mk dn ops fu)) (h' : w'.heap[D]? = some (dkO sa sn sc none 0 0 mk' dn' ops' fu')) : Kd D w w' :=
  Kd.of_box k (fun b hb => by obtain rfl : b = D := (by simpa using hb); exact .inl rfl) h h' (fun b o e => .inl (by subst e; exact InD.safe h)) (fun b o e => by cases e)
end
theorem DK.lt {D : Nat} {SS : List ByteArray} {CC : List Wr} {dn : Bool} {ops fu : Int} {w : World} (h : DK D SS CC dn ops fu w) : D < w.heap.size := by
  obtain ⟨⟨sa, sn, sc, ca, cn, cc, h1, h2, h3⟩, h4⟩ := h
  exact lt_of_block h1
theorem own_lt {α : Type} {f : α → List Value} {s : Nat} {T : TypeId} {w : World} {B g o n c : Nat} {l : List α} (h : OwX f s T w B (.slice (some ⟨g, o, none⟩) n c) l) : g < w.heap.size := by
  rcases h.2 with ⟨e, _⟩ | ⟨g', cap, cur, e, _, h4, _⟩
  · cases e
  · injection e with e _ _
    injection e with e
    injection e with e _ _
    subst e
    exact lt_of_block h4
/-- what is new is none of a disk's own -/
theorem DK.new {D : Nat} {SS : List ByteArray} {CC : List Wr} {dn : Bool} {ops fu : Int} {w : World} (h : DK D SS CC dn ops fu w) {b : Nat} (q : InD D w b) : b < w.heap.size := by
  obtain ⟨⟨sa, sn, sc, ca, cn, cc, h1, h2, h3⟩, h4⟩ := h
  rcases q.cases h1 with q | ⟨o, q⟩ | ⟨o, q⟩
  · subst q; exact lt_of_block h1
  · subst q; exact own_lt h2
  · subst q; exact own_lt h3
/-- a row that reads as a list and is none of a disk's own -/
def RdA {α : Type} (D : Nat) (f : α → List Value) (s : Nat) (w : World) (A : Option Addr) (n : Nat) (l : List α) : Prop := RdX f s w A n l ∧ (0 < n → ∀ b o, A = some ⟨b, o, none⟩ → ¬ InD D w b)
theorem RdA.kd {α : Type} {D : Nat} {f : α → List Value} {s : Nat} {w w' : World} {A : Option Addr} {n : Nat} {l : List α} (h : RdA D f s w A n l) (k : Kd D w w') : RdA D f s w' A n l := by
  obtain ⟨⟨h1, h2⟩, h3⟩ := h
  refine ⟨⟨h1, fun hn => ?_⟩, fun hn b o e q => ?_⟩
  · obtain ⟨b, off, e, hb, hc⟩ := h2 hn
    exact ⟨b, off, e, Nat.lt_of_lt_of_le hb k.size, fun i x j u hx hu => (World.cell?_of_block (k.block b hb (h3 hn b off e))).trans (hc i x j u hx hu)⟩
  · obtain ⟨b', off, e', hb, hc⟩ := h2 hn
    rw [e] at e'
    injection e' with e'
    injection e' with e1 e2 e3
    subst e1
    exact h3 hn b o e (k.ind b hb q)
end Go.Proofs.YtiflieaemgamkaaGreatDoor

namespace Go.Proofs.YtiflieaemgamkaaGreatDoor
open Go.RowKit Vi

set_option maxRecDepth 100000 in
set_option maxHeartbeats 2000000 in
theorem dsettle_none (D : Nat) (SS : List ByteArray) (CC : List Wr) (dn : Bool) (ops fu : Int) (w : World) (h : DK D SS CC dn ops fu w) :
    Calls Tryz.prog 60 #[.pointer (some ⟨D, 0, none⟩), .func (.func 63) #[] #[]] w fun e w' => e = .returned (.tuple #[]) ∧ DK D SS [] dn ops fu w' ∧ Kd D w w' := by
  obtain ⟨⟨sa, sn, sc, ca, cn, cc, h1, h2, h3⟩, _⟩ := h
  obtain ⟨A, c, e, hr, hc1, hc2⟩ := h3.rd wrC_len
  injection e with e1 e2 e3
  subst e1 e2 e3
  have H := Lib.hid h1
  have HO := Lib.hid h2
  have HC := Lib.hid hr
  obtain ⟨c0, c1, c2, c3, c4, c5⟩ := dk_cells h1
  have hnm : CC.length ≤ maxLen := Nat.le_trans hc1 hc2
  unfold maxLen at hnm
  clear h1 h2 h3 hr hc1 hc2
  generalize hn : CC.length = n at *
  have HN := Lib.hid hn
  clear hn
  go_enter Tryz.func60, Tryz.ntmps60
  go_wp2_with fail
  clear c0 c1 c2 c3 c4 c5
  go_loopw [11] (fun i wr => ∃ k : Nat, i = .int .i64 (k : Int) ∧ k ≤ n ∧ Below w.heap.size w wr) (fun i _ => n - (intOf i).toNat)
  case atStart => exact ⟨0, rfl, Nat.zero_le _, Below.refl _ _⟩
  case round =>
    obtain ⟨k, rfl, hk, hb⟩ := hrel
    have HB := Lib.hid hb
    clear hb
    by_cases hlt : k < n
    · have hd1 : decide ((k : Int) < (n : Int)) = true := decide_eq_true (by omega)
      have hi0 : (0 : Int) ≤ (k : Int) := by omega
      obtain ⟨b, off, hl, rfl, hbb, _⟩ := (HC.out.below HB.out).at hlt
      obtain ⟨x, hx⟩ : ∃ x, x = CC[k] := ⟨_, rfl⟩
      have HX := Lib.hid (show CC[k]? = some x by rw [List.getElem?_eq_getElem hl, hx])
      obtain ⟨at0, s⟩ := x
      have x0 : wr.cell? ⟨b, off + k * 2, none⟩ = some (.int .i64 at0) := (HC.out.below HB.out).cellAt HX.out hlt 0 _ rfl
      have x1 : wr.cell? ⟨b, off + k * 2 + 1, none⟩ = some (.string s) := (HC.out.below HB.out).cellAt HX.out hlt 1 _ rfl
      have HNO := Lib.hid (fun W : World => dnone_any (k : Int) W)
      have HBn := Lib.hid (HB.out.alloc HB.out.size (.cells #[.int .i64 at0, .string s] 102 (0, 0)))
      clear hx
      go_wp2_with fail
      clear x0 x1
      refine (HNO.out _).mono ?_
      rintro e w' ⟨rfl, rfl⟩
      go_wp2_with fail
      go_roundw
      case rel => exact ⟨k + 1, by go_num, by omega, HBn.out⟩
      case measure => simp [intOf] <;> omega
    · have hd1 : decide ((k : Int) < (n : Int)) = false := decide_eq_false (by omega)
      have HD := Lib.hid (blk_below H.out HB.out)
      have HO1 := Lib.hid (HO.out.kept HB.out)
      have f1 : wr.frozen? ⟨D, 1, none⟩ = false := frozen_of_row _ _ _ _ _ HD.out
      have y1 : wr.cell? ⟨D, 1, none⟩ = some (.slice ca n cc) := (dk_cells HD.out).2.1
      go_wp2_with fail
      have HK := Lib.hid ((KK.refl [D] wr).set (b := D) (by simp) 1 (.slice none 0 0))
      have HR := Lib.hid (show (wr.setCell ⟨D, 1, none⟩ (.slice none 0 0)).heap[D]? = some (dkO sa sn sc none 0 0 true dn ops fu) from heap_setCell_at (i := 1) (u := .slice none 0 0) HD.out)
      have HO2 := Lib.hid (HO1.out.kkD HK.out HD.out (by decide))
      refine bodyPost_end (results_none rfl _ _ _) rfl ?_
      exact ⟨rfl, ⟨⟨sa, sn, sc, none, 0, 0, HR.out, HO2.out, OwX.nil _⟩, fun x hx => by cases hx⟩, Kd.of_none ((KK.of_below HB.out).trans HK.out) H.out HR.out⟩
set_option maxRecDepth 100000 in
theorem dboot_any (D : Nat) (SS : List ByteArray) (CC : List Wr) (dn : Bool) (ops fu : Int) (w : World) (h : DK D SS CC dn ops fu w) :
    Calls Tryz.prog 24 #[.pointer (some ⟨D, 0, none⟩)] w fun e w' => e = .returned (.int .i64 0) ∧ DK D SS [] false ops 0 w' ∧ Kd D w w' := by
  have HM := Lib.hid (show Calls Tryz.prog 39 #[.pointer (some ⟨D, 0, none⟩)] w fun e w' => e = .returned (.bool true) ∧ w = w' by
    obtain ⟨⟨sa, sn, sc, ca, cn, cc, h1, h2, h3⟩, _⟩ := h
    exact dmade_any D sa sn sc ca cn cc true dn ops fu w h1)
  have HS := Lib.hid (dsettle_none D SS CC dn ops fu w h)
  clear h
  go_enter Tryz.func24, Tryz.ntmps24
  go_wp2_with fail
  refine HM.out.mono ?_
  rintro e w' ⟨rfl, rfl⟩
  go_wp2_with fail
  refine HS.out.mono ?_
  rintro e w1 ⟨rfl, hd, hk⟩
  have HK := Lib.hid hk
  obtain ⟨⟨sa, sn, sc, ca, cn, cc, h1, h2, h3⟩, h4⟩ := hd
  have HT := Lib.hid (dturn_any D sa sn sc ca cn cc true dn ops fu false w1 h1)
  have H1 := Lib.hid h1
  have H2 := Lib.hid h2
  have H3 := Lib.hid h3
  clear hk h1 h2 h3 h4
  go_wp2_with fail
  refine HT.out.mono ?_
  rintro e w2 ⟨rfl, hb, hk⟩
  have HB := Lib.hid hb
  have HK2 := Lib.hid hk
  have HO2 := Lib.hid (H2.out.kkD hk H1.out (by decide))
  have HO3 := Lib.hid (H3.out.kkD hk H1.out (by decide))
  clear hb hk
  go_wp2_with fail
  go_ret
  exact ⟨rfl, ⟨⟨sa, sn, sc, ca, cn, cc, HB.out, HO2.out, HO3.out⟩, fun x hx => by cases hx⟩, HK.out.trans (Kd.of_same HK2.out H1.out HB.out)⟩
end Go.Proofs.YtiflieaemgamkaaGreatDoor

namespace Go.Proofs.YtiflieaemgamkaaGreatDoor
open Go.RowKit Vi

theorem DK.made {D : Nat} {SS : List ByteArray} {CC : List Wr} {dn : Bool} {ops fu : Int} {w : World} (h : DK D SS CC dn ops fu w) : Calls Tryz.prog 39 #[.pointer (some ⟨D, 0, none⟩)] w fun e w' => e = .returned (.bool true) ∧ w = w' := by
  obtain ⟨⟨sa, sn, sc, ca, cn, cc, h1, h2, h3⟩, _⟩ := h
  exact dmade_any D sa sn sc ca cn cc true dn ops fu w h1
theorem DK.readyIs {D : Nat} {SS : List ByteArray} {CC : List Wr} {dn : Bool} {ops fu : Int} {w : World} (h : DK D SS CC dn ops fu w) : Calls Tryz.prog 59 #[.pointer (some ⟨D, 0, none⟩)] w fun e w' => e = .returned (.int .i64 (if dn = true then 7 else 0)) ∧ w = w' := by
  obtain ⟨⟨sa, sn, sc, ca, cn, cc, h1, h2, h3⟩, _⟩ := h
  exact dready_any D sa sn sc ca cn cc dn ops fu w h1
theorem DK.checkIs {D : Nat} {SS : List ByteArray} {CC : List Wr} {dn : Bool} {ops fu : Int} {w : World} (h : DK D SS CC dn ops fu w) (i : Int) (s : ByteArray) : Calls Tryz.prog 56 #[.pointer (some ⟨D, 0, none⟩), .int .i64 i, .string s] w fun e w' => e = .returned (.int .i64 (dckE SS.length i s)) ∧ w = w' := by
  obtain ⟨⟨sa, sn, sc, ca, cn, cc, h1, h2, h3⟩, _⟩ := h
  have hl : sn = SS.length := by
    obtain ⟨A, c, e, _, _, _⟩ := h2.rd stC_len
    injection e
  rw [← hl]
  exact dcheck_any D sa sn sc i s w (dk_cells h1).1
def armE (dn : Bool) (n : Int) : Int := if dn = true then 7 else if n < 0 then 2 else 0
/-- what is armed then -/
def armF (dn : Bool) (n fu : Int) : Int := if armE dn n = 0 then n else fu
set_option maxRecDepth 100000 in
theorem darm_any (D : Nat) (SS : List ByteArray) (CC : List Wr) (dn : Bool) (ops fu : Int) (n : Int) (w : World) (h : DK D SS CC dn ops fu w) :
    Calls Tryz.prog 22 #[.pointer (some ⟨D, 0, none⟩), .int .i64 n] w fun e w' => e = .returned (.int .i64 (armE dn n)) ∧ DK D SS CC dn ops (armF dn n fu) w' ∧ Kd D w w' := by
  have HR := Lib.hid h.readyIs
  cases dn with
  | true =>
    have H := Lib.hid h
    have HZ := Lib.hid (show armE true n = 7 from rfl)
    clear h
    go_enter Tryz.func22, Tryz.ntmps22
    go_wp2_with fail
    refine HR.out.mono ?_
    rintro e w' ⟨rfl, rfl⟩
    go_wp2_with fail
    go_ret
    exact ⟨dk_retI HZ.out.symm, by unfold armF; rw [HZ.out]; exact H.out, Kd.refl _ _⟩
  | false =>
    by_cases hn : n < 0
    · have d1 : decide (n < 0) = true := decide_eq_true hn
      have H := Lib.hid h
      have HZ := Lib.hid (show armE false n = 2 by unfold armE; rw [if_neg (by simp), if_pos hn])
      clear h hn
      go_enter Tryz.func22, Tryz.ntmps22
      go_wp2_with fail
      refine HR.out.mono ?_
      rintro e w' ⟨rfl, rfl⟩
      go_wp2_with fail
      go_ret
      exact ⟨dk_retI HZ.out.symm, by unfold armF; rw [HZ.out]; exact H.out, Kd.refl _ _⟩
    · have d1 : decide (n < 0) = false := decide_eq_false hn
      have HZ := Lib.hid (show armE false n = 0 by unfold armE; rw [if_neg (by simp), if_neg hn])
      obtain ⟨⟨sa, sn, sc, ca, cn, cc, h1, h2, h3⟩, h4⟩ := h
      have H1 := Lib.hid h1
      have H2 := Lib.hid h2
      have H3 := Lib.hid h3
      have H4 := Lib.hid h4
      have f5 : w.frozen? ⟨D, 5, none⟩ = false := frozen_of_row _ _ _ _ _ h1
      have c5 : w.cell? ⟨D, 5, none⟩ = some (.int .i64 fu) := (dk_cells h1).2.2.2.2.2
      clear h1 h2 h3 h4 hn
      go_enter Tryz.func22, Tryz.ntmps22
      go_wp2_with fail
      refine HR.out.mono ?_
      rintro e w' ⟨rfl, rfl⟩
      go_wp2_with fail
      have HK := Lib.hid ((KK.refl [D] w).set (b := D) (by simp) 5 (.int .i64 n))
      have HB := Lib.hid (show (w.setCell ⟨D, 5, none⟩ (.int .i64 n)).heap[D]? = some (dkO sa sn sc ca cn cc true false ops n) from heap_setCell_at (i := 5) (u := .int .i64 n) H1.out)
      have HO2 := Lib.hid (H2.out.kkD HK.out H1.out (by decide))
      have HO3 := Lib.hid (H3.out.kkD HK.out H1.out (by decide))
      go_ret
      exact ⟨dk_retI HZ.out.symm, by unfold armF; rw [HZ.out]; exact ⟨⟨sa, sn, sc, ca, cn, cc, HB.out, HO2.out, HO3.out⟩, H4.out⟩, Kd.of_same HK.out H1.out HB.out⟩
end Go.Proofs.YtiflieaemgamkaaGreatDoor

namespace Go.Proofs.YtiflieaemgamkaaGreatDoor
open Go.RowKit Vi

/-- the sectors that are safe, one written over -/
def overS (SS : List ByteArray) (i : Int) (s : ByteArray) : List ByteArray := if dckE SS.length i s = 0 then SS.set i.toNat s else SS
set_option maxRecDepth 100000 in
set_option maxHeartbeats 1000000 in
theorem dover_any (D : Nat) (SS : List ByteArray) (CC : List Wr) (dn : Bool) (ops fu : Int) (i : Int) (s : ByteArray) (w : World) (h : DK D SS CC dn ops fu w) :
    Calls Tryz.prog 19 #[.pointer (some ⟨D, 0, none⟩), .int .i64 i, .string s] w fun e w' => e = .returned (.int .i64 (dckE SS.length i s)) ∧ DK D (overS SS i s) CC dn ops fu w' ∧ Kd D w w' := by
  have HM := Lib.hid h.made
  have HC := Lib.hid (h.checkIs i s)
  obtain ⟨z, hz⟩ : ∃ z, z = dckE SS.length i s := ⟨_, rfl⟩
  rw [← hz] at HC
  by_cases hz0 : z = 0
  rotate_left
  · have hzn : (z != 0) = true := by simpa using hz0
    have H := Lib.hid h
    have HS := Lib.hid (show overS SS i s = SS by unfold overS; rw [if_neg (by rw [← hz]; exact hz0)])
    have HZ := Lib.hid hz
    clear h hz hz0
    go_enter Tryz.func19, Tryz.ntmps19
    go_wp2_with fail
    refine HM.out.mono ?_
    rintro e w' ⟨rfl, rfl⟩
    go_wp2_with fail
    refine HC.out.mono ?_
    rintro e w' ⟨rfl, rfl⟩
    go_wp2_with fail
    go_ret
    exact ⟨dk_retI HZ.out, by rw [HS.out]; exact H.out, Kd.refl _ _⟩
  · subst hz0
    have hq : (0 ≤ i ∧ i < (SS.length : Int)) ∧ s.size = 128 := by
      unfold dckE at hz
      split at hz
      · next q =>
        split at hz
        · next q2 => exact ⟨q, q2⟩
        · cases hz
      · cases hz
    obtain ⟨⟨hi0, hi1⟩, _⟩ := hq
    have HS := Lib.hid (show overS SS i s = SS.set i.toNat s by unfold overS; rw [if_pos hz.symm])
    have HZ := Lib.hid hz
    clear hz
    obtain ⟨k, rfl⟩ : ∃ k : Nat, i = (k : Int) := ⟨i.toNat, by omega⟩
    have hkl : k < SS.length := by omega
    obtain ⟨⟨sa, sn, sc, ca, cn, cc, h1, h2, h3⟩, h4⟩ := h
    have h2' := h2
    rcases h2' with ⟨_, ⟨_, h0⟩ | ⟨g, cap, cur, e, hg, hheap, _⟩⟩
    · omega
    injection e with e1 e2 e3
    subst e1 e2 e3
    obtain ⟨A, c, e, hr, _, _⟩ := h2.rd stC_len
    injection e with e1 e2 e3
    subst e1
    have hck : w.cell? ⟨g, k, none⟩ = some (.string SS[k]) := by
      obtain ⟨b, off, hb, _, hc⟩ := hr.2 (by omega)
      injection hb with hb
      injection hb with hb1 hb2
      subst hb1 hb2
      have q := hc k SS[k] 0 (.string SS[k]) (List.getElem?_eq_getElem hkl) rfl
      rw [Nat.zero_add, Nat.mul_one, Nat.add_zero] at q
      exact q
    have hfk : w.frozen? ⟨g, k, none⟩ = false := frozen_of_row _ _ _ _ _ hheap
    have H1 := Lib.hid h1
    have H2 := Lib.hid (h2.setS (i := k) s)
    have H3 := Lib.hid h3
    have H4 := Lib.hid h4
    have HG := Lib.hid hheap
    have hgb := Lib.hid hg
    have c0 : w.cell? ⟨D, 0, none⟩ = some (.slice (some ⟨g, 0, none⟩) SS.length sc) := (dk_cells h1).1
    have hne : D ≠ g := fun e => by subst e; rw [h1] at hheap; cases hheap
    have HK := Lib.hid ((KK.refl [g] w).set (b := g) (by simp) k (.string s))
    obtain ⟨o, ho⟩ : ∃ o, o = SS[k] := ⟨_, rfl⟩
    rw [← ho] at hck
    clear h1 h2 h3 h4 hr hheap hg e3 ho
    go_enter Tryz.func19, Tryz.ntmps19
    go_wp2_with fail
    refine HM.out.mono ?_
    rintro e w' ⟨rfl, rfl⟩
    go_wp2_with fail
    refine HC.out.mono ?_
    rintro e w' ⟨rfl, rfl⟩
    go_wp2_with fail
    have HB := Lib.hid (HK.out.blk H1.out (by simpa using hne))
    have HO3 := Lib.hid (H3.out.kkD HK.out HG.out (by decide))
    have HBl := Lib.hid (Kd.of_box HK.out (fun b hb => by obtain rfl : b = g := (by simpa using hb); exact InD.safe H1.out) H1.out HB.out (fun b o e => by cases e; exact .inl (InD.safe H1.out)) (fun b o e => by subst e; exact .inl (InD.cache H1.out)))
    go_ret
    exact ⟨dk_retI HZ.out, by rw [HS.out]; exact ⟨⟨_, _, _, ca, cn, cc, HB.out, by simpa using H2.out, HO3.out⟩, by rw [List.length_set]; exact H4.out⟩, HBl.out⟩
end Go.Proofs.YtiflieaemgamkaaGreatDoor

namespace Go.Proofs.YtiflieaemgamkaaGreatDoor
open Go.RowKit Vi

/-- the sectors when writes are safe -/
def safeW (SS : List ByteArray) (CC : List Wr) : List ByteArray := CC.foldl (fun S x => S.set x.1.toNat x.2) SS
theorem safeW_len : ∀ (CC : List Wr) (SS : List ByteArray), (safeW SS CC).length = SS.length
  | [], _ => rfl
  | x :: r, SS => by
    show (safeW (SS.set x.1.toNat x.2) r).length = _
    rw [safeW_len r, List.length_set]
theorem safeW_snoc (SS : List ByteArray) (CC : List Wr) (x : Wr) : safeW SS (CC ++ [x]) = (safeW SS CC).set x.1.toNat x.2 := by unfold safeW; rw [List.foldl_append]; rfl
set_option maxRecDepth 100000 in
set_option maxHeartbeats 4000000 in
theorem dsettle_all (D : Nat) (SS : List ByteArray) (CC : List Wr) (dn : Bool) (ops fu : Int) (w : World) (h : DK D SS CC dn ops fu w) :
    Calls Tryz.prog 60 #[.pointer (some ⟨D, 0, none⟩), .func (.func 112) #[] #[]] w fun e w' => e = .returned (.tuple #[]) ∧ DK D (safeW SS CC) [] dn ops fu w' ∧ Kd D w w' := by
  obtain ⟨⟨sa, sn, sc, ca, cn, cc, h1, h2, h3⟩, h4⟩ := h
  have hsn : sn = SS.length := by
    obtain ⟨A, c, e, _, _, _⟩ := h2.rd stC_len
    injection e
  obtain ⟨A, c, e, hr, hc1, hc2⟩ := h3.rd wrC_len
  injection e with e1 e2 e3
  subst e1 e2 e3
  have H1 := Lib.hid h1
  have HO := Lib.hid h2
  have HC := Lib.hid h3
  have H4 := Lib.hid h4
  have HSN := Lib.hid hsn
  obtain ⟨c0, c1, c2, c3, c4, c5⟩ := dk_cells h1
  have hnm : CC.length ≤ maxLen := Nat.le_trans hc1 hc2
  unfold maxLen at hnm
  clear h1 h2 h3 h4 hr hc1 hc2 hsn
  go_enter Tryz.func60, Tryz.ntmps60
  go_wp2_with fail
  clear c0 c1 c2 c3 c4 c5
  go_loopw [11] (fun i wr => ∃ k : Nat, i = .int .i64 (k : Int) ∧ k ≤ CC.length ∧ wr.heap[D]? = some (dkO sa sn sc ca CC.length cc true dn ops fu) ∧ OwX stC 1 9 wr 0 (.slice sa sn sc) (safeW SS (CC.take k)) ∧ OwX wrC 2 102 wr 0 (.slice ca CC.length cc) CC ∧ Kd D w wr) (fun i _ => CC.length - (intOf i).toNat)
  case atStart => exact ⟨0, rfl, Nat.zero_le _, H1.out, HO.out, HC.out, Kd.refl _ _⟩
  case round =>
    obtain ⟨k, rfl, hk, hd, ho, hc, hb⟩ := hrel
    have HD := Lib.hid hd
    have HS := Lib.hid ho
    have HW := Lib.hid hc
    have HB := Lib.hid hb
    have hDl := lt_of_block hd
    obtain ⟨A, c, e, hr, _, _⟩ := hc.rd wrC_len
    injection e with e1 e2 e3
    subst e1
    have HR := Lib.hid hr
    clear hd ho hc hb hr e3
    by_cases hlt : k < CC.length
    · have hd1 : decide ((k : Int) < (CC.length : Int)) = true := decide_eq_true (by omega)
      have hi0 : (0 : Int) ≤ (k : Int) := by omega
      obtain ⟨b, off, hl, hA, hbb, _⟩ := HR.out.at hlt
      obtain ⟨x, hx⟩ : ∃ x, x = CC[k] := ⟨_, rfl⟩
      have HX := Lib.hid (show CC[k]? = some x by rw [List.getElem?_eq_getElem hl, hx])
      have HT := Lib.hid (show safeW SS (CC.take (k + 1)) = (safeW SS (CC.take k)).set x.1.toNat x.2 by rw [List.take_succ_eq_append_getElem hl, ← hx, safeW_snoc])
      obtain ⟨q1, q2, _⟩ := H4.out x (by rw [hx]; exact List.getElem_mem hl)
      obtain ⟨at0, s⟩ := x
      have q1 : 0 ≤ at0 := q1
      have q2 : at0 < (SS.length : Int) := q2
      obtain ⟨j, rfl⟩ : ∃ j : Nat, at0 = (j : Int) := ⟨at0.toNat, by omega⟩
      have hj : j < (safeW SS (CC.take k)).length := by rw [safeW_len]; omega
      have hj0 : (0 : Int) ≤ (j : Int) := by omega
      have hj1 : (j : Int) < (sn : Int) := by rw [HSN.out]; omega
      obtain ⟨T, hT⟩ : ∃ T, T = safeW SS (CC.take k) := ⟨_, rfl⟩
      rw [← hT] at HT HS hj
      have x0 : wr.cell? ⟨b, off + k * 2, none⟩ = some (.int .i64 (j : Int)) := by subst hA; exact HR.out.cellAt HX.out hlt 0 _ rfl
      have x1 : wr.cell? ⟨b, off + k * 2 + 1, none⟩ = some (.string s) := by subst hA; exact HR.out.cellAt HX.out hlt 1 _ rfl
      clear hx hT q1 q2
      obtain rfl := hA
      have hrow := HS.out
      rcases hrow with ⟨_, ⟨_, h0⟩ | ⟨g, cap, cur, e, hg, hheap, _⟩⟩
      · omega
      injection e with e1 e2 e3
      subst e1 e3
      have hne : ¬ D = g := fun e => by
        have q := HD.out
        rw [e, hheap] at q
        cases q
      have hgl := lt_of_block hheap
      obtain ⟨A2, c2, e, hr2, _, _⟩ := HS.out.rd stC_len
      injection e with e1 e2 e3
      subst e1
      have hck : wr.cell? ⟨g, j, none⟩ = some (.string T[j]) := by
        obtain ⟨b2, off2, hb2, _, hc2⟩ := hr2.2 (by omega)
        injection hb2 with hb2
        injection hb2 with hb3 hb4
        subst hb3 hb4
        have q := hc2 j T[j] 0 (.string T[j]) (List.getElem?_eq_getElem hj) rfl
        rw [Nat.zero_add, Nat.mul_one, Nat.add_zero] at q
        exact q
      obtain ⟨o, ho⟩ : ∃ o, o = T[j] := ⟨_, rfl⟩
      rw [← ho] at hck
      have HG := Lib.hid (blk_alloc hheap (.cells #[.int .i64 (j : Int), .string s] 102 (0, 0)))
      have HGB := Lib.hid hg
      have HBn := Lib.hid ((Below.refl wr.heap.size wr).alloc (Nat.le_refl _) (.cells #[.int .i64 (j : Int), .string s] 102 (0, 0)))
      have HDn := Lib.hid (blk_below HD.out HBn.out)
      have HXn := Lib.hid (blk_new wr (.cells #[.int .i64 (j : Int), .string s] 102 (0, 0)))
      have HSn := Lib.hid (HS.out.kept HBn.out)
      have HWn := Lib.hid (HW.out.kept HBn.out)
      have HB1 := Lib.hid (HB.out.trans (Kd.of_below HBn.out hDl))
      have hcn : (wr.alloc (.cells #[.int .i64 (j : Int), .string s] 102 (0, 0))).cell? ⟨g, j, none⟩ = some (.string o) := by rw [HBn.out.cell (p := ⟨g, j, none⟩) hgl]; exact hck
      have HAL := Lib.hid (fun W : World => dall_any (k : Int) W)
      have hbs := HB.out.size
      clear hr2 hheap hg ho e2 e3 hck
      go_wp2_with fail
      clear x0 x1
      refine (HAL.out _).mono ?_
      rintro e w' ⟨rfl, rfl⟩
      go_upto_region 4 with (fail)
      obtain ⟨v, hv⟩ : ∃ v, v = wr.alloc (.cells #[.int .i64 (j : Int), .string s] 102 (0, 0)) := ⟨_, rfl⟩
      rw [← hv] at HG HDn HXn HSn HWn HB1 hcn
      try rw [← hv]
      clear hv HBn
      have hvs : wr.heap.size < v.heap.size := lt_of_block HXn.out
      have hnw : ¬ wr.heap.size = g := by omega
      have y0 : v.drew.cell? ⟨D, 0, none⟩ = some (.slice (some ⟨g, 0, none⟩) sn sc) := (dk_cells (show v.drew.heap[D]? = _ from HDn.out)).1
      have y1 : v.drew.cell? ⟨wr.heap.size, 0, none⟩ = some (.int .i64 (j : Int)) := (cell_of_row _ _ _ _ _ _ (show v.drew.heap[wr.heap.size]? = _ from HXn.out)).trans rfl
      have y2 : v.drew.cell? ⟨wr.heap.size, 1, none⟩ = some (.string s) := (cell_of_row _ _ _ _ _ _ (show v.drew.heap[wr.heap.size]? = _ from HXn.out)).trans rfl
      have y3 : v.drew.cell? ⟨g, j, none⟩ = some (.string o) := hcn
      have f3 : v.drew.frozen? ⟨g, j, none⟩ = false := frozen_of_row _ _ _ _ _ (show v.drew.heap[g]? = _ from HG.out)
      have HK := Lib.hid ((KK.refl [g] v.drew).set (b := g) (by simp) j (.string s))
      have HD9 := Lib.hid (HK.out.blk (show v.drew.heap[D]? = _ from HDn.out) (by simpa using hne))
      have HX9 := Lib.hid (HK.out.blk (show v.drew.heap[wr.heap.size]? = _ from HXn.out) (by simpa using hnw))
      have z0 := (dk_cells HD9.out).1
      have z1 := (cell_of_row _ _ 0 _ _ _ HX9.out).trans rfl
      have z2 := (cell_of_row _ _ 1 _ _ _ HX9.out).trans rfl
      go_region_held3 (fun w9 => w9.cell? ⟨D, 0, none⟩ = some (.slice (some ⟨g, 0, none⟩) sn sc) ∧ w9.cell? ⟨wr.heap.size, 0, none⟩ = some (.int .i64 (j : Int)) ∧ w9.cell? ⟨wr.heap.size, 1, none⟩ = some (.string s))
        (first | exact ⟨y0, y1, y2⟩ | exact ⟨z0, z1, z2⟩ | go_keep) (fail)
      all_goals
        have HS9 := Lib.hid (HSn.out.drew.setS (i := j) s)
        have HW9 := Lib.hid (HWn.out.drew.kkD HK.out (show v.drew.heap[g]? = _ from HG.out) (by decide))
        have HB9 := Lib.hid (HB1.out.trans (Kd.of_box (show KK [g] v _ from HK.out.drewl) (fun b hb => by obtain rfl : b = g := (by simpa using hb); exact InD.safe HDn.out) HDn.out HD9.out (fun b o e => by cases e; exact .inl (InD.safe HDn.out)) (fun b o e => by cases e; exact .inl (InD.cache HDn.out))))
        clear y0 y1 y2 y3 z0 z1 z2 f3
        go_wp2_with fail
        go_roundw
        case rel => exact ⟨k + 1, by go_num, by omega, HD9.out, by rw [HT.out]; exact HS9.out, HW9.out, HB9.out⟩
        case measure => simp [intOf] <;> omega
    · have hd1 : decide ((k : Int) < (CC.length : Int)) = false := decide_eq_false (by omega)
      have HE := Lib.hid (show CC.take k = CC from List.take_of_length_le (by omega))
      have f1 : wr.frozen? ⟨D, 1, none⟩ = false := frozen_of_row _ _ _ _ _ HD.out
      have y1 : wr.cell? ⟨D, 1, none⟩ = some (.slice ca CC.length cc) := (dk_cells HD.out).2.1
      go_wp2_with fail
      have HK := Lib.hid ((KK.refl [D] wr).set (b := D) (by simp) 1 (.slice none 0 0))
      have HR9 := Lib.hid (show (wr.setCell ⟨D, 1, none⟩ (.slice none 0 0)).heap[D]? = some (dkO sa sn sc none 0 0 true dn ops fu) from heap_setCell_at (i := 1) (u := .slice none 0 0) HD.out)
      have HO2 := Lib.hid (HS.out.kkD HK.out HD.out (by decide))
      have HB9 := Lib.hid (HB.out.trans (Kd.of_none HK.out HD.out HR9.out))
      refine bodyPost_end (results_none rfl _ _ _) rfl ?_
      exact ⟨rfl, ⟨⟨sa, sn, sc, none, 0, 0, HR9.out, by rw [← HE.out]; exact HO2.out, OwX.nil _⟩, fun x hx => by cases hx⟩, HB9.out⟩
end Go.Proofs.YtiflieaemgamkaaGreatDoor

namespace Go.Proofs.YtiflieaemgamkaaGreatDoor
open Go.RowKit Vi

set_option maxRecDepth 100000 in
theorem dflush1 (X D : Nat) (SS : List ByteArray) (CC : List Wr) (dn : Bool) (ops fu : Int) (w : World) (h : DK D SS CC dn ops fu w) (hx : w.heap[X]? = some (.cells #[.pointer (some ⟨D, 0, none⟩)] 25 (0, 0))) :
    Calls Tryz.prog 111 #[.pointer (some ⟨X, 0, none⟩)] w fun e w' => e = .returned (.tuple #[]) ∧ DK D (safeW SS CC) [] dn ops fu w' ∧ Kd D w w' := by
  have HS := Lib.hid (dsettle_all D SS CC dn ops fu w h)
  have x0 : w.cell? ⟨X, 0, none⟩ = some (.pointer (some ⟨D, 0, none⟩)) := (cell_of_row _ _ _ _ _ _ hx).trans rfl
  clear h hx
  go_enter Tryz.func111, Tryz.ntmps111
  go_wp2_with fail
  refine HS.out.mono ?_
  rintro e w1 ⟨rfl, hd, hb⟩
  have HD := Lib.hid hd
  have HB := Lib.hid hb
  clear hd hb x0
  go_wp2_with fail
  refine bodyPost_end (results_none rfl _ _ _) rfl ?_
  exact ⟨rfl, HD.out, HB.out⟩
/-- why a step isn't done -/
def stpE (fu : Int) : Int := if fu = 1 then 7 else 0
def stpD (fu : Int) : Bool := decide (fu = 1)
def stpO (ops fu : Int) : Int := if fu = 1 then ops else ops + 1
def stpS (fu : Int) (SS : List ByteArray) (CC : List Wr) : List ByteArray := if fu = 1 then SS else safeW SS CC
def stpC (fu : Int) (CC : List Wr) : List Wr := if fu = 1 then CC else []
def stpF (fu : Int) : Int := if fu = 1 then 0 else max (fu - 1) 0
set_option maxRecDepth 100000 in
set_option maxHeartbeats 2000000 in
theorem dstep_flush (X D : Nat) (SS : List ByteArray) (CC : List Wr) (ops fu : Int) (w : World) (h : DK D SS CC false ops fu w) (hx : w.heap[X]? = some (.cells #[.pointer (some ⟨D, 0, none⟩)] 25 (0, 0))) (ho : -1000000000 ≤ ops ∧ ops ≤ 1000000000) (hf : 0 ≤ fu ∧ fu ≤ 9223372036854775807) :
    Calls Tryz.prog 110 #[.pointer (some ⟨D, 0, none⟩), .func (.func 111) #[] #[.pointer (some ⟨X, 0, none⟩)]] w fun e w' => e = .returned (.int .i64 (stpE fu)) ∧ DK D (stpS fu SS CC) (stpC fu CC) (stpD fu) (stpO ops fu) (stpF fu) w' ∧ Kd D w w' := by
  obtain ⟨⟨sa, sn, sc, ca, cn, cc, h1, h2, h3⟩, h4⟩ := h
  have hne : X ≠ D := fun e => by subst e; rw [h1] at hx; cases hx
  have H1 := Lib.hid h1
  have H2 := Lib.hid h2
  have H3 := Lib.hid h3
  have H4 := Lib.hid h4
  obtain ⟨c0, c1, c2, c3, c4, c5⟩ := dk_cells h1
  by_cases hq : fu = 1
  · subst hq
    have HT := Lib.hid (dturn_any D sa sn sc ca cn cc true false ops 1 true w h1)
    clear h1 h2 h3 h4 hx
    go_enter Tryz.func110, Tryz.ntmps110
    go_wp2_with fail
    clear c0 c1 c2 c3 c4 c5
    refine HT.out.mono ?_
    rintro e w1 ⟨rfl, hb, hk⟩
    have HB := Lib.hid hb
    have HK := Lib.hid hk
    clear hb hk
    have HO2 := Lib.hid (H2.out.kkD HK.out H1.out (by decide))
    have HO3 := Lib.hid (H3.out.kkD HK.out H1.out (by decide))
    have HBl := Lib.hid (Kd.of_same HK.out H1.out HB.out)
    go_wp2_with fail
    go_ret
    exact ⟨rfl, ⟨⟨sa, sn, sc, ca, cn, cc, HB.out, HO2.out, HO3.out⟩, H4.out⟩, HBl.out⟩
  · have d1 : (fu == 1) = false := by rw [beq_eq_false_iff_ne]; exact hq
    have w1 : IntKind.i64.wrap (fu - 1) = fu - 1 := IntWalk.i64_in _ (by omega)
    have w2 : IntKind.i64.wrap (ops + 1) = ops + 1 := IntWalk.i64_in _ (by omega)
    have f4 : w.frozen? ⟨D, 4, none⟩ = false := frozen_of_row _ _ _ _ _ h1
    have f5 : w.frozen? ⟨D, 5, none⟩ = false := frozen_of_row _ _ _ _ _ h1
    have HQ := Lib.hid hq
    have HX := Lib.hid hx
    clear h1 h2 h3 h4 hx hq
    go_enter Tryz.func110, Tryz.ntmps110
    go_wp2_with fail
    have HK := Lib.hid (((KK.refl [D] w).set (b := D) (by simp) 5 (.int .i64 (max (fu - 1) 0))).set (b := D) (by simp) 4 (.int .i64 (ops + 1)))
    have HB := Lib.hid (show ((w.setCell ⟨D, 5, none⟩ (.int .i64 (max (fu - 1) 0))).setCell ⟨D, 4, none⟩ (.int .i64 (ops + 1))).heap[D]? = some (dkO sa sn sc ca cn cc true false (ops + 1) (max (fu - 1) 0)) by have q := heap_setCell_at (i := 4) (u := .int .i64 (ops + 1)) (heap_setCell_at (i := 5) (u := .int .i64 (max (fu - 1) 0)) H1.out); exact q)
    have HX2 := Lib.hid (HK.out.blk HX.out (by simpa using hne))
    have HO2 := Lib.hid (H2.out.kkD HK.out H1.out (by decide))
    have HO3 := Lib.hid (H3.out.kkD HK.out H1.out (by decide))
    have HBl := Lib.hid (Kd.of_same HK.out H1.out HB.out)
    clear c0 c1 c2 c3 c4 c5 f4 f5 w1 w2 d1
    generalize ((w.setCell ⟨D, 5, none⟩ (.int .i64 (max (fu - 1) 0))).setCell ⟨D, 4, none⟩ (.int .i64 (ops + 1))) = v at *
    have HF := Lib.hid (dflush1 X D SS CC false (ops + 1) (max (fu - 1) 0) v ⟨⟨sa, sn, sc, ca, cn, cc, HB.out, HO2.out, HO3.out⟩, H4.out⟩ HX2.out)
    refine HF.out.mono ?_
    rintro e w1 ⟨rfl, hd, hb⟩
    have HD := Lib.hid hd
    have HB2 := Lib.hid (HBl.out.trans hb)
    clear hd hb
    go_wp2_with fail
    go_ret
    exact ⟨dk_retI (by unfold stpE; rw [if_neg HQ.out]), by unfold stpS stpC stpD stpO stpF; rw [if_neg HQ.out, if_neg HQ.out, if_neg HQ.out, if_neg HQ.out, decide_eq_false HQ.out]; exact HD.out, HB2.out⟩
end Go.Proofs.YtiflieaemgamkaaGreatDoor

namespace Go.Proofs.YtiflieaemgamkaaGreatDoor
open Go.RowKit Vi

set_option maxRecDepth 100000 in
theorem dflush_down (D : Nat) (SS : List ByteArray) (CC : List Wr) (ops fu : Int) (w : World) (h : DK D SS CC true ops fu w) :
    Calls Tryz.prog 55 #[.pointer (some ⟨D, 0, none⟩)] w fun e w' => e = .returned (.int .i64 7) ∧ DK D SS CC true ops fu w' ∧ Kd D w w' := by
  have HBn := Lib.hid ((Below.refl w.heap.size w).alloc (Nat.le_refl _) (.cells #[.pointer (some ⟨D, 0, none⟩)] 25 (0, 0)))
  have HL := Lib.hid h.lt
  have HD := Lib.hid (h.kept HBn.out)
  have HR := Lib.hid HD.out.readyIs
  have HX := Lib.hid (blk_new w (.cells #[.pointer (some ⟨D, 0, none⟩)] 25 (0, 0)))
  have x0 : (w.alloc (.cells #[.pointer (some ⟨D, 0, none⟩)] 25 (0, 0))).cell? ⟨w.heap.size, 0, none⟩ = some (.pointer (some ⟨D, 0, none⟩)) := (cell_of_row _ _ _ _ _ _ HX.out).trans rfl
  clear h
  go_enter Tryz.func55, Tryz.ntmps55
  go_wp2_with fail
  clear x0
  refine HR.out.mono ?_
  rintro e w' ⟨rfl, rfl⟩
  go_wp2_with fail
  go_ret
  exact ⟨rfl, HD.out, Kd.of_below HBn.out HL.out⟩
set_option maxRecDepth 100000 in
theorem dflush_up (D : Nat) (SS : List ByteArray) (CC : List Wr) (ops fu : Int) (w : World) (h : DK D SS CC false ops fu w) (ho : -1000000000 ≤ ops ∧ ops ≤ 1000000000) (hf : 0 ≤ fu ∧ fu ≤ 9223372036854775807) :
    Calls Tryz.prog 55 #[.pointer (some ⟨D, 0, none⟩)] w fun e w' => e = .returned (.int .i64 (stpE fu)) ∧ DK D (stpS fu SS CC) (stpC fu CC) (stpD fu) (stpO ops fu) (stpF fu) w' ∧ Kd D w w' := by
  have HBn := Lib.hid ((Below.refl w.heap.size w).alloc (Nat.le_refl _) (.cells #[.pointer (some ⟨D, 0, none⟩)] 25 (0, 0)))
  have HL := Lib.hid h.lt
  have HD := Lib.hid (h.kept HBn.out)
  have HR := Lib.hid HD.out.readyIs
  have HX := Lib.hid (blk_new w (.cells #[.pointer (some ⟨D, 0, none⟩)] 25 (0, 0)))
  have HS := Lib.hid (dstep_flush w.heap.size D SS CC ops fu _ HD.out HX.out ho hf)
  have x0 : (w.alloc (.cells #[.pointer (some ⟨D, 0, none⟩)] 25 (0, 0))).cell? ⟨w.heap.size, 0, none⟩ = some (.pointer (some ⟨D, 0, none⟩)) := (cell_of_row _ _ _ _ _ _ HX.out).trans rfl
  clear h
  go_enter Tryz.func55, Tryz.ntmps55
  go_wp2_with fail
  refine HR.out.mono ?_
  rintro e w' ⟨rfl, rfl⟩
  go_wp2_with fail
  clear x0
  refine HS.out.mono ?_
  rintro e w1 ⟨rfl, hd, hb⟩
  have HD1 := Lib.hid hd
  have HB1 := Lib.hid ((Kd.of_below HBn.out HL.out).trans hb)
  clear hd hb
  go_wp2_with fail
  go_ret
  exact ⟨rfl, HD1.out, HB1.out⟩
end Go.Proofs.YtiflieaemgamkaaGreatDoor

namespace Go.Proofs.YtiflieaemgamkaaGreatDoor
open Go.RowKit

theorem run_appPo {α : Type} {f : α → List Value} {s : Nat} {w : World} {t e : TypeId} {z : Value} {bytes : Nat} (hu : Tryz.prog.underlying t = some (.slice e)) (hinfo : (Tryz.prog.info? e).map (fun i => (i.zero, i.size, i.bytes)) = some (some z, s, bytes)) (hz : z.cells.size = s) (hs0 : 0 < s) (hby : bytes ≤ 100)
    (hf : ∀ x, (f x).length = s) (h1 : ∀ x, ∀ u ∈ f x, u.oneCell' = true)
    (ty : TypeId) (base : Nat) (v : Value) (l : List α) (hown : OwX f s e w base v l) (b c : Nat) (x : α) (cs : Array Value) (T' : TypeId) (fr : Nat × Nat) (hb : w.heap[b]? = some (.cells cs T' fr)) (hcs : cs.toList = f x)
    (hm : l.length + 1 ≤ 1000000) (hbase : base ≤ w.heap.size) :
    ∃ v' w', (Builtin.append_ #[t, t] ty #[v, .slice (some ⟨b, 0, none⟩) 1 c]).run Tryz.prog w = .ok v' w' ∧ OwX f s e w' base v' (l ++ [x]) ∧ w.grownBy w' v.ownBlock ∧ (v'.ownBlock = v.ownBlock ∨ v'.ownBlock = some w.heap.size) := by
  obtain ⟨i0, hi, hz0, hz1, hz2⟩ := info_parts hinfo
  have hmul : (l.length + 1) * bytes ≤ 1000000 * 100 := Nat.mul_le_mul hm hby
  obtain ⟨v', w', hr, h2, h3, _, h5⟩ := run_append_own_at (P := Tryz.prog) w base t ty e i0 z s bytes hu hi hz0 hz1 hz2 hz hs0 v l.length (flat f l) hown ⟨b, 0, none⟩ 1 c (f x)
    (by rw [hf]; omega) (fun j u hj => by
      rw [Addr.add_lit, Nat.zero_add, cell_of_row _ _ _ _ _ _ hb]
      rw [← hcs] at hj
      simpa using hj) (h1 x) (by unfold maxLen; omega) (by omega) hbase
  refine ⟨v', w', hr, ?_, h3, h5⟩
  unfold OwX
  rw [List.length_append, flat_app, flat_one]
  exact h2
theorem step_appPo {α : Type} {f : α → List Value} {s : Nat} {ops : Array Oper} {o : Oper} {a : Act} {K : Act → World → Prop} {Q : Exit → Act → World → Prop} {E : Prop} {w : World} (hgd : o.guard = none) (sl xo : Operand) (t e : TypeId) (z : Value) (bytes : Nat)
    (ho : o.op = .call { callee := .builtin .append, args := #[sl, xo], argTypes := #[t, t] })
    (hu : Tryz.prog.underlying t = some (.slice e)) (hinfo : (Tryz.prog.info? e).map (fun i => (i.zero, i.size, i.bytes)) = some (some z, s, bytes)) (hz : z.cells.size = s) (hs0 : 0 < s) (hby : bytes ≤ 100)
    (hf : ∀ x, (f x).length = s) (h1 : ∀ x, ∀ u ∈ f x, u.oneCell' = true)
    (B : Nat) (w0 : World) (hb : Below B w0 w) (hB : B ≤ w.heap.size) (v : Value) (l : List α) (hs : a.eval sl = v) (hown : OwX f s e w B v l)
    (bn c : Nat) (x : α) (cs : Array Value) (T' : TypeId) (fr : Nat × Nat) (hx : a.eval xo = .slice (some ⟨bn, 0, none⟩) 1 c) (hbn : w.heap[bn]? = some (.cells cs T' fr)) (hcs : cs.toList = f x) (hm : l.length + 1 ≤ 1000000)
    (h : ∀ v' w', Hid (OwX f s e w' B v' (l ++ [x])) → Hid (Below B w0 w') → Hid (w.grownBy w' v.ownBlock) → Hid (v'.ownBlock = v.ownBlock ∨ v'.ownBlock = some w.heap.size) → K (a.put o.dst v') w') :
    if Region.wanted o (yielded ops a.tmps) = true then Oper.wp Tryz.prog o a w K Q else E := by
  have hw : Region.wanted o (yielded ops a.tmps) = true := by simp [Region.wanted, hgd]
  rw [if_pos hw]
  obtain ⟨v', w', hr, h2, h3, h5⟩ := run_appPo hu hinfo hz hs0 hby hf h1 o.type B v l hown bn c x cs T' fr hbn hcs hm hB
  unfold Oper.wp execOp
  simp only [ho, resolve, invoke, builtin, Sem.run_bind, Sem.run_pure, Result.andThen_ok, List.map_toArray, List.map_cons, List.map_nil, hs, hx, hr]
  exact h v' w' h2 (hb.grown h3 hB (fun k hk => (World.ownsRow.lt hown k hk).1)) h3 h5
end Go.Proofs.YtiflieaemgamkaaGreatDoor

namespace Go.Proofs.YtiflieaemgamkaaGreatDoor
open Go

section
variable {P : Program} {ops : Array Oper} {Q : Exit → Act → World → Prop} {md : Region.Mode} {S : Array Bool → World → Prop}

/-- what has come up has not come up ahead of what it waits for -/
def ShutL (md : Region.Mode) (ops : Array Oper) (L : Array Bool) : Prop := ∀ k ok, ops[k]? = some ok → L.getD k false = true → ∀ e ∈ ok.after, Region.binds md e = true → L.getD e.on false = true
/-- whichever order is picked from here on; S of what has come up holds behind each -/
def wpAnyL (P : Program) (md : Region.Mode) (ops : Array Oper) (Q : Exit → Act → World → Prop) (S : Array Bool → World → Prop) : Nat → Array Bool → Act → World → Prop
  | 0, L, a, w => Region.ready md ops L = [] ∧ Q .normal a w
  | f + 1, L, a, w => (Region.ready md ops L = [] → Q .normal a w) ∧
      ∀ i ∈ Region.ready md ops L, wpOp P ops Q i (fun a' w' => S (L.setIfInBounds i true) w' ∧ wpAnyL P md ops Q S f (L.setIfInBounds i true) a' w') a w
theorem wpAny_of_L : ∀ (f : Nat) (L : Array Bool) (a : Act) (w : World), wpAnyL P md ops Q S f L a w → wpAny P md ops Q f L a w
  | 0, _, _, _, h => h
  | f + 1, _, _, _, h => ⟨h.1, fun i hi => wpOp_mono (fun a' w' h' => wpAny_of_L f _ a' w' h'.2) (h.2 i hi)⟩
/-- the worlds in which an operation that has not come up may come up -/
def SI (md : Region.Mode) (ops : Array Oper) (S : Array Bool → World → Prop) (i : Nat) (w : World) : Prop := ∃ L, ShutL md ops L ∧ L.getD i true = false ∧ S L w
theorem getD_set (L : Array Bool) (j k : Nat) (hne : j ≠ k) : (L.setIfInBounds j true).getD k true = L.getD k true := by
  simp [Array.getD_eq_getD_getElem?, hne]
theorem getF_set (L : Array Bool) (j k : Nat) (hne : j ≠ k) : (L.setIfInBounds j true).getD k false = L.getD k false := by
  simp [Array.getD_eq_getD_getElem?, hne]
theorem getF_on (L : Array Bool) (j : Nat) (h : j < L.size) : (L.setIfInBounds j true).getD j false = true := by
  simp [Array.getD_eq_getD_getElem?, h]
theorem ShutL.set {L : Array Bool} (h : ShutL md ops L) {j : Nat} (hj : j ∈ Region.ready md ops L) : ShutL md ops (L.setIfInBounds j true) := by
  intro k ok hk hl e he hb
  obtain ⟨hun, oj, hoj, hall⟩ := mem_ready.1 hj
  have hjs : j < L.size := by
    rcases Nat.lt_or_ge j L.size with h' | h'
    · exact h'
    · simp [Array.getElem?_eq_none h'] at hun
  have step : ∀ m, L.getD m false = true → (L.setIfInBounds j true).getD m false = true := fun m hm => by
    by_cases hjm : j = m
    · subst hjm; exact getF_on L j hjs
    · rw [getF_set L j m hjm]; exact hm
  by_cases hjk : j = k
  · subst hjk
    rw [hoj] at hk
    injection hk with hk
    subst hk
    apply step
    simpa using hall e he hb
  · rw [getF_set L j k hjk] at hl
    exact step _ (h k ok hk hl e he hb)
theorem ShutL.none (n : Nat) : ShutL md ops (Array.replicate n false) := by
  intro k ok _ hl
  simp only [Array.getD_eq_getD_getElem?, Array.getElem?_replicate] at hl
  split at hl <;> cases hl
theorem wpAnyL_first {i : Nat} {oi : Oper} {v : Value} (hi : ops[i]? = some oi) (hsel : ∀ (j : Nat) (o : Oper) cs b, ops[j]? = some o → o.op ≠ .select cs b)
    (hQ : ∀ c a w, Q (.panic c) (a.put oi.dst v) w → Q (.panic c) a w) (hSi : ∀ L w, S (L.setIfInBounds i true) w ↔ S L w) :
    ∀ (f : Nat) (L : Array Bool) (a : Act) (w : World),
      (∀ j oj, ops[j]? = some oj → j ≠ i → L.getD j true = false → (∀ e ∈ oj.after, Region.binds md e = true → e.on ≠ i) → oi.apart ops oj = true) →
      i ∈ Region.ready md ops L → ShutL md ops L → YieldsIf P ops (SI md ops S i) oi v a → S L w →
      wpAnyL P md ops Q S f (L.setIfInBounds i true) (a.put oi.dst v) w → wpAnyL P md ops Q S (f + 1) L a w := by
  intro f
  induction f with
  | zero =>
    intro L a w _ hr hc hy hS H
    refine ⟨fun h => (by rw [h] at hr; cases hr), fun j hj => ?_⟩
    by_cases hji : j = i
    · subst hji; exact hy.wpOp hi ⟨L, hc, (mem_ready.1 hr).1, hS⟩ ⟨(hSi L w).2 hS, H⟩
    · have := ready_mono hj hji
      rw [H.1] at this
      cases this
  | succ f ih =>
    intro L a w hfree hr hc hy hS H
    refine ⟨fun h => (by rw [h] at hr; cases hr), fun j hj => ?_⟩
    by_cases hji : j = i
    · subst hji; exact hy.wpOp hi ⟨L, hc, (mem_ready.1 hr).1, hS⟩ ⟨(hSi L w).2 hS, H⟩
    · have h1 := H.2 j (ready_mono hj hji)
      obtain ⟨hjun, oj, hoj, hall⟩ := mem_ready.1 hj
      have hnot : ∀ e ∈ oj.after, Region.binds md e = true → e.on ≠ i := fun e he hb heq => by
        have h1 := hall e he hb
        have h0 := (mem_ready.1 hr).1
        rw [heq] at h1
        rcases Nat.lt_or_ge i L.size with h' | h'
        · simp [h'] at h0 h1; rw [h0] at h1; cases h1
        · simp [Array.getElem?_eq_none h'] at h1
      have h2 := wpOp_putIf hoj (hfree j oj hoj hji hjun hnot) (fun cs b => hsel i oi cs b hi) (fun cs b => hsel j oj cs b hoj) hQ hy h1
      refine wpOp_mono (fun a' w' h3 => ?_) h2
      have hs3 : S (L.setIfInBounds j true) w' := by
        have q := h3.2.1
        rw [Array.setIfInBounds_comm _ _ (Ne.symm hji)] at q
        exact (hSi _ _).1 q
      refine ⟨hs3, ih (L.setIfInBounds j true) a' w' (fun k ok hk hki hun hno => ?_) (ready_mono hr (Ne.symm hji)) (hc.set hj) h3.1 hs3 ?_⟩
      · refine hfree k ok hk hki ?_ hno
        by_cases hjk : j = k
        · subst hjk; exact hjun
        · rw [getD_set L j k hjk] at hun; exact hun
      · rw [Array.setIfInBounds_comm _ _ hji]
        exact h3.2.2
/-- take number i first -/
theorem wpAnyL_take {i : Nat} {oi : Oper} {v : Value} {f : Nat} {L : Array Bool} {a : Act} {w : World} (hi : ops[i]? = some oi)
    (hs : Region.noSelect ops = true) (hf : Region.free md ops L i = true) (hr : (Region.ready md ops L).contains i = true)
    (hQ : ∀ c a w, Q (.panic c) (a.put oi.dst v) w → Q (.panic c) a w) (hSi : ∀ L w, S (L.setIfInBounds i true) w ↔ S L w) (hc : ShutL md ops L) (hy : YieldsIf P ops (SI md ops S i) oi v a) (hS : S L w)
    (h : ShutL md ops (L.setIfInBounds i true) → S (L.setIfInBounds i true) w → wpAnyL P md ops Q S f (L.setIfInBounds i true) (a.put oi.dst v) w) : wpAnyL P md ops Q S (f + 1) L a w :=
  wpAnyL_first hi (Region.noSelect_spec hs) hQ hSi f L a w (Region.free_spec hi hf) (by simpa using hr) hc hy hS (h (hc.set (by simpa using hr)) ((hSi _ _).2 hS))
/-- whichever of those that may come up comes up -/
theorem wpAnyL_all {rs : List Nat} {f : Nat} {L : Array Bool} {a : Act} {w : World} (hr : Region.ready md ops L = rs) (hne : rs ≠ []) (hc : ShutL md ops L)
    (h : ∀ i ∈ rs, wpOp P ops Q i (fun a' w' => S (L.setIfInBounds i true) w' ∧ (ShutL md ops (L.setIfInBounds i true) → wpAnyL P md ops Q S f (L.setIfInBounds i true) a' w')) a w) : wpAnyL P md ops Q S (f + 1) L a w :=
  ⟨fun h0 => absurd (hr ▸ h0) hne, fun i hi => wpOp_mono (fun _ _ q => ⟨q.1, q.2 (hc.set hi)⟩) (h i (hr ▸ hi))⟩
theorem wpAnyL_done {L : Array Bool} {a : Act} {w : World} (hr : Region.ready md ops L = []) (h : Q .normal a w) : ∀ f, wpAnyL P md ops Q S f L a w
  | 0 => ⟨hr, h⟩
  | _ + 1 => ⟨fun _ => h, by rw [hr]; simp⟩
theorem wp_region_L {id : Nat} {a : Act} {w : World} (hm : P.follows .mixedOrders = true)
    (h : wpAnyL P .any ops Q S ops.size (Array.replicate ops.size false) a { w with drawn := w.drawn + 1 }) : (Code.region id ops true).wp P Q a w :=
  wp_region_any hm (wpAny_of_L _ _ _ _ h)
end
end Go.Proofs.YtiflieaemgamkaaGreatDoor

namespace Go.Proofs.YtiflieaemgamkaaGreatDoor
open Go

section
variable {P : Program} {ops : Array Oper} {Q : Exit → Act → World → Prop} {md : Region.Mode} {S : Array Bool → World → Prop}
def AllReadyL (P : Program) (md : Region.Mode) (ops : Array Oper) (Q : Exit → Act → World → Prop) (S : Array Bool → World → Prop) (fuel : Nat) (L : Array Bool) (a : Act) (w : World) (rs : List Nat) : Prop :=
  ∀ i ∈ rs, wpOp P ops Q i (fun a' w' => S (L.setIfInBounds i true) w' ∧ (ShutL md ops (L.setIfInBounds i true) → wpAnyL P md ops Q S fuel (L.setIfInBounds i true) a' w')) a w
theorem AllReadyL.nil {fuel : Nat} {L : Array Bool} {a : Act} {w : World} : AllReadyL P md ops Q S fuel L a w [] := fun _ h => by cases h
theorem AllReadyL.cons {fuel : Nat} {L : Array Bool} {a : Act} {w : World} {i : Nat} {o : Oper} {rs : List Nat} (ho : ops[i]? = some o)
    (h : ∀ K' : Act → World → Prop, Shut (∀ a w, S (L.setIfInBounds i true) w → (ShutL md ops (L.setIfInBounds i true) → wpAnyL P md ops Q S fuel (L.setIfInBounds i true) a w) → K' a w) → if Region.wanted o (yielded ops a.tmps) = true then Oper.wp P o a w K' Q else K' (a.put o.dst undef) w)
    (hs : AllReadyL P md ops Q S fuel L a w rs) : AllReadyL P md ops Q S fuel L a w (i :: rs) := fun j hj => by
  rcases List.mem_cons.1 hj with rfl | hj
  · exact wpOp_step ho (fun K' hK => h K' (fun a w hS hW => hK a w ⟨hS, hW⟩))
  · exact hs j hj
theorem wpAnyL_ready {rs : List Nat} {fuel : Nat} {L : Array Bool} {a : Act} {w : World} (hr : Region.ready md ops L = rs) (hne : rs ≠ []) (hc : ShutL md ops L)
    (h : AllReadyL P md ops Q S fuel L a w rs) : wpAnyL P md ops Q S (fuel + 1) L a w := wpAnyL_all hr hne hc h
theorem wp_region_L_drew {id : Nat} {a : Act} {w : World} (hm : P.follows .mixedOrders = true) (hS : S (Array.replicate ops.size false) w.drew)
    (h : S (Array.replicate ops.size false) w.drew → ShutL .any ops (Array.replicate ops.size false) → wpAnyL P .any ops Q S ops.size (Array.replicate ops.size false) a w.drew) : (Code.region id ops true).wp P Q a w :=
  wp_region_L hm (h hS (ShutL.none _))
/-- k waits for i, in so many steps -/
def waits (md : Region.Mode) (ops : Array Oper) : Nat → Nat → Nat → Bool
  | 0, _, _ => false
  | f + 1, k, i => match ops[k]? with
    | some o => o.after.toList.any fun e => Region.binds md e && (e.on == i || waits md ops f e.on i)
    | none => false
theorem shut_of {L : Array Bool} (hs : ShutL md ops L) {i : Nat} (hi : L.getD i true = false) : ∀ (f k : Nat), waits md ops f k i = true → L.getD k false = false
  | 0, k, h => by simp [waits] at h
  | f + 1, k, h => by
    cases hk : L.getD k false with
    | false => rfl
    | true =>
      exfalso
      unfold waits at h
      split at h
      · next o ho =>
        obtain ⟨e, he, hb⟩ := List.any_eq_true.1 h
        rw [Bool.and_eq_true, Bool.or_eq_true] at hb
        have h1 := hs k o ho hk e (by simpa using he) hb.1
        rcases hb.2 with q | q
        · have : e.on = i := by simpa using q
          rw [this] at h1
          rw [Array.getD_eq_getD_getElem?] at h1 hi
          cases hq : L[i]? with
          | none => rw [hq] at hi; simp at hi
          | some b => rw [hq] at h1 hi; simp at h1 hi; rw [h1] at hi; cases hi
        · rw [shut_of hs hi f e.on q] at h1; cases h1
      · cases h
end
/-- two cells hold what they hold as long as the stores k1, k2 have not come up -/
structure SO (g1 o1 g2 o2 : Nat) (x1 x2 : Value) (k1 k2 : Nat) (L : Array Bool) (w : World) : Prop where
  one : L.getD k1 false = false → w.cell? ⟨g1, o1, none⟩ = some x1
  two : L.getD k2 false = false → w.cell? ⟨g2, o2, none⟩ = some x2
theorem SO.set {g1 o1 g2 o2 : Nat} {x1 x2 : Value} {k1 k2 i : Nat} (h1 : i ≠ k1) (h2 : i ≠ k2) (L : Array Bool) (w : World) : SO g1 o1 g2 o2 x1 x2 k1 k2 (L.setIfInBounds i true) w ↔ SO g1 o1 g2 o2 x1 x2 k1 k2 L w :=
  ⟨fun h => ⟨fun q => h.one (by rw [getF_set L i k1 h1]; exact q), fun q => h.two (by rw [getF_set L i k2 h2]; exact q)⟩,
   fun h => ⟨fun q => h.one (by rw [getF_set L i k1 h1] at q; exact q), fun q => h.two (by rw [getF_set L i k2 h2] at q; exact q)⟩⟩
end Go.Proofs.YtiflieaemgamkaaGreatDoor

namespace Go.Proofs.YtiflieaemgamkaaGreatDoor
open Go.RowKit Vi

/-- where a row that a struct was appended to lies -/
theorem OwX.sl0 {α : Type} {f : α → List Value} {s : Nat} {T : TypeId} {w : World} {B : Nat} {A : Option Addr} {n c : Nat} {l : List α} (h : OwX f s T w B (.slice A n c) l) : ∀ b o, A = some ⟨b, o, none⟩ → (Value.slice A n c).ownBlock = some b := by
  intro b o e
  rcases h.2 with ⟨q, _⟩ | ⟨g, _, _, q, _⟩
  · injection q with q _ _
    rw [e] at q; cases q
  · subst e
    rfl
theorem kd_app {D : Nat} {sa : Option Addr} {sn sc : Nat} {ca : Option Addr} {cn cc : Nat} {mk dn : Bool} {ops fu : Int} {A : Option Addr} {n c : Nat} {mk' dn' : Bool} {ops' fu' : Int} {w v w7 w8 : World} (_ : D < w.heap.size)
    (h : w.heap[D]? = some (dkO sa sn sc ca cn cc mk dn ops fu)) (h8 : w8.heap[D]? = some (dkO sa sn sc A n c mk' dn' ops' fu')) (hb : Below w.heap.size w v) (hg : v.grownBy w7 (Value.slice ca cn cc).ownBlock) (hk : KK [D] w7 w8)
    (how : ∀ g, (Value.slice ca cn cc).ownBlock = some g → ∃ o, ca = some ⟨g, o, none⟩) (ha : (Value.slice A n c).ownBlock = (Value.slice ca cn cc).ownBlock ∨ (Value.slice A n c).ownBlock = some v.heap.size) (hs : ∀ b o, A = some ⟨b, o, none⟩ → (Value.slice A n c).ownBlock = some b) : Kd D w w8 := by
  have hv := hb.size
  refine ⟨hk.os.trans (hg.os.trans hb.os), hk.tape.trans (hg.tape.trans hb.tape), hk.output.trans (hg.output.trans hb.output), Nat.le_trans hv (Nat.le_trans hg.size hk.size), fun b hbl hn => ?_, fun b hbl q => ?_⟩
  · rw [hk.block b (Nat.lt_of_lt_of_le hbl (Nat.le_trans hv hg.size)) (fun e => hn (by obtain rfl : b = D := (by simpa using e); exact .inl rfl))]
    rw [hg.block b (Nat.lt_of_lt_of_le hbl hv) (fun e => by
      obtain ⟨o, q⟩ := how b (by first | exact e | exact e.symm)
      subst q
      exact hn (InD.cache h))]
    exact hb.block b hbl
  · rcases q.cases h8 with q | ⟨o, q⟩ | ⟨o, q⟩
    · subst q; exact .inl rfl
    · subst q; exact InD.safe h
    · have e := hs b o q
      rcases ha with ha | ha
      · rw [e] at ha
        obtain ⟨o2, q2⟩ := how b ha.symm
        subst q2
        exact InD.cache h
      · rw [e] at ha
        injection ha with ha
        omega
structure SW (X I Z D : Nat) (i : Int) (s : ByteArray) (u : Value) (L : Array Bool) (W : World) : Prop where
  x : W.cell? ⟨X, 0, none⟩ = some (.pointer (some ⟨D, 0, none⟩))
  n : W.cell? ⟨I, 0, none⟩ = some (.int .i64 i)
  z : W.cell? ⟨Z, 0, none⟩ = some (.string s)
  c : L.getD 14 false = false → W.cell? ⟨D, 1, none⟩ = some u
theorem SW.set {X I Z D : Nat} {i : Int} {s : ByteArray} {u : Value} {j : Nat} (h1 : j ≠ 14) (L : Array Bool) (w : World) : SW X I Z D i s u (L.setIfInBounds j true) w ↔ SW X I Z D i s u L w :=
  ⟨fun h => ⟨h.x, h.n, h.z, fun q => h.c (by rw [getF_set L j 14 h1]; exact q)⟩, fun h => ⟨h.x, h.n, h.z, fun q => h.c (by rw [getF_set L j 14 h1] at q; exact q)⟩⟩
theorem SW.cOf {md : Region.Mode} {ops : Array Oper} {X I Z D : Nat} {i : Int} {s : ByteArray} {u : Value} {j : Nat} {w : World} (h : SI md ops (SW X I Z D i s u) j w) (f : Nat) (hw : waits md ops f 14 j = true) : w.cell? ⟨D, 1, none⟩ = some u := by
  obtain ⟨L, hs, hi, hS⟩ := h
  exact hS.c (shut_of hs hi f 14 hw)
theorem SW.all {md : Region.Mode} {ops : Array Oper} {X I Z D : Nat} {i : Int} {s : ByteArray} {u : Value} {j : Nat} {w : World} (h : SI md ops (SW X I Z D i s u) j w) : w.cell? ⟨X, 0, none⟩ = some (.pointer (some ⟨D, 0, none⟩)) ∧ w.cell? ⟨I, 0, none⟩ = some (.int .i64 i) ∧ w.cell? ⟨Z, 0, none⟩ = some (.string s) := by
  obtain ⟨L, _, _, hS⟩ := h
  exact ⟨hS.x, hS.n, hS.z⟩
set_option maxRecDepth 100000 in
set_option maxHeartbeats 4000000 in
theorem dwrite1 (X I Z D : Nat) (SS : List ByteArray) (CC : List Wr) (dn : Bool) (ops fu : Int) (i : Int) (s : ByteArray) (w : World) (h : DK D SS CC dn ops fu w) (hx : w.heap[X]? = some (.cells #[.pointer (some ⟨D, 0, none⟩)] 25 (0, 0))) (hi : w.heap[I]? = some (.cells #[.int .i64 i] 3 (0, 0))) (hz : w.heap[Z]? = some (.cells #[.string s] 9 (0, 0)))
    (hok : 0 ≤ i ∧ i < (SS.length : Int) ∧ s.size = 128) (hl : CC.length + 1 ≤ 1000000) :
    Calls Tryz.prog 163 #[.pointer (some ⟨X, 0, none⟩), .pointer (some ⟨I, 0, none⟩), .pointer (some ⟨Z, 0, none⟩)] w fun e w' => e = .returned (.tuple #[]) ∧ DK D SS (CC ++ [(i, s)]) dn ops fu w' ∧ Kd D w w' := by
  obtain ⟨⟨sa, sn, sc, ca, cn, cc, h1, h2, h3⟩, h4⟩ := h
  have H1 := Lib.hid h1
  have H2 := Lib.hid h2
  have H3 := Lib.hid h3
  have H4 := Lib.hid h4
  have HX := Lib.hid hx
  have HI := Lib.hid hi
  have HZ := Lib.hid hz
  have HOK := Lib.hid hok
  have HX1 := Lib.hid (blk_alloc (show w.drew.heap[X]? = _ from hx) (.cells #[.int .i64 i, .string s] 102 (0, 0)))
  have HI1 := Lib.hid (blk_alloc (show w.drew.heap[I]? = _ from hi) (.cells #[.int .i64 i, .string s] 102 (0, 0)))
  have HZ1 := Lib.hid (blk_alloc (show w.drew.heap[Z]? = _ from hz) (.cells #[.int .i64 i, .string s] 102 (0, 0)))
  have HD1 := Lib.hid (blk_alloc (show w.drew.heap[D]? = _ from h1) (.cells #[.int .i64 i, .string s] 102 (0, 0)))
  have HS1 := Lib.hid (h2.drew.alloc (.cells #[.int .i64 i, .string s] 102 (0, 0)))
  have HC1 := Lib.hid (h3.drew.alloc (.cells #[.int .i64 i, .string s] 102 (0, 0)))
  have HBn := Lib.hid (((Below.refl w.heap.size w).drew).alloc (Nat.le_refl _) (.cells #[.int .i64 i, .string s] 102 (0, 0)))
  have hDl := lt_of_block h1
  have HOW := Lib.hid (fun (g : Nat) (e : (Value.slice ca cn cc).ownBlock = some g) => show ∃ o, ca = some ⟨g, o, none⟩ from by
    rcases h3.2 with ⟨q, _⟩ | ⟨g', _, _, q, _⟩
    · rw [q] at e; simp [Value.ownBlock] at e
    · injection q with q1 _ _
      subst q1
      simp [Value.ownBlock] at e
      subst e
      exact ⟨0, rfl⟩)
  clear h1 h2 h3 h4 hx hi hz hok
  go_enter Tryz.func163, Tryz.ntmps163
  go_upto_region 0 with (fail)
  refine wp_region_L_drew (S := SW X I Z D i s (.slice ca cn cc)) (by kernel_rfl) ⟨(cell_of_row _ _ 0 _ _ _ HX.out).trans rfl, (cell_of_row _ _ 0 _ _ _ HI.out).trans rfl, (cell_of_row _ _ 0 _ _ _ HZ.out).trans rfl, fun _ => (dk_cells H1.out).2.1⟩ (fun hS hC => ?_)
  refine wpAnyL_take (i := 0) (oi := { dst := some 3, op := .load 25 (.tmp 0), type := _, pos := _, after := _, guard := none }) (v := ?_) rfl (by kernel_rfl) (by kernel_rfl) (by kernel_rfl) (fun _ _ _ h => h) (SW.set (by decide)) hC (Or.inl ⟨by rfl, ?_⟩) hS (fun hC hS => ?_)
  rotate_left
  · intro W9 hSw; have q0 := (SW.all hSw).1; go_simp; try (with_reducible rfl)
  try simp only [Act.put, List.setIfInBounds_toArray, List.set_cons_zero, List.set_cons_succ]
  refine wpAnyL_take (i := 1) (oi := { dst := some 4, op := .load 25 (.tmp 0), type := _, pos := _, after := _, guard := none }) (v := ?_) rfl (by kernel_rfl) (by kernel_rfl) (by kernel_rfl) (fun _ _ _ h => h) (SW.set (by decide)) hC (Or.inl ⟨by rfl, ?_⟩) hS (fun hC hS => ?_)
  rotate_left
  · intro W9 hSw; have q0 := (SW.all hSw).1; go_simp; try (with_reducible rfl)
  try simp only [Act.put, List.setIfInBounds_toArray, List.set_cons_zero, List.set_cons_succ]
  refine wpAnyL_take (i := 2) (oi := { dst := some 5, op := .nilCheck (.tmp 4), type := _, pos := _, after := _, guard := none }) (v := ?_) rfl (by kernel_rfl) (by kernel_rfl) (by kernel_rfl) (fun _ _ _ h => h) (SW.set (by decide)) hC (Or.inl ⟨by rfl, ?_⟩) hS (fun hC hS => ?_)
  rotate_left
  · intro W9 hSw; skip; go_simp; try (with_reducible rfl)
  try simp only [Act.put, List.setIfInBounds_toArray, List.set_cons_zero, List.set_cons_succ]
  refine wpAnyL_take (i := 3) (oi := { dst := some 6, op := .fieldAddr 89 (.tmp 5) 0, type := _, pos := _, after := _, guard := none }) (v := ?_) rfl (by kernel_rfl) (by kernel_rfl) (by kernel_rfl) (fun _ _ _ h => h) (SW.set (by decide)) hC (Or.inl ⟨by rfl, ?_⟩) hS (fun hC hS => ?_)
  rotate_left
  · intro W9 hSw; skip; go_simp; try (with_reducible rfl)
  try simp only [Act.put, List.setIfInBounds_toArray, List.set_cons_zero, List.set_cons_succ]
  refine wpAnyL_take (i := 4) (oi := { dst := some 7, op := .fieldAddr 86 (.tmp 6) 1, type := _, pos := _, after := _, guard := none }) (v := ?_) rfl (by kernel_rfl) (by kernel_rfl) (by kernel_rfl) (fun _ _ _ h => h) (SW.set (by decide)) hC (Or.inl ⟨by rfl, ?_⟩) hS (fun hC hS => ?_)
  rotate_left
  · intro W9 hSw; skip; go_simp; try (with_reducible rfl)
  try simp only [Act.put, List.setIfInBounds_toArray, List.set_cons_zero, List.set_cons_succ]
  refine wpAnyL_take (i := 5) (oi := { dst := some 8, op := .load 31 (.tmp 7), type := _, pos := _, after := _, guard := none }) (v := ?_) rfl (by kernel_rfl) (by kernel_rfl) (by kernel_rfl) (fun _ _ _ h => h) (SW.set (by decide)) hC (Or.inl ⟨by rfl, ?_⟩) hS (fun hC hS => ?_)
  rotate_left
  · intro W9 hSw; have q0 := SW.cOf hSw 15 (by kernel_rfl); go_simp; try (with_reducible rfl)
  try simp only [Act.put, List.setIfInBounds_toArray, List.set_cons_zero, List.set_cons_succ]
  refine wpAnyL_take (i := 6) (oi := { dst := some 9, op := .load 3 (.tmp 1), type := _, pos := _, after := _, guard := none }) (v := ?_) rfl (by kernel_rfl) (by kernel_rfl) (by kernel_rfl) (fun _ _ _ h => h) (SW.set (by decide)) hC (Or.inl ⟨by rfl, ?_⟩) hS (fun hC hS => ?_)
  rotate_left
  · intro W9 hSw; have q0 := (SW.all hSw).2.1; go_simp; try (with_reducible rfl)
  try simp only [Act.put, List.setIfInBounds_toArray, List.set_cons_zero, List.set_cons_succ]
  refine wpAnyL_take (i := 7) (oi := { dst := some 10, op := .load 9 (.tmp 2), type := _, pos := _, after := _, guard := none }) (v := ?_) rfl (by kernel_rfl) (by kernel_rfl) (by kernel_rfl) (fun _ _ _ h => h) (SW.set (by decide)) hC (Or.inl ⟨by rfl, ?_⟩) hS (fun hC hS => ?_)
  rotate_left
  · intro W9 hSw; have q0 := (SW.all hSw).2.2; go_simp; try (with_reducible rfl)
  try simp only [Act.put, List.setIfInBounds_toArray, List.set_cons_zero, List.set_cons_succ]
  refine wpAnyL_take (i := 8) (oi := { dst := some 11, op := .build 102 #[(0, .tmp 9), (1, .tmp 10)], type := _, pos := _, after := _, guard := none }) (v := ?_) rfl (by kernel_rfl) (by kernel_rfl) (by kernel_rfl) (fun _ _ _ h => h) (SW.set (by decide)) hC (Or.inl ⟨by rfl, ?_⟩) hS (fun hC hS => ?_)
  rotate_left
  · intro W9 hSw; skip; go_simp; try (with_reducible rfl)
  try simp only [Act.put, List.setIfInBounds_toArray, List.set_cons_zero, List.set_cons_succ]
  refine wpAnyL_ready (rs := [9]) (by kernel_rfl) (by simp) hC ?_
  refine AllReadyL.cons (o := { dst := some 12, op := .buildSlice 31 1 #[(0, .tmp 11)], type := _, pos := _, after := _, guard := none }) rfl (fun K9 hK => ?_) ?_
  · skip
    go_simp
    refine hK _ _ ⟨(cell_of_row _ _ 0 _ _ _ HX1.out).trans rfl, (cell_of_row _ _ 0 _ _ _ HI1.out).trans rfl, (cell_of_row _ _ 0 _ _ _ HZ1.out).trans rfl, fun _ => (dk_cells HD1.out).2.1⟩ (fun hC => ?_)
    clear hK K9
    try simp only [Act.put, List.setIfInBounds_toArray, List.set_cons_zero, List.set_cons_succ]
    refine wpAnyL_ready (rs := [10]) (by kernel_rfl) (by simp) hC ?_
    refine AllReadyL.cons (o := { dst := some 13, op := .call { callee := .builtin .append, args := #[.tmp 8, .tmp 12], argTypes := #[31, 31] }, type := _, pos := _, after := _, guard := none }) rfl (fun K9 hK => ?_) ?_
    · skip
      refine step_appPo rfl (.tmp 8) (.tmp 12) 31 102 _ 24 rfl Tryz.underlying31 info_wrB rfl (by omega) (by omega) wrC_len wrC_one 0 w (HBn.out.mono (Nat.zero_le _)) (Nat.zero_le _) (.slice ca cn cc) CC rfl HC1.out w.heap.size 1 (i, s) #[.int .i64 i, .string s] 102 (0, 0) rfl (heap_alloc_new w.drew _) rfl hl ?_
      intro v7 w7 HO7 HB7 HG7 HA7
      have HX7 := Lib.hid (HC1.out.box HG7.out HX1.out (Or.inl (by decide)))
      have HI7 := Lib.hid (HC1.out.box HG7.out HI1.out (Or.inl (by decide)))
      have HZ7 := Lib.hid (HC1.out.box HG7.out HZ1.out (Or.inl (by decide)))
      have HD7 := Lib.hid (HC1.out.box HG7.out HD1.out (Or.inl (by decide)))
      have HS7 := Lib.hid (HS1.out.other HC1.out (by decide) HG7.out)
      have z7 : w7.frozen? ⟨D, 1, none⟩ = false := frozen_of_row _ _ _ _ _ HD7.out
      have q7 : w7.cell? ⟨D, 1, none⟩ = some (.slice ca cn cc) := (dk_cells HD7.out).2.1
      obtain ⟨A7, n7, c7, rfl⟩ := HO7.out.sl3
      refine hK _ _ ⟨(cell_of_row _ _ 0 _ _ _ HX7.out).trans rfl, (cell_of_row _ _ 0 _ _ _ HI7.out).trans rfl, (cell_of_row _ _ 0 _ _ _ HZ7.out).trans rfl, fun _ => q7⟩ (fun hC => ?_)
      clear hK K9
      try simp only [Act.put, List.setIfInBounds_toArray, List.set_cons_zero, List.set_cons_succ]
      refine wpAnyL_take (i := 11) (oi := { dst := some 14, op := .nilCheck (.tmp 3), type := _, pos := _, after := _, guard := none }) (v := ?_) rfl (by kernel_rfl) (by kernel_rfl) (by kernel_rfl) (fun _ _ _ h => h) (SW.set (by decide)) hC (Or.inl ⟨by rfl, ?_⟩) ⟨(cell_of_row _ _ 0 _ _ _ HX7.out).trans rfl, (cell_of_row _ _ 0 _ _ _ HI7.out).trans rfl, (cell_of_row _ _ 0 _ _ _ HZ7.out).trans rfl, fun _ => q7⟩ (fun hC hS => ?_)
      rotate_left
      · intro W9 hSw; skip; go_simp; try (with_reducible rfl)
      try simp only [Act.put, List.setIfInBounds_toArray, List.set_cons_zero, List.set_cons_succ]
      refine wpAnyL_take (i := 12) (oi := { dst := some 15, op := .fieldAddr 89 (.tmp 14) 0, type := _, pos := _, after := _, guard := none }) (v := ?_) rfl (by kernel_rfl) (by kernel_rfl) (by kernel_rfl) (fun _ _ _ h => h) (SW.set (by decide)) hC (Or.inl ⟨by rfl, ?_⟩) ⟨(cell_of_row _ _ 0 _ _ _ HX7.out).trans rfl, (cell_of_row _ _ 0 _ _ _ HI7.out).trans rfl, (cell_of_row _ _ 0 _ _ _ HZ7.out).trans rfl, fun _ => q7⟩ (fun hC hS => ?_)
      rotate_left
      · intro W9 hSw; skip; go_simp; try (with_reducible rfl)
      try simp only [Act.put, List.setIfInBounds_toArray, List.set_cons_zero, List.set_cons_succ]
      refine wpAnyL_take (i := 13) (oi := { dst := some 16, op := .fieldAddr 86 (.tmp 15) 1, type := _, pos := _, after := _, guard := none }) (v := ?_) rfl (by kernel_rfl) (by kernel_rfl) (by kernel_rfl) (fun _ _ _ h => h) (SW.set (by decide)) hC (Or.inl ⟨by rfl, ?_⟩) ⟨(cell_of_row _ _ 0 _ _ _ HX7.out).trans rfl, (cell_of_row _ _ 0 _ _ _ HI7.out).trans rfl, (cell_of_row _ _ 0 _ _ _ HZ7.out).trans rfl, fun _ => q7⟩ (fun hC hS => ?_)
      rotate_left
      · intro W9 hSw; skip; go_simp; try (with_reducible rfl)
      try simp only [Act.put, List.setIfInBounds_toArray, List.set_cons_zero, List.set_cons_succ]
      refine wpAnyL_ready (rs := [14]) (by kernel_rfl) (by simp) hC ?_
      refine AllReadyL.cons (o := { dst := none, op := .store 31 (.tmp 16) (.tmp 13), type := _, pos := _, after := _, guard := none }) rfl (fun K9 hK => ?_) ?_
      · skip
        go_simp
        have HK := Lib.hid ((KK.refl [D] w7).set (b := D) (by simp) 1 (.slice A7 n7 c7))
        have HD8 := Lib.hid (show (w7.setCell ⟨D, 1, none⟩ (.slice A7 n7 c7)).heap[D]? = some (dkO sa sn sc A7 n7 c7 true dn ops fu) from heap_setCell_at (i := 1) (u := .slice A7 n7 c7) HD7.out)
        have hne : ∀ {b : Nat} {cs : Array Value} {T : TypeId}, w7.heap[b]? = some (.cells cs T (0, 0)) → T ≠ 89 → b ∉ [D] := fun hb hT e => by
          obtain rfl := (by simpa using e : _ = D)
          rw [HD7.out] at hb
          cases hb
          exact hT rfl
        have HX8 := Lib.hid (HK.out.blk HX7.out (hne HX7.out (by decide)))
        have HI8 := Lib.hid (HK.out.blk HI7.out (hne HI7.out (by decide)))
        have HZ8 := Lib.hid (HK.out.blk HZ7.out (hne HZ7.out (by decide)))
        have HS8 := Lib.hid (HS7.out.kkD HK.out HD7.out (by decide))
        have HC8 := Lib.hid (HO7.out.kkD HK.out HD7.out (by decide))
        refine hK _ _ ⟨(cell_of_row _ _ 0 _ _ _ HX8.out).trans rfl, (cell_of_row _ _ 0 _ _ _ HI8.out).trans rfl, (cell_of_row _ _ 0 _ _ _ HZ8.out).trans rfl, fun q => absurd q (by decide)⟩ (fun hC => ?_)
        clear hK K9
        try simp only [Act.put, List.setIfInBounds_toArray, List.set_cons_zero, List.set_cons_succ]
        refine wpAnyL_done (by kernel_rfl) ?_ _
        have HKd := Lib.hid (kd_app hDl H1.out HD8.out HBn.out HG7.out HK.out HOW.out HA7.out (HO7.out.sl0))
        refine bodyPost_end (results_none rfl _ _ _) rfl ?_
        exact ⟨rfl, ⟨⟨sa, sn, sc, A7, n7, c7, HD8.out, HS8.out, HC8.out⟩, fun x hx => by
          rcases List.mem_append.1 hx with hx | hx
          · exact H4.out x hx
          · obtain rfl : x = (i, s) := (by simpa using hx)
            exact HOK.out⟩, HKd.out⟩
      exact AllReadyL.nil
    exact AllReadyL.nil
  exact AllReadyL.nil
end Go.Proofs.YtiflieaemgamkaaGreatDoor

namespace Go.Proofs.YtiflieaemgamkaaGreatDoor
open Go.RowKit Vi

def wrtC (fu : Int) (CC : List Wr) (i : Int) (s : ByteArray) : List Wr := if fu = 1 then CC else CC ++ [(i, s)]
theorem dck_ok {n : Nat} {i : Int} {s : ByteArray} (h : dckE n i s = 0) : 0 ≤ i ∧ i < (n : Int) ∧ s.size = 128 := by
  unfold dckE at h
  split at h
  · next q =>
    split at h
    · next q2 => exact ⟨q.1, q.2, q2⟩
    · cases h
  · cases h
set_option maxRecDepth 100000 in
set_option maxHeartbeats 2000000 in
theorem dstep_write (X I Z D : Nat) (SS : List ByteArray) (CC : List Wr) (ops fu : Int) (i : Int) (s : ByteArray) (w : World) (h : DK D SS CC false ops fu w) (hx : w.heap[X]? = some (.cells #[.pointer (some ⟨D, 0, none⟩)] 25 (0, 0))) (hi : w.heap[I]? = some (.cells #[.int .i64 i] 3 (0, 0))) (hz : w.heap[Z]? = some (.cells #[.string s] 9 (0, 0))) (hok : 0 ≤ i ∧ i < (SS.length : Int) ∧ s.size = 128) (hl : CC.length + 1 ≤ 1000000) (ho : -1000000000 ≤ ops ∧ ops ≤ 1000000000) (hf : 0 ≤ fu ∧ fu ≤ 9223372036854775807) :
    Calls Tryz.prog 110 #[.pointer (some ⟨D, 0, none⟩), .func (.func 163) #[] #[.pointer (some ⟨X, 0, none⟩), .pointer (some ⟨I, 0, none⟩), .pointer (some ⟨Z, 0, none⟩)]] w fun e w' => e = .returned (.int .i64 (stpE fu)) ∧ DK D SS (wrtC fu CC i s) (stpD fu) (stpO ops fu) (stpF fu) w' ∧ Kd D w w' := by
  obtain ⟨⟨sa, sn, sc, ca, cn, cc, h1, h2, h3⟩, h4⟩ := h
  have hne : X ≠ D := fun e => by subst e; rw [h1] at hx; cases hx
  have hni : I ≠ D := fun e => by subst e; rw [h1] at hi; cases hi
  have hnz : Z ≠ D := fun e => by subst e; rw [h1] at hz; cases hz
  have HOK := Lib.hid hok
  have H1 := Lib.hid h1
  have H2 := Lib.hid h2
  have H3 := Lib.hid h3
  have H4 := Lib.hid h4
  obtain ⟨c0, c1, c2, c3, c4, c5⟩ := dk_cells h1
  by_cases hq : fu = 1
  · subst hq
    have HT := Lib.hid (dturn_any D sa sn sc ca cn cc true false ops 1 true w h1)
    clear h1 h2 h3 h4 hx hi hz hok
    go_enter Tryz.func110, Tryz.ntmps110
    go_wp2_with fail
    clear c0 c1 c2 c3 c4 c5
    refine HT.out.mono ?_
    rintro e w1 ⟨rfl, hb, hk⟩
    have HB := Lib.hid hb
    have HK := Lib.hid hk
    clear hb hk
    have HO2 := Lib.hid (H2.out.kkD HK.out H1.out (by decide))
    have HO3 := Lib.hid (H3.out.kkD HK.out H1.out (by decide))
    have HBl := Lib.hid (Kd.of_same HK.out H1.out HB.out)
    go_wp2_with fail
    go_ret
    exact ⟨rfl, ⟨⟨sa, sn, sc, ca, cn, cc, HB.out, HO2.out, HO3.out⟩, H4.out⟩, HBl.out⟩
  · have d1 : (fu == 1) = false := by rw [beq_eq_false_iff_ne]; exact hq
    have w1 : IntKind.i64.wrap (fu - 1) = fu - 1 := IntWalk.i64_in _ (by omega)
    have w2 : IntKind.i64.wrap (ops + 1) = ops + 1 := IntWalk.i64_in _ (by omega)
    have f4 : w.frozen? ⟨D, 4, none⟩ = false := frozen_of_row _ _ _ _ _ h1
    have f5 : w.frozen? ⟨D, 5, none⟩ = false := frozen_of_row _ _ _ _ _ h1
    have HQ := Lib.hid hq
    have HX := Lib.hid hx
    have HI := Lib.hid hi
    have HZ := Lib.hid hz
    clear h1 h2 h3 h4 hx hi hz hok hq
    go_enter Tryz.func110, Tryz.ntmps110
    go_wp2_with fail
    have HK := Lib.hid (((KK.refl [D] w).set (b := D) (by simp) 5 (.int .i64 (max (fu - 1) 0))).set (b := D) (by simp) 4 (.int .i64 (ops + 1)))
    have HB := Lib.hid (show ((w.setCell ⟨D, 5, none⟩ (.int .i64 (max (fu - 1) 0))).setCell ⟨D, 4, none⟩ (.int .i64 (ops + 1))).heap[D]? = some (dkO sa sn sc ca cn cc true false (ops + 1) (max (fu - 1) 0)) by have q := heap_setCell_at (i := 4) (u := .int .i64 (ops + 1)) (heap_setCell_at (i := 5) (u := .int .i64 (max (fu - 1) 0)) H1.out); exact q)
    have HX2 := Lib.hid (HK.out.blk HX.out (by simpa using hne))
    have HI2 := Lib.hid (HK.out.blk HI.out (by simpa using hni))
    have HZ2 := Lib.hid (HK.out.blk HZ.out (by simpa using hnz))
    have HO2 := Lib.hid (H2.out.kkD HK.out H1.out (by decide))
    have HO3 := Lib.hid (H3.out.kkD HK.out H1.out (by decide))
    have HBl := Lib.hid (Kd.of_same HK.out H1.out HB.out)
    clear c0 c1 c2 c3 c4 c5 f4 f5 w1 w2 d1
    generalize ((w.setCell ⟨D, 5, none⟩ (.int .i64 (max (fu - 1) 0))).setCell ⟨D, 4, none⟩ (.int .i64 (ops + 1))) = v at *
    have HF := Lib.hid (dwrite1 X I Z D SS CC false (ops + 1) (max (fu - 1) 0) i s v ⟨⟨sa, sn, sc, ca, cn, cc, HB.out, HO2.out, HO3.out⟩, H4.out⟩ HX2.out HI2.out HZ2.out HOK.out hl)
    refine HF.out.mono ?_
    rintro e w1 ⟨rfl, hd, hb⟩
    have HD := Lib.hid hd
    have HB2 := Lib.hid (HBl.out.trans hb)
    clear hd hb
    go_wp2_with fail
    go_ret
    exact ⟨dk_retI (by unfold stpE; rw [if_neg HQ.out]), by unfold wrtC stpD stpO stpF; rw [if_neg HQ.out, if_neg HQ.out, if_neg HQ.out, decide_eq_false HQ.out]; exact HD.out, HB2.out⟩
set_option maxRecDepth 100000 in
set_option maxHeartbeats 2000000 in
theorem dwrite_down (D : Nat) (SS : List ByteArray) (CC : List Wr) (ops fu : Int) (i : Int) (s : ByteArray) (w : World) (h : DK D SS CC true ops fu w) :
    Calls Tryz.prog 109 #[.pointer (some ⟨D, 0, none⟩), .int .i64 i, .string s] w fun e w' => e = .returned (.int .i64 7) ∧ DK D SS CC true ops fu w' ∧ Kd D w w' := by
  have HL := Lib.hid h.lt
  have HBn := Lib.hid ((((Below.refl w.heap.size w).alloc (Nat.le_refl _) (.cells #[.pointer (some ⟨D, 0, none⟩)] 25 (0, 0))).alloc (by simp) (.cells #[.int .i64 i] 3 (0, 0))).alloc (by simp; omega) (.cells #[.string s] 9 (0, 0)))
  have HD := Lib.hid (h.kept HBn.out)
  have HX := Lib.hid (blk_alloc (blk_alloc (blk_new w (.cells #[.pointer (some ⟨D, 0, none⟩)] 25 (0, 0))) (.cells #[.int .i64 i] 3 (0, 0))) (.cells #[.string s] 9 (0, 0)))
  have HI : Hid ((((w.alloc (.cells #[.pointer (some ⟨D, 0, none⟩)] 25 (0, 0))).alloc (.cells #[.int .i64 i] 3 (0, 0))).alloc (.cells #[.string s] 9 (0, 0))).heap[w.heap.size + 1]? = some (.cells #[.int .i64 i] 3 (0, 0))) := Lib.hid (blk_alloc (two_blk w (.cells #[.pointer (some ⟨D, 0, none⟩)] 25 (0, 0)) (.cells #[.int .i64 i] 3 (0, 0))) (.cells #[.string s] 9 (0, 0)))
  have HZ : Hid ((((w.alloc (.cells #[.pointer (some ⟨D, 0, none⟩)] 25 (0, 0))).alloc (.cells #[.int .i64 i] 3 (0, 0))).alloc (.cells #[.string s] 9 (0, 0))).heap[w.heap.size + 2]? = some (.cells #[.string s] 9 (0, 0))) := Lib.hid (three_blk w (.cells #[.pointer (some ⟨D, 0, none⟩)] 25 (0, 0)) (.cells #[.int .i64 i] 3 (0, 0)) (.cells #[.string s] 9 (0, 0)))
  obtain ⟨v, hv⟩ : ∃ v, v = (((w.alloc (.cells #[.pointer (some ⟨D, 0, none⟩)] 25 (0, 0))).alloc (.cells #[.int .i64 i] 3 (0, 0))).alloc (.cells #[.string s] 9 (0, 0))) := ⟨_, rfl⟩
  have HV := Lib.hid hv
  rw [← hv] at HBn HD HX HI HZ
  have HR := Lib.hid HD.out.readyIs
  clear h hv
  go_enter Tryz.func109, Tryz.ntmps109
  go_upto_region 1 with (fail)
  rw [← HV.out]
  have x0 : v.cell? ⟨w.heap.size, 0, none⟩ = some (.pointer (some ⟨D, 0, none⟩)) := (cell_of_row _ _ 0 _ _ _ HX.out).trans rfl
  go_wp2_with fail
  refine HR.out.mono ?_
  rintro e w' ⟨rfl, rfl⟩
  clear x0
  go_wp2_with fail
  go_ret
  exact ⟨rfl, HD.out, Kd.of_below HBn.out HL.out⟩
set_option maxRecDepth 100000 in
set_option maxHeartbeats 2000000 in
theorem dwrite_no (D : Nat) (SS : List ByteArray) (CC : List Wr) (ops fu : Int) (i : Int) (s : ByteArray) (w : World) (h : DK D SS CC false ops fu w) (hne : dckE SS.length i s ≠ 0) :
    Calls Tryz.prog 109 #[.pointer (some ⟨D, 0, none⟩), .int .i64 i, .string s] w fun e w' => e = .returned (.int .i64 (dckE SS.length i s)) ∧ DK D SS CC false ops fu w' ∧ Kd D w w' := by
  have HL := Lib.hid h.lt
  have HBn := Lib.hid ((((Below.refl w.heap.size w).alloc (Nat.le_refl _) (.cells #[.pointer (some ⟨D, 0, none⟩)] 25 (0, 0))).alloc (by simp) (.cells #[.int .i64 i] 3 (0, 0))).alloc (by simp; omega) (.cells #[.string s] 9 (0, 0)))
  have HD := Lib.hid (h.kept HBn.out)
  have HX := Lib.hid (blk_alloc (blk_alloc (blk_new w (.cells #[.pointer (some ⟨D, 0, none⟩)] 25 (0, 0))) (.cells #[.int .i64 i] 3 (0, 0))) (.cells #[.string s] 9 (0, 0)))
  have HI : Hid ((((w.alloc (.cells #[.pointer (some ⟨D, 0, none⟩)] 25 (0, 0))).alloc (.cells #[.int .i64 i] 3 (0, 0))).alloc (.cells #[.string s] 9 (0, 0))).heap[w.heap.size + 1]? = some (.cells #[.int .i64 i] 3 (0, 0))) := Lib.hid (blk_alloc (two_blk w (.cells #[.pointer (some ⟨D, 0, none⟩)] 25 (0, 0)) (.cells #[.int .i64 i] 3 (0, 0))) (.cells #[.string s] 9 (0, 0)))
  have HZ : Hid ((((w.alloc (.cells #[.pointer (some ⟨D, 0, none⟩)] 25 (0, 0))).alloc (.cells #[.int .i64 i] 3 (0, 0))).alloc (.cells #[.string s] 9 (0, 0))).heap[w.heap.size + 2]? = some (.cells #[.string s] 9 (0, 0))) := Lib.hid (three_blk w (.cells #[.pointer (some ⟨D, 0, none⟩)] 25 (0, 0)) (.cells #[.int .i64 i] 3 (0, 0)) (.cells #[.string s] 9 (0, 0)))
  obtain ⟨v, hv⟩ : ∃ v, v = (((w.alloc (.cells #[.pointer (some ⟨D, 0, none⟩)] 25 (0, 0))).alloc (.cells #[.int .i64 i] 3 (0, 0))).alloc (.cells #[.string s] 9 (0, 0))) := ⟨_, rfl⟩
  have HV := Lib.hid hv
  rw [← hv] at HBn HD HX HI HZ
  have HR := Lib.hid HD.out.readyIs
  obtain ⟨z, hz⟩ : ∃ z, z = dckE SS.length i s := ⟨_, rfl⟩
  rw [← hz] at hne
  have hzn : (z != 0) = true := by simpa using hne
  have HE := Lib.hid hz
  clear hne hz
  have HC := Lib.hid (fun (W : World) (q : DK D SS CC false ops fu W) => (by rw [HE.out]; exact q.checkIs i s : Calls Tryz.prog 56 #[.pointer (some ⟨D, 0, none⟩), .int .i64 i, .string s] W fun e w' => e = .returned (.int .i64 z) ∧ W = w'))
  clear h hv
  go_enter Tryz.func109, Tryz.ntmps109
  go_upto_region 1 with (fail)
  rw [← HV.out]
  have x0 : v.cell? ⟨w.heap.size, 0, none⟩ = some (.pointer (some ⟨D, 0, none⟩)) := (cell_of_row _ _ 0 _ _ _ HX.out).trans rfl
  go_wp2_with fail
  refine HR.out.mono ?_
  rintro e w' ⟨rfl, rfl⟩
  go_upto_region 4 with (fail)
  clear x0
  have HDI := Lib.hid (show DK D SS CC false ops fu v from HD.out)
  have y0 : v.cell? ⟨w.heap.size, 0, none⟩ = some (.pointer (some ⟨D, 0, none⟩)) := (cell_of_row _ _ 0 _ _ _ HX.out).trans rfl
  have y1 : v.cell? ⟨w.heap.size + 1, 0, none⟩ = some (.int .i64 i) := (cell_of_row _ _ 0 _ _ _ HI.out).trans rfl
  have y2 : v.cell? ⟨w.heap.size + 2, 0, none⟩ = some (.string s) := (cell_of_row _ _ 0 _ _ _ HZ.out).trans rfl
  have r0 := fun d os => cell_regrown y0 d os
  have r1 := fun d os => cell_regrown y1 d os
  have r2 := fun d os => cell_regrown y2 d os
  clear y0 y1 y2
  refine wp_region_quiet_below (by kernel_rfl) (by kernel_rfl) ?_
  repeat (any_goals (first | go_big_quiet_step (((go_at_call 56; with_reducible exact Calls.regrown_of (of_same (HC.out _ (HDI.out.kept (below_regrown _ _ _))))))) | quiet_step (((go_at_call 56; with_reducible exact Calls.regrown_of (of_same (HC.out _ (HDI.out.kept (below_regrown _ _ _)))))))))
  refine wpQuiet_nil ?_
  intro v1 hv1
  have hb1 := below_anyY hv1
  clear hv1 r0 r1 r2
  have HB1 := Lib.hid (HBn.out.trans (hb1.mono HBn.out.size))
  have HD1 := Lib.hid (HD.out.kept hb1)
  have HX1 := Lib.hid (blk_below HX.out hb1)
  have HI1 := Lib.hid (blk_below HI.out hb1)
  have HZ1 := Lib.hid (blk_below HZ.out hb1)
  clear hb1
  go_wp2_with fail
  go_ret
  exact ⟨dk_retI HE.out, HD1.out, Kd.of_below HB1.out HL.out⟩
set_option maxRecDepth 100000 in
set_option maxHeartbeats 2000000 in
theorem dwrite_up (D : Nat) (SS : List ByteArray) (CC : List Wr) (ops fu : Int) (i : Int) (s : ByteArray) (w : World) (h : DK D SS CC false ops fu w) (hz0 : dckE SS.length i s = 0) (ho : -1000000000 ≤ ops ∧ ops ≤ 1000000000) (hf : 0 ≤ fu ∧ fu ≤ 9223372036854775807) (hl : CC.length + 1 ≤ 1000000) :
    Calls Tryz.prog 109 #[.pointer (some ⟨D, 0, none⟩), .int .i64 i, .string s] w fun e w' => e = .returned (.int .i64 (stpE fu)) ∧ DK D SS (wrtC fu CC i s) (stpD fu) (stpO ops fu) (stpF fu) w' ∧ Kd D w w' := by
  have HL := Lib.hid h.lt
  have HBn := Lib.hid ((((Below.refl w.heap.size w).alloc (Nat.le_refl _) (.cells #[.pointer (some ⟨D, 0, none⟩)] 25 (0, 0))).alloc (by simp) (.cells #[.int .i64 i] 3 (0, 0))).alloc (by simp; omega) (.cells #[.string s] 9 (0, 0)))
  have HD := Lib.hid (h.kept HBn.out)
  have HX := Lib.hid (blk_alloc (blk_alloc (blk_new w (.cells #[.pointer (some ⟨D, 0, none⟩)] 25 (0, 0))) (.cells #[.int .i64 i] 3 (0, 0))) (.cells #[.string s] 9 (0, 0)))
  have HI : Hid ((((w.alloc (.cells #[.pointer (some ⟨D, 0, none⟩)] 25 (0, 0))).alloc (.cells #[.int .i64 i] 3 (0, 0))).alloc (.cells #[.string s] 9 (0, 0))).heap[w.heap.size + 1]? = some (.cells #[.int .i64 i] 3 (0, 0))) := Lib.hid (blk_alloc (two_blk w (.cells #[.pointer (some ⟨D, 0, none⟩)] 25 (0, 0)) (.cells #[.int .i64 i] 3 (0, 0))) (.cells #[.string s] 9 (0, 0)))
  have HZ : Hid ((((w.alloc (.cells #[.pointer (some ⟨D, 0, none⟩)] 25 (0, 0))).alloc (.cells #[.int .i64 i] 3 (0, 0))).alloc (.cells #[.string s] 9 (0, 0))).heap[w.heap.size + 2]? = some (.cells #[.string s] 9 (0, 0))) := Lib.hid (three_blk w (.cells #[.pointer (some ⟨D, 0, none⟩)] 25 (0, 0)) (.cells #[.int .i64 i] 3 (0, 0)) (.cells #[.string s] 9 (0, 0)))
  obtain ⟨v, hv⟩ : ∃ v, v = (((w.alloc (.cells #[.pointer (some ⟨D, 0, none⟩)] 25 (0, 0))).alloc (.cells #[.int .i64 i] 3 (0, 0))).alloc (.cells #[.string s] 9 (0, 0))) := ⟨_, rfl⟩
  have HV := Lib.hid hv
  rw [← hv] at HBn HD HX HI HZ
  have HR := Lib.hid HD.out.readyIs
  have HE := Lib.hid hz0
  clear hz0
  have HC := Lib.hid (fun (W : World) (q : DK D SS CC false ops fu W) => (by have t := q.checkIs i s; rw [HE.out] at t; exact t : Calls Tryz.prog 56 #[.pointer (some ⟨D, 0, none⟩), .int .i64 i, .string s] W fun e w' => e = .returned (.int .i64 0) ∧ W = w'))
  clear h hv
  go_enter Tryz.func109, Tryz.ntmps109
  go_upto_region 1 with (fail)
  rw [← HV.out]
  have x0 : v.cell? ⟨w.heap.size, 0, none⟩ = some (.pointer (some ⟨D, 0, none⟩)) := (cell_of_row _ _ 0 _ _ _ HX.out).trans rfl
  go_wp2_with fail
  refine HR.out.mono ?_
  rintro e w' ⟨rfl, rfl⟩
  go_upto_region 4 with (fail)
  clear x0
  have HDI := Lib.hid (show DK D SS CC false ops fu v from HD.out)
  have y0 : v.cell? ⟨w.heap.size, 0, none⟩ = some (.pointer (some ⟨D, 0, none⟩)) := (cell_of_row _ _ 0 _ _ _ HX.out).trans rfl
  have y1 : v.cell? ⟨w.heap.size + 1, 0, none⟩ = some (.int .i64 i) := (cell_of_row _ _ 0 _ _ _ HI.out).trans rfl
  have y2 : v.cell? ⟨w.heap.size + 2, 0, none⟩ = some (.string s) := (cell_of_row _ _ 0 _ _ _ HZ.out).trans rfl
  have r0 := fun d os => cell_regrown y0 d os
  have r1 := fun d os => cell_regrown y1 d os
  have r2 := fun d os => cell_regrown y2 d os
  clear y0 y1 y2
  refine wp_region_quiet_below (by kernel_rfl) (by kernel_rfl) ?_
  repeat (any_goals (first | go_big_quiet_step (((go_at_call 56; with_reducible exact Calls.regrown_of (of_same (HC.out _ (HDI.out.kept (below_regrown _ _ _))))))) | quiet_step (((go_at_call 56; with_reducible exact Calls.regrown_of (of_same (HC.out _ (HDI.out.kept (below_regrown _ _ _)))))))))
  refine wpQuiet_nil ?_
  intro v1 hv1
  have hb1 := below_anyY hv1
  clear hv1 r0 r1 r2
  have HB1 := Lib.hid (HBn.out.trans (hb1.mono HBn.out.size))
  have HD1 := Lib.hid (HD.out.kept hb1)
  have HX1 := Lib.hid (blk_below HX.out hb1)
  have HI1 := Lib.hid (blk_below HI.out hb1)
  have HZ1 := Lib.hid (blk_below HZ.out hb1)
  clear hb1
  have HOK : Hid (0 ≤ i ∧ i < (SS.length : Int) ∧ s.size = 128) := Lib.hid (dck_ok HE.out)
  have HS := Lib.hid (dstep_write w.heap.size (w.heap.size + 1) (w.heap.size + 2) D SS CC ops fu i s v1 HD1.out HX1.out HI1.out HZ1.out HOK.out hl ho hf)
  have x0 : v1.cell? ⟨w.heap.size, 0, none⟩ = some (.pointer (some ⟨D, 0, none⟩)) := (cell_of_row _ _ 0 _ _ _ HX1.out).trans rfl
  go_wp2_with fail
  clear x0
  refine HS.out.mono ?_
  rintro e w1 ⟨rfl, hd, hb⟩
  have HD2 := Lib.hid hd
  have HB2 := Lib.hid ((Kd.of_below HB1.out HL.out).trans hb)
  clear hd hb
  go_wp2_with fail
  go_ret
  exact ⟨rfl, HD2.out, HB2.out⟩
end Go.Proofs.YtiflieaemgamkaaGreatDoor

namespace Go.Proofs.YtiflieaemgamkaaGreatDoor
open Go.RowKit Go.Shelf Vi
attribute [local go_sem] Oper.semAt_some

/-- what has come when k rounds are over -/
def bwU (CC : List Wr) (k : Nat) : List (Int × Wr) := (List.range k).map fun j => (((CC.length - 1 - j : Nat) : Int), (CC[CC.length - 1 - j]?).getD (0, ⟨#[]⟩))
theorem bwU_succ (CC : List Wr) (k : Nat) : bwU CC (k + 1) = bwU CC k ++ [(((CC.length - 1 - k : Nat) : Int), (CC[CC.length - 1 - k]?).getD (0, ⟨#[]⟩))] := by simp [bwU, List.range_succ]
theorem bwU_len (CC : List Wr) (k : Nat) : (bwU CC k).length = k := by simp [bwU]
theorem bwU_pre (CC : List Wr) {k n : Nat} (h : k ≤ n) : bwU CC k <+: bwU CC n := by
  have e : List.range k = (List.range n).take k := by
    rw [List.take_range, Nat.min_eq_left h]
  have q : List.range k <+: List.range n := by rw [e]; exact List.take_prefix _ _
  exact q.map _
abbrev bwE (x : Int × Wr) : Array Value := #[.int .i64 x.1, .agg #[.int .i64 x.2.1, .string x.2.2]]
set_option maxRecDepth 100000 in
set_option maxHeartbeats 2000000 in
theorem back1_in (F : Fence) (n : Nat) (hg : F.fn 224) (hro : F.round = none) (hn : 1 ≤ n) (l Bs n₀ : Nat) (A : Option Addr) (cap : Nat) (CC : List Wr) (hl : CC.length ≤ 1000000) (J Jx : List (Int × Wr) → World → Prop)
    (hY : ∀ pre x W, J pre W → pre.length < CC.length → YieldAt F (n - 1) Tryz.prog l (bwE x) W fun e W' =>
      (e = .returned (.bool true) ∧ J (pre ++ [x]) W' ∧ Below n₀ W W') ∨ (e = .returned (.bool false) ∧ Jx (pre ++ [x]) W'))
    (W : World) (hBs : W.cell? ⟨Bs, 0, none⟩ = some (.slice A CC.length cap)) (hBl : Bs < n₀) (hr : RdX wrC 2 W A CC.length CC) (hA : ∀ b o, A = some ⟨b, o, none⟩ → b < n₀) (h0 : J [] W) :
    CallsIn F n Tryz.prog 224 #[.func (.yield l) #[] #[], .pointer (some ⟨Bs, 0, none⟩)] W fun e W' => (∃ v, e = .returned v) ∧
      ((∃ ys, ys = bwU CC CC.length ∧ J ys W') ∨ (∃ pre, pre <+: bwU CC CC.length ∧ Jx pre W')) := by
  have HR := Lib.hid hr
  have HA := Lib.hid hA
  have HBS := Lib.hid hBs
  clear hr hA
  refine callsIn_of_wp Tryz.func224 rfl hg ?_ hro
  simp only [Tryz.ntmps224, List.size_toArray, List.length_cons, List.length_nil, Nat.reduceAdd, Nat.reduceSub, Array.replicate_succ, Array.replicate_zero, List.push_toArray, List.append_toArray, List.nil_append, List.cons_append]
  gi_wp2
  clear hBs
  gi_loopw [3] (fun i wr => ∃ m : Nat, m ≤ CC.length ∧ i = .int .i64 ((m : Int) - 1) ∧ J (bwU CC (CC.length - m)) wr ∧ Below n₀ W wr) (fun i _ => (intOf i + 1).toNat)
  case atStart => exact ⟨CC.length, Nat.le_refl _, rfl, by rw [Nat.sub_self]; exact h0, Below.refl _ _⟩
  case round =>
    obtain ⟨m, hm, rfl, hJs, hnx⟩ := hrel
    have HNX := Lib.hid hnx
    clear hnx
    cases m with
    | zero =>
      have HJ := Lib.hid (show J (bwU CC CC.length) wr by simpa using hJs)
      clear hJs
      gi_wp2
      go_end0
      exact ⟨⟨_, rfl⟩, .inl ⟨_, rfl, HJ.out⟩⟩
    | succ p =>
      have e : (((p + 1 : Nat) : Int) - 1) = (p : Int) := by omega
      rw [e]
      clear e
      have hp0 : (0 : Int) ≤ (p : Int) := by omega
      have hlt : p < CC.length := by omega
      obtain ⟨b, off, _, hAe, _, _⟩ := HR.out.at hlt
      obtain ⟨x, hx⟩ : ∃ x, CC[p]? = some x := ⟨_, List.getElem?_eq_getElem hlt⟩
      obtain rfl := hAe
      have hbl : b < n₀ := HA.out b off rfl
      have HJ := Lib.hid hJs
      have HS : Hid (bwU CC (CC.length - p) = bwU CC (CC.length - (p + 1)) ++ [((p : Int), x)]) := Lib.hid (by
        have e1 : CC.length - p = CC.length - (p + 1) + 1 := by omega
        have e2 : CC.length - 1 - (CC.length - (p + 1)) = p := by omega
        rw [e1, bwU_succ, e2, hx]; rfl)
      obtain ⟨at0, s⟩ := x
      have c0 : wr.cell? ⟨b, off + p * 2, none⟩ = some (.int .i64 at0) := by
        have q := HR.out.cellAt hx hlt 0 _ rfl
        rw [HNX.out.cell (p := ⟨b, off + p * 2, none⟩) hbl]; exact q
      have c1 : wr.cell? ⟨b, off + p * 2 + 1, none⟩ = some (.string s) := by
        have q := HR.out.cellAt hx hlt 1 _ rfl
        rw [HNX.out.cell (p := ⟨b, off + p * 2 + 1, none⟩) hbl]; exact q
      have cs : wr.cell? ⟨Bs, 0, none⟩ = some (.slice (some ⟨b, off, none⟩) CC.length cap) := by rw [HNX.out.cell (p := ⟨Bs, 0, none⟩) hBl]; exact HBS.out
      obtain ⟨fn, tmps, assign, body, hy, hR⟩ := hY _ ((p : Int), (at0, s)) wr hJs (by rw [bwU_len]; omega)
      dsimp only [bwE] at hy
      have hpl : (p : Int) < (CC.length : Int) := by omega
      clear hx hJs
      gi_wp2
      refine hR.mono ?_
      rintro e W3 (⟨rfl, hJ3, hk3⟩ | ⟨rfl, hJx3⟩)
      · have HJ3 := Lib.hid hJ3
        have HK3 := Lib.hid (HNX.out.trans hk3)
        clear hJ3 hk3
        gi_wp2
        go_roundw
        case rel => exact ⟨p, by omega, rfl, by rw [HS.out]; exact HJ3.out, HK3.out⟩
        case measure => simp [intOf] <;> omega
      · have HJ3 := Lib.hid hJx3
        clear hJx3
        gi_wp2
        refine bodyPost_ret (results_none rfl _ _ _) rfl ?_
        exact ⟨⟨_, rfl⟩, .inr ⟨_, by rw [← HS.out]; exact bwU_pre CC (by omega), HJ3.out⟩⟩
set_option maxHeartbeats 1000000 in
theorem back_in (F : Fence) (n : Nat) (hg : F.fn 198) (hro : F.round = none) (a : Option Addr) (len cap : Nat) (w : World) :
    CallsIn F n Tryz.prog 198 #[.slice a len cap] w fun e w' => e = .returned (.func (.func 224) #[] #[.pointer (some ⟨w.heap.size, 0, none⟩)]) ∧ w' = w.alloc (.cells #[.slice a len cap] 31) := by
  refine callsIn_of_wp Tryz.func198 rfl hg ?_ hro
  simp only [Tryz.ntmps198, List.size_toArray, List.length_cons, List.length_nil, Nat.reduceAdd, Nat.reduceSub, Array.replicate_succ, Array.replicate_zero, List.push_toArray, List.append_toArray, List.nil_append, List.cons_append]
  gi_wp2
  go_ret
  exact ⟨rfl, rfl⟩
theorem back_stops (F : Fence) (n : Nat) (hg : F.fn 224) (hro : F.round = none) (hn : 1 ≤ n) (Bs : Nat) (A : Option Addr) (cap : Nat) (CC : List Wr) (hl : CC.length ≤ 1000000) (w : World) (hBs : Bs < w.heap.size)
    (hc : w.cell? ⟨Bs, 0, none⟩ = some (.slice A CC.length cap)) (hr : RdX wrC 2 w A CC.length CC) (hA : ∀ b o, A = some ⟨b, o, none⟩ → b < w.heap.size) :
    SeqStopsK F n Tryz.prog 224 #[.pointer (some ⟨Bs, 0, none⟩)] bwE (Below w.heap.size) (fun ys => ys = bwU CC CC.length) (fun pre => pre <+: bwU CC CC.length) CC.length w := fun l J Jx W hW _ _ hY h0 =>
  back1_in F n hg hro hn l Bs w.heap.size A cap CC hl J Jx hY W ((hW.cell (p := ⟨Bs, 0, none⟩) hBs).trans hc) hBs (hr.below hW) hA h0
end Go.Proofs.YtiflieaemgamkaaGreatDoor

namespace Go.Proofs.YtiflieaemgamkaaGreatDoor
open Go.RowKit Go.Shelf Vi
attribute [local go_sem] Oper.semAt_some

/-- what a sector shows -/
def shwL (i : Int) : List Wr → ByteArray → ByteArray
  | [], s => s
  | x :: r, s => shwL i r (if x.1 = i then x.2 else s)
def shw (SS : List ByteArray) (CC : List Wr) (i : Int) : ByteArray := shwL i CC ((SS[i.toNat]?).getD ⟨#[]⟩)
theorem shwL_snoc (i : Int) : ∀ (l : List Wr) (x : Wr) (s : ByteArray), shwL i (l ++ [x]) s = if x.1 = i then x.2 else shwL i l s
  | [], _, _ => rfl
  | _ :: r, x, _ => shwL_snoc i r x _
theorem shwL_none (i : Int) : ∀ (l : List Wr) (s : ByteArray), (∀ x ∈ l, x.1 ≠ i) → shwL i l s = s
  | [], _, _ => rfl
  | y :: r, s, h => by
    show shwL i r _ = s
    rw [if_neg (h y (by simp))]
    exact shwL_none i r s (fun x hx => h x (List.mem_cons_of_mem _ hx))
theorem bwU_get (CC : List Wr) (k : Nat) (h : k < CC.length) : (bwU CC CC.length)[k]? = some (((CC.length - 1 - k : Nat) : Int), CC[CC.length - 1 - k]'(by omega)) := by
  unfold bwU
  rw [List.getElem?_map, List.getElem?_range h]
  simp
  rw [List.getElem?_eq_getElem (by omega)]
  rfl
/-- the first that is met, from behind, is what is shown -/
theorem shw_hit {SS : List ByteArray} {CC : List Wr} {i : Int} {q : List (Int × Wr)} {x : Int × Wr} (hp : q ++ [x] <+: bwU CC CC.length) (hq : ∀ y ∈ q, y.2.1 ≠ i) (hx : x.2.1 = i) : shw SS CC i = x.2.2 := by
  have hl := hp.length_le
  rw [bwU_len, List.length_append] at hl
  simp at hl
  have hk : q.length < CC.length := by omega
  have hat : ∀ j, j < q.length + 1 → (q ++ [x])[j]? = (bwU CC CC.length)[j]? := fun j hj => by
    obtain ⟨t, ht⟩ := hp
    rw [← ht, List.getElem?_append_left (l₁ := q ++ [x]) (by rw [List.length_append]; exact hj)]
  have hxe : x.2 = CC[CC.length - 1 - q.length]'(by omega) := by
    have e := hat q.length (by omega)
    rw [bwU_get CC _ hk] at e
    have e2 : (q ++ [x])[q.length]? = some x := by rw [List.getElem?_append_right (Nat.le_refl _), Nat.sub_self]; rfl
    rw [e2] at e
    injection e with e
    rw [e]
  have hne : ∀ j (_ : CC.length - 1 - q.length < j) (hj : j < CC.length), CC[j].1 ≠ i := fun j h1 hj => by
    have e := hat (CC.length - 1 - j) (by omega)
    rw [bwU_get CC _ (by omega), List.getElem?_append_left (by omega), List.getElem?_eq_getElem (by omega)] at e
    have h2 := hq _ (List.getElem_mem (l := q) (n := CC.length - 1 - j) (by omega))
    injection e with e
    rw [e] at h2
    have e2 : CC.length - 1 - (CC.length - 1 - j) = j := by omega
    simpa [e2] using h2
  have hs : CC = CC.take (CC.length - 1 - q.length) ++ [x.2] ++ CC.drop (CC.length - q.length) := by
    have e1 : CC.length - q.length = CC.length - 1 - q.length + 1 := by omega
    rw [hxe, List.append_assoc, List.singleton_append, e1, ← List.drop_eq_getElem_cons (by omega), List.take_append_drop]
  have app : ∀ (l m : List Wr) (s : ByteArray), shwL i (l ++ m) s = shwL i m (shwL i l s) := fun l => by
    induction l with
    | nil => intro m s; rfl
    | cons y r ih => intro m s; exact ih m _
  unfold shw
  rw [hs, app, shwL_snoc, if_pos hx]
  refine shwL_none i _ _ (fun y hy => ?_)
  obtain ⟨j, hj, e⟩ := List.getElem_of_mem hy
  rw [← e, List.getElem_drop]
  rw [List.length_drop] at hj
  exact hne _ (by omega) (by omega)
theorem shw_miss {SS : List ByteArray} {CC : List Wr} {i : Int} (hq : ∀ y ∈ bwU CC CC.length, y.2.1 ≠ i) : shw SS CC i = (SS[i.toNat]?).getD ⟨#[]⟩ := by
  refine shwL_none i CC _ (fun x hx => ?_)
  obtain ⟨j, hj, e⟩ := List.getElem_of_mem hx
  have h := bwU_get CC (CC.length - 1 - j) (by omega)
  have h2 := hq _ (List.mem_of_getElem? h)
  have e2 : CC.length - 1 - (CC.length - 1 - j) = j := by omega
  rw [← e]
  simpa [e2] using h2
theorem row_own {β : Type} (B : Nat) (o : Obj) (hc : o.isCells = true) : Own (fun (_ : β) (W : World) => W.heap[B]? = some o) := fun _ X Y row hs hg hrow => by
  have hs : X.heap[B]? = some o := hs
  show Y.heap[B]? = some o
  rw [hg.block B (lt_of_block hs) (fun e => by
    obtain ⟨o', ho, hc'⟩ := hrow B (by first | exact e | exact e.symm)
    rw [hs] at ho
    cases ho
    rw [hc] at hc'
    cases hc')]
  exact hs
set_option maxRecDepth 100000 in
set_option maxHeartbeats 4000000 in
theorem dshow_in (F : Fence) (n : Nat) (h3 : F.fn 155) (h4 : F.fn 198) (h5 : F.fn 224) (hro : F.round = none) (hn : 6 ≤ n)
    (D : Nat) (SS : List ByteArray) (CC : List Wr) (dn : Bool) (ops fu : Int) (i : Int) (w : World) (h : DK D SS CC dn ops fu w) (hi : 0 ≤ i ∧ i < (SS.length : Int)) (hl : CC.length ≤ 1000000) :
    CallsIn F n Tryz.prog 155 #[.pointer (some ⟨D, 0, none⟩), .int .i64 i] w fun e W' => e = .returned (.string (shw SS CC i)) ∧ Below w.heap.size w W' := by
  have h1 : 1 ≤ n := by omega
  obtain ⟨⟨sa, sn, sc, ca, cn, cc, g1, g2, g3⟩, _⟩ := h
  have HD := Lib.hid g1
  have H2 := Lib.hid g2
  obtain ⟨A, c, e, hr, _, _⟩ := g3.rd wrC_len
  injection e with e1 e2 e3
  subst e1 e2 e3
  have HR := Lib.hid hr
  have HOA := Lib.hid (fun b o (e : ca = some ⟨b, o, none⟩) => show b < w.heap.size from by subst e; exact own_lt g3)
  obtain ⟨c0, c1, c2, c3, c4, c5⟩ := dk_cells g1
  have HI := Lib.hid hi
  have c1b : ((w.alloc (.cells #[.int .i64 i] 3)).alloc (.cells #[.string ⟨#[]⟩] 9)).cell? ⟨D, 1, none⟩ = some (.slice ca CC.length cc) := (dk_cells (blk_alloc (blk_alloc g1 _) _)).2.1
  clear g1 g2 g3 hr hi
  refine callsIn_of_wp_marks Tryz.func155 rfl h3 ?_ hro
  simp only [Tryz.ntmps155, List.size_toArray, List.length_cons, List.length_nil, Nat.reduceAdd, Nat.reduceSub, Array.replicate_succ, Array.replicate_zero, List.push_toArray, List.append_toArray, List.nil_append, List.cons_append]
  gi_wp2_with (gi_at_call 198; refine (back_in F (n - 1) h4 hro _ _ _ _).mono ?_; rintro e w' ⟨rfl, rfl⟩)
  have bI := ((Boxed.new w 3 (.int .i64 i)).alloc (.cells #[.string ⟨#[]⟩] 9)).alloc (.cells #[.slice ca CC.length cc] 31)
  have bR := (Boxed.new (w.alloc (.cells #[.int .i64 i] 3)) 9 (.string ⟨#[]⟩)).alloc (.cells #[.slice ca CC.length cc] 31)
  have bS := Boxed.new ((w.alloc (.cells #[.int .i64 i] 3)).alloc (.cells #[.string ⟨#[]⟩] 9)) 31 (.slice ca CC.length cc)
  simp only [World.size_alloc] at bR bS
  have hB0 : Below w.heap.size w (((w.alloc (.cells #[.int .i64 i] 3)).alloc (.cells #[.string ⟨#[]⟩] 9)).alloc (.cells #[.slice ca CC.length cc] 31)) := (((Below.refl _ w).alloc (Nat.le_refl _) _).alloc (by simp) _).alloc (by simp; omega) _
  have hsz : (((w.alloc (.cells #[.int .i64 i] 3)).alloc (.cells #[.string ⟨#[]⟩] 9)).alloc (.cells #[.slice ca CC.length cc] 31)).heap.size = w.heap.size + 3 := by simp
  clear c0 c1 c2 c3 c4 c5 c1b
  obtain ⟨W0, hW0⟩ : ∃ W0, ((w.alloc (.cells #[.int .i64 i] 3)).alloc (.cells #[.string ⟨#[]⟩] 9)).alloc (.cells #[.slice ca CC.length cc] 31) = W0 := ⟨_, rfl⟩
  rw [hW0] at bI bR bS hB0 hsz ⊢
  clear hW0
  have HB0 := Lib.hid hB0
  refine wpIn_rangeFunc_ownH hro h1 (gf := 224) (lb := #[.pointer (some ⟨w.heap.size + 1 + 1, 0, none⟩)]) rfl h5 (enters_of Tryz.func224 (by kernel_rfl) rfl)
    (back_stops F (n - 1) h5 hro (by omega) (w.heap.size + 1 + 1) ca cc CC hl W0 (by omega) bS.cell (HR.out.below hB0) (fun b o e => by have := HOA.out b o e; omega)) belowK_t (belowK_b (by omega)) (Below.refl _ _) (fun _ => rfl)
    (fun pre W => (Boxed W w.heap.size 3 (.int .i64 i) ∧ Boxed W (w.heap.size + 1) 9 (.string ⟨#[]⟩)) ∧ Hid (∀ y ∈ pre, y.2.1 ≠ i) ∧ Below W0.heap.size W0 W)
    (fun c pre W => (Boxed W (w.heap.size + 1) 9 (.string (((pre.getLast?).map (·.2.2)).getD ⟨#[]⟩))) ∧ Hid (c = .ret ∧ ∃ q x, pre = q ++ [x] ∧ (∀ y ∈ q, y.2.1 ≠ i) ∧ x.2.1 = i) ∧ Below w.heap.size w W)
    (OwnFrom.and (OwnFrom.and (Own.from (boxed_own _ _ _) _) (Own.from (boxed_own _ _ _) _)) (OwnFrom.and (ownFrom_pure _ _) (ownFrom_below (Nat.le_refl _) (by omega))))
    (fun c => OwnFrom.and (Own.from (boxed_own _ _ _) _) (OwnFrom.and (ownFrom_pure _ _) (ownFrom_below (Nat.le_refl _) (by omega))))
    ⟨⟨bI, bR⟩, Lib.hid (by simp), Below.refl _ _⟩
    (fun x a' W => ∃ Bx, w.heap.size + 1 < Bx ∧ W.heap[Bx]? = some (.cells #[.int .i64 x.2.1, .string x.2.2] 102 (0, 0)) ∧ a' = { tmps := #[.pointer (some ⟨D, 0, none⟩), .int .i64 i, undef, .pointer (some ⟨w.heap.size, 0, none⟩), .pointer (some ⟨w.heap.size + 1, 0, none⟩), undef, .pointer (some ⟨Bx, 0, none⟩), .pointer (some ⟨D, 0, none⟩), .pointer (some ⟨D, 0, none⟩), .pointer (some ⟨D, 1, none⟩), .slice ca CC.length cc, .func (.func 224) #[] #[.pointer (some ⟨w.heap.size + 1 + 1, 0, none⟩)], .int .i64 x.1, .agg #[.int .i64 x.2.1, .string x.2.2], undef, undef, undef, undef, undef, undef, undef, undef, undef, undef, undef, undef, undef], defers := [] })
    (fun x a' _ X Y row hs hg hr => by obtain ⟨Bx, h1, h2, h3⟩ := hs; exact ⟨Bx, h1, row_own Bx _ rfl () X Y row h2 hg (fun r e => (hr r e).2), h3⟩)
    ?assign ?body ?done ?stop
  case assign =>
    rintro l pre x W K ⟨⟨bI1, bR1⟩, hne, hB⟩ hK
    gi_wp2
    exact hK _ _ ((KeepsOthers.alloc _ _).from _) ((Below.refl _ W).alloc hB.size _) ⟨⟨bI1.alloc _, bR1.alloc _⟩, hne, hB.alloc hB.size _⟩ ⟨W.heap.size, by have := hB.size; omega, blk_new W _, rfl⟩
  case body =>
    rintro l pre x a' W hl ⟨r, hr⟩ ⟨⟨bI1, bR1⟩, hne, hB⟩ ⟨Bx, hBx, hX, rfl⟩ hlt
    have HN := Lib.hid hne
    have HB := Lib.hid hB
    have HX := Lib.hid hX
    have cI := bI1.cell
    have cR := bR1.cell
    have fR := bR1.frozen
    have x0 : W.cell? ⟨Bx, 0, none⟩ = some (.int .i64 x.2.1) := (cell_of_row _ _ 0 _ _ _ hX).trans rfl
    have x1 : W.cell? ⟨Bx, 1, none⟩ = some (.string x.2.2) := (cell_of_row _ _ 1 _ _ _ hX).trans rfl
    have hWs := hB.size
    clear hne hB hX hr
    by_cases hq : x.2.1 = i
    · have d1 : (x.2.1 == i) = true := by simpa using hq
      have HQ := Lib.hid hq
      clear hq
      gi_wp2
      refine ⟨(KeepsOthers.setCell _ _ _).from _, ?_, Lib.hid ⟨rfl, pre, x, rfl, HN.out, HQ.out⟩, (HB0.out.trans (HB.out.mono (by omega))).setCell (p := ⟨w.heap.size + 1, 0, none⟩) (by show w.heap.size ≤ w.heap.size + 1; omega) _⟩
      have hv : (((pre ++ [x]).getLast?).map (fun y : Int × Wr => y.2.2)).getD ⟨#[]⟩ = x.2.2 := by simp
      rw [hv]
      exact bR1.set _
    · have d1 : (x.2.1 == i) = false := by rw [beq_eq_false_iff_ne]; exact hq
      have HQ := Lib.hid hq
      clear hq
      gi_wp2
      exact ⟨KeepsFrom.refl _ _, Below.refl _ _, ⟨bI1, bR1⟩, Lib.hid (fun y hy => by
        rcases List.mem_append.1 hy with hy | hy
        · exact HN.out y hy
        · obtain rfl : y = x := (by simpa using hy)
          exact HQ.out), HB.out⟩
  case done =>
    rintro Dd xs W hD rfl ⟨⟨bI1, bR1⟩, hne, hB⟩ hK
    have HN := Lib.hid hne
    have HBw := Lib.hid (HB0.out.trans (hB.mono (by omega)))
    have HDW := Lib.hid (blk_below HD.out HBw.out)
    have H2W := Lib.hid (H2.out.kept HBw.out)
    have HK := Lib.hid hK
    have cI := bI1.cell
    have cR := bR1.cell
    have fR := bR1.frozen
    clear hne hB hK
    obtain ⟨hi0, hi1⟩ := HI.out
    obtain ⟨k, rfl⟩ : ∃ k : Nat, i = (k : Int) := ⟨i.toNat, by omega⟩
    have hk : k < SS.length := by omega
    obtain ⟨A2, c2, e, hr2, _, _⟩ := H2W.out.rd stC_len
    injection e with e1 e2 e3
    subst e1 e2 e3
    obtain ⟨b, off, _, rfl, _, hcell⟩ := hr2.at hk
    have c2 := hcell 0 (.string SS[k]) rfl
    rw [Nat.mul_one, Nat.add_zero] at c2
    have c0 : W.cell? ⟨D, 0, none⟩ = some (.slice (some ⟨b, off, none⟩) SS.length _) := (dk_cells HDW.out).1
    have HE := Lib.hid (show shw SS CC (k : Int) = SS[k] by rw [shw_miss HN.out]; simp [hk])
    clear hcell hr2
    obtain ⟨s, hs⟩ : ∃ s, s = SS[k] := ⟨_, rfl⟩
    rw [← hs] at c2 HE
    clear hs
    gi_wp2
    gi_region
    all_goals
      gi_wp2
      have hK' : ((W.setCell ⟨w.heap.size + 1, 0, none⟩ (.string s)).drew).heap[Dd]? = some (.deferred (some [])) := (KeepsOthers.setCell W ⟨w.heap.size + 1, 0, none⟩ (.string s)).same Dd _ HK.out rfl
      have hc5 : ((W.setCell ⟨w.heap.size + 1, 0, none⟩ (.string s)).drew).cell? ⟨w.heap.size + 1, 0, none⟩ = some (.string s) := World.cell?_setCell_same' W ⟨w.heap.size + 1, 0, none⟩ (.string s) (by rw [cR]; rfl)
      refine ⟨by simp, .inl ⟨_, _, rfl, run_takeDeferred hK', ?_⟩⟩
      have hc6 := cell_kept hc5 (grownBy_putObj' _ Dd (.deferred none)) (fun r e => by cases e; exact ⟨_, hK', rfl⟩)
      refine ⟨.string s, ?_, by rw [HE.out], ((HBw.out.setCell (p := ⟨w.heap.size + 1, 0, none⟩) (by show w.heap.size ≤ w.heap.size + 1; omega) _).drew).trans (belowK_b (w := w) (Nat.le_refl _) _ Dd _ _ (by omega) hK' rfl rfl)⟩
      simp [results, Tryz.f155, go_sem, hc6]
  case stop =>
    rintro Dd c pre W hD hpre ⟨bR1, hx, hB⟩ hK
    obtain ⟨rfl, q, x, rfl, hq, hxi⟩ := hx.out
    have hv : (((q ++ [x]).getLast?).map (fun y : Int × Wr => y.2.2)).getD ⟨#[]⟩ = x.2.2 := by simp
    rw [hv] at bR1
    have HS := Lib.hid (shw_hit (SS := SS) hpre hq hxi)
    gi_wp2
    refine ⟨by simp, .inl ⟨_, _, rfl, run_takeDeferred hK, ?_⟩⟩
    have hc5 := cell_kept bR1.cell (grownBy_putObj' _ Dd (.deferred none)) (fun r e => by cases e; exact ⟨_, hK, rfl⟩)
    refine ⟨.string x.2.2, ?_, by rw [HS.out], hB.trans (belowK_b (w := w) (Nat.le_refl _) W Dd _ _ (by omega) hK rfl rfl)⟩
    simp [results, Tryz.f155, go_sem, hc5]
end Go.Proofs.YtiflieaemgamkaaGreatDoor

namespace Go.Proofs.YtiflieaemgamkaaGreatDoor
open Go.RowKit Vi

theorem dshow_any (D : Nat) (SS : List ByteArray) (CC : List Wr) (dn : Bool) (ops fu : Int) (i : Int) (w : World) (h : DK D SS CC dn ops fu w) (hi : 0 ≤ i ∧ i < (SS.length : Int)) (hl : CC.length ≤ 1000000) :
    Calls Tryz.prog 155 #[.pointer (some ⟨D, 0, none⟩), .int .i64 i] w fun e W' => e = .returned (.string (shw SS CC i)) ∧ Below w.heap.size w W' :=
  (callsIn_wide (n := 6)).1 (dshow_in Fence.wide 6 trivial trivial trivial rfl (by omega) D SS CC dn ops fu i w h hi hl)
theorem DK.hasIs {D : Nat} {SS : List ByteArray} {CC : List Wr} {dn : Bool} {ops fu : Int} {w : World} (h : DK D SS CC dn ops fu w) (i : Int) : Calls Tryz.prog 113 #[.pointer (some ⟨D, 0, none⟩), .int .i64 i] w fun e w' => e = .returned (.bool (decide (0 ≤ i ∧ i < (SS.length : Int)))) ∧ w = w' := by
  obtain ⟨⟨sa, sn, sc, ca, cn, cc, h1, h2, h3⟩, _⟩ := h
  have hl : sn = SS.length := by
    obtain ⟨A, c, e, _, _, _⟩ := h2.rd stC_len
    injection e
  rw [← hl]
  exact dhas_any D sa sn sc i w (dk_cells h1).1
set_option maxRecDepth 100000 in
theorem dread_down (D : Nat) (SS : List ByteArray) (CC : List Wr) (ops fu : Int) (i : Int) (w : World) (h : DK D SS CC true ops fu w) :
    Calls Tryz.prog 99 #[.pointer (some ⟨D, 0, none⟩), .int .i64 i] w fun e w' => e = .returned (.tuple #[.string ⟨#[]⟩, .int .i64 7]) ∧ w = w' := by
  have HR := Lib.hid h.readyIs
  clear h
  go_enter Tryz.func99, Tryz.ntmps99
  go_wp2_with fail
  refine HR.out.mono ?_
  rintro e w' ⟨rfl, rfl⟩
  go_wp2_with fail
  go_ret2
  exact ⟨rfl, rfl⟩
set_option maxRecDepth 100000 in
theorem dread_no (D : Nat) (SS : List ByteArray) (CC : List Wr) (ops fu : Int) (i : Int) (w : World) (h : DK D SS CC false ops fu w) (hi : ¬ (0 ≤ i ∧ i < (SS.length : Int))) :
    Calls Tryz.prog 99 #[.pointer (some ⟨D, 0, none⟩), .int .i64 i] w fun e w' => e = .returned (.tuple #[.string ⟨#[]⟩, .int .i64 8]) ∧ w = w' := by
  have HR := Lib.hid h.readyIs
  have HH := h.hasIs i
  rw [decide_eq_false hi] at HH
  have HH := Lib.hid HH
  clear h hi
  go_enter Tryz.func99, Tryz.ntmps99
  go_wp2_with fail
  refine HR.out.mono ?_
  rintro e w' ⟨rfl, rfl⟩
  go_wp2_with fail
  refine HH.out.mono ?_
  rintro e w' ⟨rfl, rfl⟩
  go_wp2_with fail
  go_ret2
  exact ⟨rfl, rfl⟩
set_option maxRecDepth 100000 in
theorem dread_up (D : Nat) (SS : List ByteArray) (CC : List Wr) (ops fu : Int) (i : Int) (w : World) (h : DK D SS CC false ops fu w) (hi : 0 ≤ i ∧ i < (SS.length : Int)) (hl : CC.length ≤ 1000000) (ho : -1000000000 ≤ ops ∧ ops ≤ 1000000000) :
    Calls Tryz.prog 99 #[.pointer (some ⟨D, 0, none⟩), .int .i64 i] w fun e w' => e = .returned (.tuple #[.string (shw SS CC i), .int .i64 0]) ∧ DK D SS CC false (ops + 1) fu w' ∧ Kd D w w' := by
  have HR := Lib.hid h.readyIs
  have HH := h.hasIs i
  rw [decide_eq_true hi] at HH
  have HH := Lib.hid HH
  have HI := Lib.hid hi
  obtain ⟨⟨sa, sn, sc, ca, cn, cc, h1, h2, h3⟩, h4⟩ := h
  have H1 := Lib.hid h1
  have H2 := Lib.hid h2
  have H3 := Lib.hid h3
  have H4 := Lib.hid h4
  have c4 : w.cell? ⟨D, 4, none⟩ = some (.int .i64 ops) := (dk_cells h1).2.2.2.2.1
  have f4 : w.frozen? ⟨D, 4, none⟩ = false := frozen_of_row _ _ _ _ _ h1
  have w2 : IntKind.i64.wrap (ops + 1) = ops + 1 := IntWalk.i64_in _ (by omega)
  clear h1 h2 h3 h4 hi
  go_enter Tryz.func99, Tryz.ntmps99
  go_wp2_with fail
  refine HR.out.mono ?_
  rintro e w' ⟨rfl, rfl⟩
  go_wp2_with fail
  refine HH.out.mono ?_
  rintro e w' ⟨rfl, rfl⟩
  go_wp2_with fail
  have HK := Lib.hid ((KK.refl [D] w).set (b := D) (by simp) 4 (.int .i64 (ops + 1)))
  have HB := Lib.hid (show (w.setCell ⟨D, 4, none⟩ (.int .i64 (ops + 1))).heap[D]? = some (dkO sa sn sc ca cn cc true false (ops + 1) fu) from heap_setCell_at (i := 4) (u := .int .i64 (ops + 1)) H1.out)
  have HO2 := Lib.hid (H2.out.kkD HK.out H1.out (by decide))
  have HO3 := Lib.hid (H3.out.kkD HK.out H1.out (by decide))
  have HKd := Lib.hid (Kd.of_same HK.out H1.out HB.out)
  clear c4 f4 w2
  generalize (w.setCell ⟨D, 4, none⟩ (.int .i64 (ops + 1))) = v at *
  have HD : Hid (DK D SS CC false (ops + 1) fu v) := Lib.hid ⟨⟨sa, sn, sc, ca, cn, cc, HB.out, HO2.out, HO3.out⟩, H4.out⟩
  have HS := Lib.hid (dshow_any D SS CC false (ops + 1) fu i v HD.out HI.out hl)
  refine HS.out.mono ?_
  rintro e w1 ⟨rfl, hb⟩
  have HD1 := Lib.hid (HD.out.kept hb)
  have HK1 := Lib.hid (HKd.out.trans (Kd.of_below hb HD.out.lt))
  clear hb
  go_wp2_with fail
  go_ret2
  exact ⟨rfl, HD1.out, HK1.out⟩
end Go.Proofs.YtiflieaemgamkaaGreatDoor

namespace Go.Proofs.YtiflieaemgamkaaGreatDoor
open Go.RowKit Vi Go.WideMaps Go.Maps

def emI (v : Value) : Option (DataW Nat × List MemPlace) := match v with
  | .agg a => if a.size = 0 then some (.nil, []) else none
  | _ => none
theorem emI_inv {v : Value} {z : DataW Nat × List MemPlace} (h : emI v = some z) : v = .agg #[] := by
  unfold emI at h
  split at h
  · next a =>
    split at h
    · next h0 => rw [Array.size_eq_zero_iff.1 h0]
    · cases h
  · cases h
/-- a set of texts -/
def SetI (w : World) (B : Nat) (ks : List Int) : Prop := ∃ n D, w.ownsMap Tryz.prog 3 emI B n D ∧ n ≤ ks.length ∧ IsMap D ∧ ∀ s : Int, (Lit.int .i64 s).wf = true → has D (.int .i64 s) = ks.any fun x => x == s
theorem SetI.made (w : World) : SetI (w.alloc (.map #[] 0)) w.heap.size [] :=
  ⟨0, .map [], World.ownsMap_made w _ _ _, Nat.le_refl _, isMap_empty, fun _ _ => rfl⟩
theorem SetI.kept {w w' : World} {B : Nat} {ks : List Int} (h : SetI w B ks) (hb : w'.heap[B]? = w.heap[B]?) : SetI w' B ks := by
  obtain ⟨n, D, ⟨es, cl, h1, h2⟩, h3⟩ := h
  exact ⟨n, D, ⟨es, cl, hb.trans h1, h2⟩, h3⟩
theorem SetI.lt {w : World} {B : Nat} {ks : List Int} (h : SetI w B ks) : B < w.heap.size := by
  obtain ⟨n, D, h1, _⟩ := h
  exact h1.lt
theorem SetI.put {w : World} {B : Nat} {ks : List Int} (h : SetI w B ks) (x : Int) (hx : (Lit.int .i64 x).wf = true) (hk : ks.length < maxLen) :
    ∃ w', (Instr.mapUpdate 114 (.map (some B)) (.int .i64 x) (.agg #[])).run Tryz.prog w = .ok () w' ∧ SetI w' B (ks ++ [x]) ∧ w.grownBy w' (some B) := by
  obtain ⟨n, D, h1, h2, h3, h4⟩ := h
  obtain ⟨w', hrun, hown, hg⟩ := h1.update (Maps.int_keyed Tryz.underlying3) Tryz.underlying114 (by omega) (key := .int .i64 x) (val := .agg #[]) (Maps.keyOf_int_mk Tryz.underlying3 hx) (d := .nil) (ps := []) rfl
  refine ⟨w', hrun, ⟨n + 1, _, hown, by rw [List.length_append]; simp; omega, h3.put _ _, fun s hs => ?_⟩, hg⟩
  rw [List.any_append]
  by_cases e : x = s
  · subst e
    rw [has_put_same (k := .int .i64 x) h3 trivial]
    simp
  · have hne : (Lit.int .i64 s) ≠ .int .i64 x := by
      intro q
      injection q with _ q
      exact e q.symm
    rw [has_put_other hne, h4 s hs]
    have hf : (x == s) = false := by rw [beq_eq_false_iff_ne]; exact e
    simp [hf]
theorem zero_unitI (w : World) : (zeroValue 115).run Tryz.prog w = .ok (.agg #[]) w := by
  simp [go_sem]
theorem SetI.look {w : World} {B : Nat} {ks : List Int} (h : SetI w B ks) (s : Int) (hs : (Lit.int .i64 s).wf = true) :
    (Instr.lookup 114 (.map (some B)) (.int .i64 s) true).run Tryz.prog w = .ok (.tuple #[.agg #[], .bool (ks.any fun x => x == s)]) w := by
  obtain ⟨n, D, ⟨es, cl, h1, F, _, hD⟩, h2, h3, h4⟩ := h
  have h5 := h4 s hs
  rcases Maps.fit_look true (Maps.int_keyed Tryz.underlying3) Tryz.underlying114 (zero_unitI w) h1 F (Maps.keyOf_int_mk Tryz.underlying3 hs) with ⟨hrun, _, hat⟩ | ⟨e0, y, _, _, hrun, hR, hat, _⟩
  · rw [← hD] at hat
    rw [has_false_of_atKey hat] at h5
    rw [hrun, ← h5]; rfl
  · rw [← hD] at hat
    rw [has_true_of_atKey hat] at h5
    rw [hrun, ← h5, emI_inv hR]; rfl
end Go.Proofs.YtiflieaemgamkaaGreatDoor

namespace Go.Proofs.YtiflieaemgamkaaGreatDoor
open Go.RowKit Vi

/-- the sectors when the writes of some numbers are safe -/
def setP (p : Nat → Bool) : Nat → List Wr → List ByteArray → List ByteArray
  | _, [], S => S
  | k, x :: r, S => setP p (k + 1) r (if p k = true then S.set x.1.toNat x.2 else S)
theorem setP_snoc (p : Nat → Bool) (x : Wr) : ∀ (l : List Wr) (k : Nat) (S : List ByteArray), setP p k (l ++ [x]) S = if p (k + l.length) = true then (setP p k l S).set x.1.toNat x.2 else setP p k l S
  | [], _, _ => rfl
  | y :: r, k, S => by
    show setP p (k + 1) (r ++ [x]) _ = _
    rw [setP_snoc p x r]
    show (if p (k + 1 + r.length) = true then _ else _) = if p (k + (r.length + 1)) = true then _ else _
    rw [show k + 1 + r.length = k + (r.length + 1) by omega]
    rfl
theorem setP_len (p : Nat → Bool) : ∀ (l : List Wr) (k : Nat) (S : List ByteArray), (setP p k l S).length = S.length
  | [], _, _ => rfl
  | x :: r, k, S => by
    show (setP p (k + 1) r _).length = _
    rw [setP_len p r]
    split
    · rw [List.length_set]
    · rfl
/-- is a number among those that are kept? -/
def inK (ks : List Int) (k : Nat) : Bool := ks.any fun x => x == (k : Int)
theorem wf_nat (k : Nat) (h : k ≤ 1000000) : (Lit.int .i64 (k : Int)).wf = true := by
  simp [Lit.wf, IntKind.min, IntKind.max, IntKind.bits, IntKind.signed]
  omega
set_option maxRecDepth 100000 in
theorem crash1 (M B : Nat) (ks : List Int) (n : Int) (w : World) (hm : w.heap[M]? = some (.cells #[.map (some B)] 114 (0, 0))) (hs : SetI w B ks) (hn : (Lit.int .i64 n).wf = true) :
    Calls Tryz.prog 61 #[.int .i64 n, .pointer (some ⟨M, 0, none⟩)] w fun e w' => e = .returned (.bool (ks.any fun x => x == n)) ∧ Below w.heap.size w w' := by
  have m0 : w.cell? ⟨M, 0, none⟩ = some (.map (some B)) := (cell_of_row _ _ 0 _ _ _ hm).trans rfl
  have HL := Lib.hid (hs.look n hn)
  obtain ⟨b, hb⟩ : ∃ b, b = ks.any fun x => x == n := ⟨_, rfl⟩
  rw [← hb] at HL ⊢
  have hlk := HL.out
  clear hs hm hb hn
  go_enter Tryz.func61, Tryz.ntmps61
  go_wp2_with fail
  go_ret
  exact ⟨rfl, (Below.refl _ _).alloc (Nat.le_refl _) _⟩
set_option maxRecDepth 100000 in
set_option maxHeartbeats 4000000 in
theorem dsettle_map (D M B : Nat) (ks : List Int) (SS : List ByteArray) (CC : List Wr) (dn : Bool) (ops fu : Int) (w : World) (h : DK D SS CC dn ops fu w) (hm : w.heap[M]? = some (.cells #[.map (some B)] 114 (0, 0))) (hs : SetI w B ks) (hM : ¬ InD D w M) (hB : ¬ InD D w B) (hl : CC.length ≤ 1000000) :
    Calls Tryz.prog 60 #[.pointer (some ⟨D, 0, none⟩), .func (.func 61) #[] #[.pointer (some ⟨M, 0, none⟩)]] w fun e w' => e = .returned (.tuple #[]) ∧ DK D (setP (inK ks) 0 CC SS) [] dn ops fu w' ∧ Kd D w w' := by
  obtain ⟨⟨sa, sn, sc, ca, cn, cc, h1, h2, h3⟩, h4⟩ := h
  have hsn : sn = SS.length := by
    obtain ⟨A, c, e, _, _, _⟩ := h2.rd stC_len
    injection e
  obtain ⟨A, c, e, hr, hc1, hc2⟩ := h3.rd wrC_len
  injection e with e1 e2 e3
  subst e1 e2 e3
  have H1 := Lib.hid h1
  have HO := Lib.hid h2
  have HC := Lib.hid h3
  have H4 := Lib.hid h4
  have HSN := Lib.hid hsn
  obtain ⟨c0, c1, c2, c3, c4, c5⟩ := dk_cells h1
  have hnm : CC.length ≤ maxLen := Nat.le_trans hc1 hc2
  unfold maxLen at hnm
  have HM0 := Lib.hid hm
  have HS0 := Lib.hid hs
  have HNM := Lib.hid hM
  have HNB := Lib.hid hB
  clear h1 h2 h3 h4 hr hc1 hc2 hsn hm hs hM hB
  go_enter Tryz.func60, Tryz.ntmps60
  go_wp2_with fail
  clear c0 c1 c2 c3 c4 c5
  go_loopw [11] (fun i wr => ∃ k : Nat, i = .int .i64 (k : Int) ∧ k ≤ CC.length ∧ wr.heap[D]? = some (dkO sa sn sc ca CC.length cc true dn ops fu) ∧ OwX stC 1 9 wr 0 (.slice sa sn sc) (setP (inK ks) 0 (CC.take k) SS) ∧ OwX wrC 2 102 wr 0 (.slice ca CC.length cc) CC ∧ Kd D w wr) (fun i _ => CC.length - (intOf i).toNat)
  case atStart => exact ⟨0, rfl, Nat.zero_le _, H1.out, HO.out, HC.out, Kd.refl _ _⟩
  case round =>
    obtain ⟨k, rfl, hk, hd, ho, hc, hb⟩ := hrel
    have HD := Lib.hid hd
    have HS := Lib.hid ho
    have HW := Lib.hid hc
    have HB := Lib.hid hb
    have hDl := lt_of_block hd
    have HMr : Hid (wr.heap[M]? = some (.cells #[.map (some B)] 114 (0, 0))) := Lib.hid ((hb.block M (lt_of_block HM0.out) HNM.out).trans HM0.out)
    have HSr := Lib.hid (HS0.out.kept (hb.block B HS0.out.lt HNB.out))
    obtain ⟨A, c, e, hr, _, _⟩ := hc.rd wrC_len
    injection e with e1 e2 e3
    subst e1
    have HR := Lib.hid hr
    clear hd ho hc hb hr e3
    by_cases hlt : k < CC.length
    · have hd1 : decide ((k : Int) < (CC.length : Int)) = true := decide_eq_true (by omega)
      have hi0 : (0 : Int) ≤ (k : Int) := by omega
      obtain ⟨b, off, hl, hA, hbb, _⟩ := HR.out.at hlt
      obtain ⟨x, hx⟩ : ∃ x, x = CC[k] := ⟨_, rfl⟩
      have HX := Lib.hid (show CC[k]? = some x by rw [List.getElem?_eq_getElem hl, hx])
      have HT0 := Lib.hid (show setP (inK ks) 0 (CC.take (k + 1)) SS = if inK ks k = true then (setP (inK ks) 0 (CC.take k) SS).set x.1.toNat x.2 else setP (inK ks) 0 (CC.take k) SS by rw [List.take_succ_eq_append_getElem hl, ← hx, setP_snoc, Nat.zero_add, List.length_take, Nat.min_eq_left (Nat.le_of_lt hl)])
      obtain ⟨q1, q2, _⟩ := H4.out x (by rw [hx]; exact List.getElem_mem hl)
      obtain ⟨at0, s⟩ := x
      have q1 : 0 ≤ at0 := q1
      have q2 : at0 < (SS.length : Int) := q2
      obtain ⟨j, rfl⟩ : ∃ j : Nat, at0 = (j : Int) := ⟨at0.toNat, by omega⟩
      have hj : j < (setP (inK ks) 0 (CC.take k) SS).length := by rw [setP_len]; omega
      have hj0 : (0 : Int) ≤ (j : Int) := by omega
      have hj1 : (j : Int) < (sn : Int) := by rw [HSN.out]; omega
      obtain ⟨T, hT⟩ : ∃ T, T = setP (inK ks) 0 (CC.take k) SS := ⟨_, rfl⟩
      rw [← hT] at HT0 HS hj
      have x0 : wr.cell? ⟨b, off + k * 2, none⟩ = some (.int .i64 (j : Int)) := by subst hA; exact HR.out.cellAt HX.out hlt 0 _ rfl
      have x1 : wr.cell? ⟨b, off + k * 2 + 1, none⟩ = some (.string s) := by subst hA; exact HR.out.cellAt HX.out hlt 1 _ rfl
      clear hx hT q1 q2
      obtain rfl := hA
      have hrow := HS.out
      rcases hrow with ⟨_, ⟨_, h0⟩ | ⟨g, cap, cur, e, hg, hheap, _⟩⟩
      · omega
      injection e with e1 e2 e3
      subst e1 e3
      have hne : ¬ D = g := fun e => by
        have q := HD.out
        rw [e, hheap] at q
        cases q
      have hgl := lt_of_block hheap
      obtain ⟨A2, c2, e, hr2, _, _⟩ := HS.out.rd stC_len
      injection e with e1 e2 e3
      subst e1
      have hck : wr.cell? ⟨g, j, none⟩ = some (.string T[j]) := by
        obtain ⟨b2, off2, hb2, _, hc2⟩ := hr2.2 (by omega)
        injection hb2 with hb2
        injection hb2 with hb3 hb4
        subst hb3 hb4
        have q := hc2 j T[j] 0 (.string T[j]) (List.getElem?_eq_getElem hj) rfl
        rw [Nat.zero_add, Nat.mul_one, Nat.add_zero] at q
        exact q
      obtain ⟨o, ho⟩ : ∃ o, o = T[j] := ⟨_, rfl⟩
      rw [← ho] at hck
      have HG := Lib.hid (blk_alloc hheap (.cells #[.int .i64 (j : Int), .string s] 102 (0, 0)))
      have HGB := Lib.hid hg
      have HBn := Lib.hid ((Below.refl wr.heap.size wr).alloc (Nat.le_refl _) (.cells #[.int .i64 (j : Int), .string s] 102 (0, 0)))
      have HDn := Lib.hid (blk_below HD.out HBn.out)
      have HXn := Lib.hid (blk_new wr (.cells #[.int .i64 (j : Int), .string s] 102 (0, 0)))
      have HSn := Lib.hid (HS.out.kept HBn.out)
      have HWn := Lib.hid (HW.out.kept HBn.out)
      have HB1 := Lib.hid (HB.out.trans (Kd.of_below HBn.out hDl))
      have hcn : (wr.alloc (.cells #[.int .i64 (j : Int), .string s] 102 (0, 0))).cell? ⟨g, j, none⟩ = some (.string o) := by rw [HBn.out.cell (p := ⟨g, j, none⟩) hgl]; exact hck
      have HMn := Lib.hid (blk_below HMr.out HBn.out)
      have HSTn := Lib.hid (HSr.out.kept (HBn.out.block B HSr.out.lt))
      obtain ⟨pb, hpb⟩ : ∃ pb, pb = inK ks k := ⟨_, rfl⟩
      rw [← hpb] at HT0
      have HAL : Hid (∀ (W : World), W.heap[M]? = some (.cells #[.map (some B)] 114 (0, 0)) → SetI W B ks → Calls Tryz.prog 61 #[.int .i64 (k : Int), .pointer (some ⟨M, 0, none⟩)] W fun e w' => e = .returned (.bool pb) ∧ Below W.heap.size W w') := Lib.hid (fun W h1 h2 => by rw [hpb]; exact crash1 M B ks (k : Int) W h1 h2 (wf_nat k (by omega)))
      clear hpb
      have hbs := HB.out.size
      clear hr2 hheap hg ho e2 e3 hck
      cases pb
      · have HT := Lib.hid (show setP (inK ks) 0 (CC.take (k + 1)) SS = T by rw [HT0.out]; simp)
        clear HT0
        go_wp2_with fail
        clear x0 x1
        refine (HAL.out _ HMn.out HSTn.out).mono ?_
        rintro e v ⟨rfl, hbv⟩
        have HDv := Lib.hid (blk_below HDn.out hbv)
        have HSv := Lib.hid (HSn.out.kept hbv)
        have HWv := Lib.hid (HWn.out.kept hbv)
        have HBv := Lib.hid (HB1.out.trans (Kd.of_below hbv (lt_of_block HDn.out)))
        clear hbv
        go_wp2_with fail
        go_roundw
        case rel => exact ⟨k + 1, by go_num, by omega, HDv.out, by rw [HT.out]; exact HSv.out, HWv.out, HBv.out⟩
        case measure => simp [intOf] <;> omega
      have HT := Lib.hid (show setP (inK ks) 0 (CC.take (k + 1)) SS = T.set j s by rw [HT0.out]; simp)
      clear HT0
      go_wp2_with fail
      clear x0 x1
      refine (HAL.out _ HMn.out HSTn.out).mono ?_
      rintro e v ⟨rfl, hbv⟩
      have HGo := HG
      have HG := Lib.hid (blk_below HG.out hbv)
      have HB1 := Lib.hid (HB1.out.trans (Kd.of_below hbv (lt_of_block HDn.out)))
      have HDn := Lib.hid (blk_below HDn.out hbv)
      have HXn := Lib.hid (blk_below HXn.out hbv)
      have HSn := Lib.hid (HSn.out.kept hbv)
      have HWn := Lib.hid (HWn.out.kept hbv)
      have hcn : v.cell? ⟨g, j, none⟩ = some (.string o) := by rw [hbv.cell (p := ⟨g, j, none⟩) (lt_of_block HGo.out)]; exact hcn
      have hvs : wr.heap.size < v.heap.size := lt_of_block HXn.out
      clear hbv
      go_upto_region 4 with (fail)
      have hnw : ¬ wr.heap.size = g := by omega
      have y0 : v.drew.cell? ⟨D, 0, none⟩ = some (.slice (some ⟨g, 0, none⟩) sn sc) := (dk_cells (show v.drew.heap[D]? = _ from HDn.out)).1
      have y1 : v.drew.cell? ⟨wr.heap.size, 0, none⟩ = some (.int .i64 (j : Int)) := (cell_of_row _ _ _ _ _ _ (show v.drew.heap[wr.heap.size]? = _ from HXn.out)).trans rfl
      have y2 : v.drew.cell? ⟨wr.heap.size, 1, none⟩ = some (.string s) := (cell_of_row _ _ _ _ _ _ (show v.drew.heap[wr.heap.size]? = _ from HXn.out)).trans rfl
      have y3 : v.drew.cell? ⟨g, j, none⟩ = some (.string o) := hcn
      have f3 : v.drew.frozen? ⟨g, j, none⟩ = false := frozen_of_row _ _ _ _ _ (show v.drew.heap[g]? = _ from HG.out)
      have HK := Lib.hid ((KK.refl [g] v.drew).set (b := g) (by simp) j (.string s))
      have HD9 := Lib.hid (HK.out.blk (show v.drew.heap[D]? = _ from HDn.out) (by simpa using hne))
      have HX9 := Lib.hid (HK.out.blk (show v.drew.heap[wr.heap.size]? = _ from HXn.out) (by simpa using hnw))
      have z0 := (dk_cells HD9.out).1
      have z1 := (cell_of_row _ _ 0 _ _ _ HX9.out).trans rfl
      have z2 := (cell_of_row _ _ 1 _ _ _ HX9.out).trans rfl
      go_region_held3 (fun w9 => w9.cell? ⟨D, 0, none⟩ = some (.slice (some ⟨g, 0, none⟩) sn sc) ∧ w9.cell? ⟨wr.heap.size, 0, none⟩ = some (.int .i64 (j : Int)) ∧ w9.cell? ⟨wr.heap.size, 1, none⟩ = some (.string s))
        (first | exact ⟨y0, y1, y2⟩ | exact ⟨z0, z1, z2⟩ | go_keep) (fail)
      all_goals
        have HS9 := Lib.hid (HSn.out.drew.setS (i := j) s)
        have HW9 := Lib.hid (HWn.out.drew.kkD HK.out (show v.drew.heap[g]? = _ from HG.out) (by decide))
        have HB9 := Lib.hid (HB1.out.trans (Kd.of_box (show KK [g] v _ from HK.out.drewl) (fun b hb => by obtain rfl : b = g := (by simpa using hb); exact InD.safe HDn.out) HDn.out HD9.out (fun b o e => by cases e; exact .inl (InD.safe HDn.out)) (fun b o e => by cases e; exact .inl (InD.cache HDn.out))))
        clear y0 y1 y2 y3 z0 z1 z2 f3
        go_wp2_with fail
        go_roundw
        case rel => exact ⟨k + 1, by go_num, by omega, HD9.out, by rw [HT.out]; exact HS9.out, HW9.out, HB9.out⟩
        case measure => simp [intOf] <;> omega
    · have hd1 : decide ((k : Int) < (CC.length : Int)) = false := decide_eq_false (by omega)
      have HE := Lib.hid (show CC.take k = CC from List.take_of_length_le (by omega))
      have f1 : wr.frozen? ⟨D, 1, none⟩ = false := frozen_of_row _ _ _ _ _ HD.out
      have y1 : wr.cell? ⟨D, 1, none⟩ = some (.slice ca CC.length cc) := (dk_cells HD.out).2.1
      go_wp2_with fail
      have HK := Lib.hid ((KK.refl [D] wr).set (b := D) (by simp) 1 (.slice none 0 0))
      have HR9 := Lib.hid (show (wr.setCell ⟨D, 1, none⟩ (.slice none 0 0)).heap[D]? = some (dkO sa sn sc none 0 0 true dn ops fu) from heap_setCell_at (i := 1) (u := .slice none 0 0) HD.out)
      have HO2 := Lib.hid (HS.out.kkD HK.out HD.out (by decide))
      have HB9 := Lib.hid (HB.out.trans (Kd.of_none HK.out HD.out HR9.out))
      refine bodyPost_end (results_none rfl _ _ _) rfl ?_
      exact ⟨rfl, ⟨⟨sa, sn, sc, none, 0, 0, HR9.out, by rw [← HE.out]; exact HO2.out, OwX.nil _⟩, fun x hx => by cases hx⟩, HB9.out⟩
end Go.Proofs.YtiflieaemgamkaaGreatDoor

namespace Go.Proofs.YtiflieaemgamkaaGreatDoor
open Go.RowKit Vi Go.WideMaps Go.Maps

def inC (n : Int) : List Value := [.int .i64 n]
theorem inC_len (n : Int) : (inC n).length = 1 := rfl
theorem DK.newB {D : Nat} {SS : List ByteArray} {CC : List Wr} {dn : Bool} {ops fu : Int} {w wr : World} (h : DK D SS CC dn ops fu w) (hb : Below w.heap.size w wr) {b : Nat} (q : InD D wr b) : b < w.heap.size := by
  have hD := h.lt
  refine h.new ?_
  rcases q with q | ⟨o, n, c, q⟩ | ⟨o, n, c, q⟩
  · exact .inl q
  · exact .inr (.inl ⟨o, n, c, by rw [← hb.cell (p := ⟨D, 0, none⟩) hD]; exact q⟩)
  · exact .inr (.inr ⟨o, n, c, by rw [← hb.cell (p := ⟨D, 1, none⟩) hD]; exact q⟩)
set_option maxRecDepth 100000 in
set_option maxHeartbeats 2000000 in
theorem dcrash_any (D : Nat) (SS : List ByteArray) (CC : List Wr) (dn : Bool) (ops fu : Int) (A : Option Addr) (n c : Nat) (ks : List Int) (w : World) (h : DK D SS CC dn ops fu w) (hr : RdX inC 1 w A n ks) (hk : ∀ x ∈ ks, (Lit.int .i64 x).wf = true) (hn : n ≤ maxLen) (hl : CC.length ≤ 1000000) :
    Calls Tryz.prog 23 #[.pointer (some ⟨D, 0, none⟩), .slice A n c] w fun e w' => e = .returned (.int .i64 0) ∧ DK D (setP (inK ks) 0 CC SS) [] true ops 0 w' ∧ Kd D w w' := by
  have hn1 : n ≤ 9223372036854775807 := Nat.le_trans hn (by decide)
  clear hn
  have HM := Lib.hid h.made
  have HD := Lib.hid h
  have HR := Lib.hid hr
  have HW := Lib.hid hk
  have hmm := fun W : World => run_makeMap (P := Tryz.prog) 114 W
  obtain ⟨o1, ho1⟩ : ∃ o : Obj, o = .cells #[.map (some w.heap.size)] 114 (0, 0) := ⟨_, rfl⟩
  have HB0 := Lib.hid (((Below.refl w.heap.size w).alloc (Nat.le_refl _) (.map #[] 0)).alloc (by simp) o1)
  have HM0 : Hid (((w.alloc (.map #[] 0)).alloc o1).heap[w.heap.size + 1]? = some o1) := Lib.hid (two_blk w (.map #[] 0) o1)
  have HS0 : Hid (SetI ((w.alloc (.map #[] 0)).alloc o1) w.heap.size []) := Lib.hid ((SetI.made w).kept (blk_alloc (MapKept.heap_alloc w (.map #[] 0)).1 o1 |>.trans (MapKept.heap_alloc w (.map #[] 0)).1.symm))
  clear h hr hk
  subst ho1
  go_enter Tryz.func23, Tryz.ntmps23
  go_wp2_with fail
  refine HM.out.mono ?_
  rintro e w' ⟨rfl, rfl⟩
  go_wp2_with fail
  clear hmm
  go_loopw [7, 14] (fun _ i wr => ∃ k : Nat, i = .int .i64 (k : Int) ∧ k ≤ n ∧ SetI wr w.heap.size (ks.take k) ∧ wr.heap[w.heap.size + 1]? = some (.cells #[.map (some w.heap.size)] 114 (0, 0)) ∧ Below w.heap.size w wr) (fun _ i _ => n - (intOf i).toNat)
  case atStart => exact ⟨0, rfl, Nat.zero_le _, by simpa using HS0.out, HM0.out, HB0.out⟩
  case round =>
    obtain ⟨k, rfl, hk, hs, hm, hb⟩ := hrel
    have HS := Lib.hid hs
    have HMb := Lib.hid hm
    have HB := Lib.hid hb
    clear hs hm hb
    by_cases hlt : k < n
    · have hd1 : decide ((k : Int) < (n : Int)) = true := decide_eq_true (by omega)
      have hi0 : (0 : Int) ≤ (k : Int) := by omega
      obtain ⟨b, off, hl2, rfl, hbb, hcell⟩ := (HR.out.below HB.out).at hlt
      have c0 := hcell 0 (.int .i64 ks[k]) rfl
      rw [Nat.mul_one, Nat.add_zero] at c0
      have HT := Lib.hid (show ks.take (k + 1) = ks.take k ++ [ks[k]] from List.take_succ_eq_append_getElem hl2)
      have hwf := HW.out ks[k] (List.getElem_mem hl2)
      obtain ⟨x, hx⟩ : ∃ x, x = ks[k] := ⟨_, rfl⟩
      rw [← hx] at c0 HT hwf
      obtain ⟨W2, hrun, hs2, hg2⟩ := HS.out.put x hwf (by rw [List.length_take]; unfold maxLen; omega)
      have HS2 := Lib.hid hs2
      have HB2 := Lib.hid (HB.out.grown hg2 HB.out.size (fun k e => by cases e; exact Nat.le_refl _))
      have HM2 : Hid (W2.heap[w.heap.size + 1]? = some (.cells #[.map (some w.heap.size)] 114 (0, 0))) := Lib.hid ((hg2.block _ (lt_of_block HMb.out) (fun e => by injection e with e; omega)).trans HMb.out)
      have m0 : wr.cell? ⟨w.heap.size + 1, 0, none⟩ = some (.map (some w.heap.size)) := (cell_of_row _ _ 0 _ _ _ HMb.out).trans rfl
      clear hcell hs2 hg2 hx hwf
      go_wp2_with fail
      go_roundw
      case rel => exact ⟨k + 1, by go_num, by omega, by rw [HT.out]; exact HS2.out, HM2.out, HB2.out⟩
      case measure => simp [intOf] <;> omega
    · have hd1 : decide ((k : Int) < (n : Int)) = false := decide_eq_false (by omega)
      have HE := Lib.hid (show ks.take k = ks from List.take_of_length_le (by have := HR.out.1; omega))
      have HDr := Lib.hid (HD.out.kept HB.out)
      have HSr : Hid (SetI wr w.heap.size ks) := Lib.hid (by rw [← HE.out]; exact HS.out)
      have HST := Lib.hid (dsettle_map D (w.heap.size + 1) w.heap.size ks SS CC dn ops fu wr HDr.out HMb.out HSr.out (fun q => by have := HD.out.newB HB.out q; omega) (fun q => by have := HD.out.newB HB.out q; omega) hl)
      go_wp2_with fail
      refine HST.out.mono ?_
      rintro e w1 ⟨rfl, hd, hk1⟩
      have HK1 := Lib.hid ((Kd.of_below HB.out HD.out.lt).trans hk1)
      obtain ⟨⟨sa, sn, sc, ca, cn, cc, h1, h2, h3⟩, h4⟩ := hd
      have HT := Lib.hid (dturn_any D sa sn sc ca cn cc true dn ops fu true w1 h1)
      have H1 := Lib.hid h1
      have H2 := Lib.hid h2
      have H3 := Lib.hid h3
      clear hk1 h1 h2 h3 h4
      go_wp2_with fail
      refine HT.out.mono ?_
      rintro e w2 ⟨rfl, hb, hk⟩
      have HB9 := Lib.hid hb
      have HK2 := Lib.hid hk
      have HO2 := Lib.hid (H2.out.kkD hk H1.out (by decide))
      have HO3 := Lib.hid (H3.out.kkD hk H1.out (by decide))
      clear hb hk
      go_wp2_with fail
      go_ret
      exact ⟨rfl, ⟨⟨sa, sn, sc, ca, cn, cc, HB9.out, HO2.out, HO3.out⟩, fun x hx => by cases hx⟩, HK1.out.trans (Kd.of_same HK2.out H1.out HB9.out)⟩
end Go.Proofs.YtiflieaemgamkaaGreatDoor

namespace Go.Proofs.YtiflieaemgamkaaGreatDoor
open Go.RowKit

theorem flat_inv {α : Type} {f : α → List Value} {s : Nat} (hf : ∀ x, (f x).length = s) (hs0 : 0 < s) (l : List α) (j : Nat) (u : Value) (h : (flat f l)[j]? = some u) : ∃ (k r : Nat) (x : α), j = k * s + r ∧ l[k]? = some x ∧ (f x)[r]? = some u := by
  have hj := (List.getElem?_eq_some_iff.1 h).1
  rw [flat_len hf] at hj
  have hk : j / s < l.length := (Nat.div_lt_iff_lt_mul hs0).2 hj
  have hr : j % s < s := Nat.mod_lt _ hs0
  have hx : l[j / s]? = some l[j / s] := List.getElem?_eq_getElem hk
  have hu : (f l[j / s])[j % s]? = some ((f l[j / s])[j % s]'(by rw [hf]; exact hr)) := List.getElem?_eq_getElem _
  have e : j / s * s + j % s = j := by rw [Nat.mul_comm]; exact Nat.div_add_mod j s
  have hg := flat_get hf l (j / s) (j % s) _ _ hx hu
  rw [e, h] at hg
  exact ⟨j / s, j % s, _, e.symm, hx, by rw [hu]; exact hg.symm⟩
theorem run_appNil {α : Type} {f : α → List Value} {s : Nat} {w : World} {t e : TypeId} {z : Value} {bytes : Nat} (hu : Tryz.prog.underlying t = some (.slice e)) (hinfo : (Tryz.prog.info? e).map (fun i => (i.zero, i.size, i.bytes)) = some (some z, s, bytes))
    (ty : TypeId) (B : Nat) (v : Value) (l : List α) (hown : OwX f s e w B v l) (c : Nat) :
    (Builtin.append_ #[t, t] ty #[v, .slice none 0 c]).run Tryz.prog w = .ok v w := by
  obtain ⟨i0, hi, _, hz1, _⟩ := info_parts hinfo
  have hu' := run_underlying (P := Tryz.prog) hu
  rcases hown.2 with ⟨rfl, h0⟩ | ⟨g, cap, cur, rfl, _, _, hnc, _⟩
  · simp [Builtin.append_, hu', sizeOf, typeInfo, hi, Builtin.lenOf, Builtin.firstCells]
  · simp [Builtin.append_, hu', sizeOf, typeInfo, hi, Builtin.lenOf, Builtin.firstCells, hnc, storeCells]
theorem run_appXs {α : Type} {f : α → List Value} {s : Nat} {w : World} {t e : TypeId} {z : Value} {bytes : Nat} (hu : Tryz.prog.underlying t = some (.slice e)) (hinfo : (Tryz.prog.info? e).map (fun i => (i.zero, i.size, i.bytes)) = some (some z, s, bytes)) (hz : z.cells.size = s) (hs0 : 0 < s) (hby : bytes ≤ 100)
    (hf : ∀ x, (f x).length = s) (h1 : ∀ x, ∀ u ∈ f x, u.oneCell' = true) (ty : TypeId) (B : Nat) (v : Value) (l : List α) (hown : OwX f s e w B v l)
    (A : Option Addr) (m c : Nat) (ys : List α) (hr : RdX f s w A m ys) (hm : l.length + m ≤ 1000000) (hbase : B ≤ w.heap.size) :
    ∃ v' w', (Builtin.append_ #[t, t] ty #[v, .slice A m c]).run Tryz.prog w = .ok v' w' ∧ OwX f s e w' B v' (l ++ ys) ∧ w.grownBy w' v.ownBlock := by
  have hl := hr.1
  rcases A with _ | ad
  · have h0 : m = 0 := by
      rcases Nat.eq_zero_or_pos m with h0 | h0
      · exact h0
      · obtain ⟨b, off, e, _⟩ := hr.2 h0
        cases e
    subst h0
    have e0 : ys = [] := List.length_eq_zero_iff.1 hl
    subst e0
    exact ⟨v, w, run_appNil hu hinfo ty B v l hown c, by rw [List.append_nil]; exact hown, World.grownBy.refl w _⟩
  · obtain ⟨i0, hi, hz0, hz1, hz2⟩ := info_parts hinfo
    have hmul : (l.length + m) * bytes ≤ 1000000 * 100 := Nat.mul_le_mul hm hby
    have hcells : ∀ j u, (flat f ys)[j]? = some u → w.cell? (ad.add j) = some u := by
      intro j u hj
      obtain ⟨k, r, x, rfl, hx, hu2⟩ := flat_inv hf hs0 ys j u hj
      have hk := (List.getElem?_eq_some_iff.1 hx).1
      obtain ⟨b, off, e1, _, hc⟩ := hr.2 (by omega)
      cases e1
      rw [Addr.add_lit]
      have := hc k x r u hx hu2
      rwa [Nat.add_assoc] at this
    obtain ⟨v', w', hrun, h2, h3, _, _⟩ := run_append_own_at (P := Tryz.prog) w B t ty e i0 z s bytes hu hi hz0 hz1 hz2 hz hs0 v l.length (flat f l) hown ad m c (flat f ys)
      (by rw [flat_len hf, hl]) hcells (fun u hu2 => by
        unfold flat at hu2
        obtain ⟨x, _, hx⟩ := List.mem_flatMap.1 hu2
        exact h1 x u hx) (by unfold maxLen; omega) (by omega) hbase
    refine ⟨v', w', hrun, ?_, h3⟩
    unfold OwX
    rw [List.length_append, flat_app, hl]
    exact h2
theorem wpList_appXs {α : Type} {f : α → List Value} {s : Nat} {ops : Array Oper} {rest : List Oper} {o : Oper} {a : Act} {Q : Exit → Act → World → Prop} {w : World} (hgd : o.guard = none) (sl xo : Operand) (t e : TypeId) (z : Value) (bytes : Nat)
    (ho : o.op = .call { callee := .builtin .append, args := #[sl, xo], argTypes := #[t, t] })
    (hu : Tryz.prog.underlying t = some (.slice e)) (hinfo : (Tryz.prog.info? e).map (fun i => (i.zero, i.size, i.bytes)) = some (some z, s, bytes)) (hz : z.cells.size = s) (hs0 : 0 < s) (hby : bytes ≤ 100)
    (hf : ∀ x, (f x).length = s) (h1 : ∀ x, ∀ u ∈ f x, u.oneCell' = true)
    (B : Nat) (w0 : World) (hb : Below B w0 w) (hB : B ≤ w.heap.size) (v : Value) (l : List α) (hs : a.eval sl = v) (hown : OwX f s e w B v l)
    (A : Option Addr) (m c : Nat) (ys : List α) (hx : a.eval xo = .slice A m c) (hr : RdX f s w A m ys) (hm : l.length + m ≤ 1000000)
    (h : ∀ v' w', Hid (OwX f s e w' B v' (l ++ ys)) → Hid (Below B w0 w') → Hid (B ≤ w'.heap.size) → Hid (w.grownBy w' v.ownBlock) → wpList Tryz.prog ops Q rest (a.put o.dst v') w') : wpList Tryz.prog ops Q (o :: rest) a w := by
  refine wpList_plain hgd fun K hK => ?_
  obtain ⟨v', w', hrun, h2, h3⟩ := run_appXs hu hinfo hz hs0 hby hf h1 o.type B v l hown A m c ys hr hm hB
  unfold Oper.wp execOp
  simp only [ho, resolve, invoke, builtin, Sem.run_bind, Sem.run_pure, Result.andThen_ok, List.map_toArray, List.map_cons, List.map_nil, hs, hx, hrun]
  exact hK _ _ (h v' w' h2 (hb.grown h3 hB (fun k hk => (World.ownsRow.lt hown k hk).1)) (Nat.le_trans hB h3.size) h3)
theorem step_appXs {α : Type} {f : α → List Value} {s : Nat} {ops : Array Oper} {o : Oper} {a : Act} {K : Act → World → Prop} {Q : Exit → Act → World → Prop} {E : Prop} {w : World} (hgd : o.guard = none) (sl xo : Operand) (t e : TypeId) (z : Value) (bytes : Nat)
    (ho : o.op = .call { callee := .builtin .append, args := #[sl, xo], argTypes := #[t, t] })
    (hu : Tryz.prog.underlying t = some (.slice e)) (hinfo : (Tryz.prog.info? e).map (fun i => (i.zero, i.size, i.bytes)) = some (some z, s, bytes)) (hz : z.cells.size = s) (hs0 : 0 < s) (hby : bytes ≤ 100)
    (hf : ∀ x, (f x).length = s) (h1 : ∀ x, ∀ u ∈ f x, u.oneCell' = true)
    (B : Nat) (w0 : World) (hb : Below B w0 w) (hB : B ≤ w.heap.size) (v : Value) (l : List α) (hs : a.eval sl = v) (hown : OwX f s e w B v l)
    (A : Option Addr) (m c : Nat) (ys : List α) (hx : a.eval xo = .slice A m c) (hr : RdX f s w A m ys) (hm : l.length + m ≤ 1000000)
    (h : ∀ v' w', Hid (OwX f s e w' B v' (l ++ ys)) → Hid (Below B w0 w') → Hid (B ≤ w'.heap.size) → Hid (w.grownBy w' v.ownBlock) → K (a.put o.dst v') w') :
    if Region.wanted o (yielded ops a.tmps) = true then Oper.wp Tryz.prog o a w K Q else E := by
  have hw : Region.wanted o (yielded ops a.tmps) = true := by simp [Region.wanted, hgd]
  rw [if_pos hw]
  obtain ⟨v', w', hrun, h2, h3⟩ := run_appXs hu hinfo hz hs0 hby hf h1 o.type B v l hown A m c ys hr hm hB
  unfold Oper.wp execOp
  simp only [ho, resolve, invoke, builtin, Sem.run_bind, Sem.run_pure, Result.andThen_ok, List.map_toArray, List.map_cons, List.map_nil, hs, hx, hrun]
  exact h v' w' h2 (hb.grown h3 hB (fun k hk => (World.ownsRow.lt hown k hk).1)) (Nat.le_trans hB h3.size) h3
theorem OwX.zero {α : Type} {f : α → List Value} {s : Nat} {T : TypeId} {W : World} {p B c : Nat} {cs : Array Value} (h : W.heap[p]? = some (.cells cs T (0, 0))) (hB : B ≤ p) (hc : c ≤ maxLen) (hz : cs.size = c * s) : OwX f s T W B (.slice (some ⟨p, 0, none⟩) 0 c) [] :=
  ⟨by simp [flat], .inr ⟨p, c, cs, rfl, hB, h, Nat.zero_le _, hc, hz, by simp [flat]⟩⟩
theorem RdX.take {α : Type} {f : α → List Value} {s : Nat} {w : World} {A : Option Addr} {n : Nat} {l : List α} (h : RdX f s w A n l) (k : Nat) (hk : k ≤ n) : RdX f s w A k (l.take k) :=
  ⟨by rw [List.length_take, h.1]; omega, fun hp => by
    obtain ⟨b, off, e, hlt, hc⟩ := h.2 (by omega)
    refine ⟨b, off, e, hlt, fun i x j u hx hu => hc i x j u ?_ hu⟩
    rw [List.getElem?_take] at hx
    split at hx
    · exact hx
    · cases hx⟩
/-- the address at which a slice that is cut at its front begins -/
def cutX (s : Nat) (A : Option Addr) (c k : Nat) : Option Addr := if c = k then A else A.map (·.add (k * s))
theorem RdX.drop {α : Type} {f : α → List Value} {s : Nat} {w : World} {A : Option Addr} {n c : Nat} {l : List α} (h : RdX f s w A n l) (k : Nat) (hk : k ≤ n) (hc : n ≤ c) : RdX f s w (cutX s A c k) (n - k) (l.drop k) :=
  ⟨by rw [List.length_drop, h.1], fun hp => by
    obtain ⟨b, off, e, hlt, hcl⟩ := h.2 (by omega)
    subst e
    refine ⟨b, off + k * s, ?_, hlt, fun i x j u hx hu => ?_⟩
    · unfold cutX
      rw [if_neg (by omega)]
      show some (Addr.add ⟨b, off, none⟩ (k * s)) = _
      rw [Addr.add_lit]
    · rw [List.getElem?_drop] at hx
      have := hcl (k + i) x j u hx hu
      rw [Nat.add_mul, ← Nat.add_assoc off] at this
      exact this⟩
end Go.Proofs.YtiflieaemgamkaaGreatDoor

namespace Go.Proofs.YtiflieaemgamkaaGreatDoor
open Go.RowKit Vi

/-- a row of the call's own is handed back -/
def OwnL {α : Type} (f : α → List Value) (s : Nat) (T : TypeId) (w : World) (L : List α) (e : Ending) (w' : World) : Prop := ∃ v, e = .returned v ∧ OwX f s T w' w.heap.size v L ∧ Below w.heap.size w w'
set_option maxRecDepth 100000 in
set_option maxHeartbeats 800000 in
theorem dclone_st (A : Option Addr) (n c : Nat) (l : List ByteArray) (w : World) (h : RdX stC 1 w A n l) (hn : n ≤ 100000) :
    Calls Tryz.prog 70 #[.slice A n c] w (OwnL stC 1 9 w l) := by
  have q24 : ∀ (w : World) (a : Option Addr) (n c n' c' : Nat), (binOp .eql 30 (.slice a n c) (.slice none n' c')).run Tryz.prog w = .ok (.bool a.isNone) w := fun w a n c n' c' => Lib.run_eql_slice_nil w _ _ a n c n' c' Tryz.underlying30
  have H := Lib.hid h
  rcases A with _ | ad
  · have h0 : l = [] := by
      rcases Nat.eq_zero_or_pos n with h0 | h0
      · exact List.length_eq_zero_iff.1 (by rw [h.1]; exact h0)
      · obtain ⟨b, off, e, _⟩ := h.2 h0
        cases e
    subst h0
    clear h
    go_enter Tryz.func70, Tryz.ntmps70
    go_wp2
    go_ret
    exact ⟨_, rfl, OwX.nil w, Below.refl _ _⟩
  · clear h
    go_enter Tryz.func70, Tryz.ntmps70
    go_wp2_with (at_builtin; refine wpList_appXs rfl _ _ 30 9 _ 16 rfl Tryz.underlying30 info_stA rfl (by omega) (by omega) stC_len stC_one w.heap.size w ((Below.refl _ w).alloc (Nat.le_refl _) _) (by simp) _ [] rfl (OwX.zero (blk_new w _) (Nat.le_refl _) (Nat.zero_le _) rfl) (some ad) n c l rfl (H.out.below ((Below.refl _ w).alloc (Nat.le_refl _) _)) (by simp; omega) ?_)
    intro v1 w1 HO HB HZ HG
    have hv1 := HO.out.one
    go_wp2_with fail
    go_ret
    exact ⟨v1, rfl, HO.out, HB.out⟩
set_option maxRecDepth 100000 in
set_option maxHeartbeats 800000 in
theorem dclone_wr (A : Option Addr) (n c : Nat) (l : List Wr) (w : World) (h : RdX wrC 2 w A n l) (hn : n ≤ 100000) :
    Calls Tryz.prog 85 #[.slice A n c] w (OwnL wrC 2 102 w l) := by
  have q24 : ∀ (w : World) (a : Option Addr) (n c n' c' : Nat), (binOp .eql 31 (.slice a n c) (.slice none n' c')).run Tryz.prog w = .ok (.bool a.isNone) w := fun w a n c n' c' => Lib.run_eql_slice_nil w _ _ a n c n' c' Tryz.underlying31
  have H := Lib.hid h
  rcases A with _ | ad
  · have h0 : l = [] := by
      rcases Nat.eq_zero_or_pos n with h0 | h0
      · exact List.length_eq_zero_iff.1 (by rw [h.1]; exact h0)
      · obtain ⟨b, off, e, _⟩ := h.2 h0
        cases e
    subst h0
    clear h
    go_enter Tryz.func85, Tryz.ntmps85
    go_wp2
    go_ret
    exact ⟨_, rfl, OwX.nil w, Below.refl _ _⟩
  · clear h
    go_enter Tryz.func85, Tryz.ntmps85
    go_wp2_with (at_builtin; refine wpList_appXs rfl _ _ 31 102 _ 24 rfl Tryz.underlying31 info_wrB rfl (by omega) (by omega) wrC_len wrC_one w.heap.size w ((Below.refl _ w).alloc (Nat.le_refl _) _) (by simp) _ [] rfl (OwX.zero (blk_new w _) (Nat.le_refl _) (Nat.zero_le _) rfl) (some ad) n c l rfl (H.out.below ((Below.refl _ w).alloc (Nat.le_refl _) _)) (by simp; omega) ?_)
    intro v1 w1 HO HB HZ HG
    have hv1 := HO.out.one
    go_wp2_with fail
    go_ret
    exact ⟨v1, rfl, HO.out, HB.out⟩
/-- what a copy of an image is -/
def CpP (SS : List ByteArray) (CC : List Wr) (w : World) (e : Ending) (w' : World) : Prop := ∃ A n c A2 n2 c2, e = .returned (.agg #[.slice A n c, .slice A2 n2 c2]) ∧ OwX stC 1 9 w' w.heap.size (.slice A n c) SS ∧ OwX wrC 2 102 w' w.heap.size (.slice A2 n2 c2) CC ∧ Below w.heap.size w w'
theorem info_img : (Tryz.prog.info? 86).map (·.size) = some 2 := by kernel_rfl
set_option maxRecDepth 100000 in
set_option maxHeartbeats 4000000 in
theorem dcopy_any (D : Nat) (sa : Option Addr) (sn sc : Nat) (ca : Option Addr) (cn cc : Nat) (SS : List ByteArray) (CC : List Wr) (w : World) (d0 : w.cell? ⟨D, 0, none⟩ = some (.slice sa sn sc)) (d1 : w.cell? ⟨D, 1, none⟩ = some (.slice ca cn cc)) (h2 : RdX stC 1 w sa sn SS) (h3 : RdX wrC 2 w ca cn CC) (hs : sn ≤ 100000) (hc : cn ≤ 100000) :
    Calls Tryz.prog 40 #[.pointer (some ⟨D, 0, none⟩)] w (CpP SS CC w) := by
  have hDl : D < w.heap.size := World.block_lt_of_cell? w _ d0
  have HB0 := Lib.hid ((Below.refl w.heap.size w).alloc (Nat.le_refl _) (.cells #[.slice none 0 0, .slice none 0 0] 86 (0, 0)))
  have HR0 := Lib.hid (blk_new w (.cells #[.slice none 0 0, .slice none 0 0] 86 (0, 0)))
  have H20 := Lib.hid (h2.below HB0.out)
  have H30 := Lib.hid (h3.below HB0.out)
  have HD0 : Hid ((w.alloc (.cells #[.slice none 0 0, .slice none 0 0] 86 (0, 0))).cell? ⟨D, 0, none⟩ = some (.slice sa sn sc)) := Lib.hid ((HB0.out.cell (p := ⟨D, 0, none⟩) hDl).trans d0)
  have HD1 : Hid ((w.alloc (.cells #[.slice none 0 0, .slice none 0 0] 86 (0, 0))).cell? ⟨D, 1, none⟩ = some (.slice ca cn cc)) := Lib.hid ((HB0.out.cell (p := ⟨D, 1, none⟩) hDl).trans d1)
  clear d0 d1 h2 h3
  go_enter Tryz.func40, Tryz.ntmps40
  go_upto_region 1 with (fail)
  obtain ⟨v, hv⟩ : ∃ v, v = w.alloc (.cells #[.slice none 0 0, .slice none 0 0] 86 (0, 0)) := ⟨_, rfl⟩
  rw [← hv] at HB0 HR0 H20 H30 HD0 HD1
  rw [← hv]
  clear hv
  refine wp_region_L_drew (S := fun _ W => W.cell? ⟨D, 0, none⟩ = some (.slice sa sn sc) ∧ W.cell? ⟨D, 1, none⟩ = some (.slice ca cn cc)) (by kernel_rfl) ⟨HD0.out, HD1.out⟩ (fun hS hC => ?_)
  refine wpAnyL_take (i := 0) (oi := { dst := some 3, op := .move (.tmp 0), type := _, pos := _, after := _, guard := none }) (v := ?_) rfl (by kernel_rfl) (by kernel_rfl) (by kernel_rfl) (fun _ _ _ h => h) (fun _ _ => Iff.rfl) hC (Or.inl ⟨by rfl, ?_⟩) hS (fun hC hS => ?_)
  rotate_left
  · intro W9 hSw; skip; go_simp; try (with_reducible rfl)
  try simp only [Act.put, List.setIfInBounds_toArray, List.set_cons_zero, List.set_cons_succ]
  refine wpAnyL_take (i := 1) (oi := { dst := some 4, op := .nilCheck (.tmp 3), type := _, pos := _, after := _, guard := none }) (v := ?_) rfl (by kernel_rfl) (by kernel_rfl) (by kernel_rfl) (fun _ _ _ h => h) (fun _ _ => Iff.rfl) hC (Or.inl ⟨by rfl, ?_⟩) hS (fun hC hS => ?_)
  rotate_left
  · intro W9 hSw; skip; go_simp; try (with_reducible rfl)
  try simp only [Act.put, List.setIfInBounds_toArray, List.set_cons_zero, List.set_cons_succ]
  refine wpAnyL_take (i := 2) (oi := { dst := some 5, op := .fieldAddr 86 (.tmp 4) 0, type := _, pos := _, after := _, guard := none }) (v := ?_) rfl (by kernel_rfl) (by kernel_rfl) (by kernel_rfl) (fun _ _ _ h => h) (fun _ _ => Iff.rfl) hC (Or.inl ⟨by rfl, ?_⟩) hS (fun hC hS => ?_)
  rotate_left
  · intro W9 hSw; skip; go_simp; try (with_reducible rfl)
  try simp only [Act.put, List.setIfInBounds_toArray, List.set_cons_zero, List.set_cons_succ]
  refine wpAnyL_take (i := 3) (oi := { dst := some 6, op := .load 30 (.tmp 5), type := _, pos := _, after := _, guard := none }) (v := ?_) rfl (by kernel_rfl) (by kernel_rfl) (by kernel_rfl) (fun _ _ _ h => h) (fun _ _ => Iff.rfl) hC (Or.inl ⟨by rfl, ?_⟩) hS (fun hC hS => ?_)
  rotate_left
  · intro W9 hSw; obtain ⟨_, _, _, q0, _⟩ := hSw; go_simp; try (with_reducible rfl)
  try simp only [Act.put, List.setIfInBounds_toArray, List.set_cons_zero, List.set_cons_succ]
  refine wpAnyL_take (i := 5) (oi := { dst := some 8, op := .move (.tmp 0), type := _, pos := _, after := _, guard := none }) (v := ?_) rfl (by kernel_rfl) (by kernel_rfl) (by kernel_rfl) (fun _ _ _ h => h) (fun _ _ => Iff.rfl) hC (Or.inl ⟨by rfl, ?_⟩) hS (fun hC hS => ?_)
  rotate_left
  · intro W9 hSw; skip; go_simp; try (with_reducible rfl)
  try simp only [Act.put, List.setIfInBounds_toArray, List.set_cons_zero, List.set_cons_succ]
  refine wpAnyL_take (i := 6) (oi := { dst := some 9, op := .nilCheck (.tmp 8), type := _, pos := _, after := _, guard := none }) (v := ?_) rfl (by kernel_rfl) (by kernel_rfl) (by kernel_rfl) (fun _ _ _ h => h) (fun _ _ => Iff.rfl) hC (Or.inl ⟨by rfl, ?_⟩) hS (fun hC hS => ?_)
  rotate_left
  · intro W9 hSw; skip; go_simp; try (with_reducible rfl)
  try simp only [Act.put, List.setIfInBounds_toArray, List.set_cons_zero, List.set_cons_succ]
  refine wpAnyL_take (i := 7) (oi := { dst := some 10, op := .fieldAddr 86 (.tmp 9) 1, type := _, pos := _, after := _, guard := none }) (v := ?_) rfl (by kernel_rfl) (by kernel_rfl) (by kernel_rfl) (fun _ _ _ h => h) (fun _ _ => Iff.rfl) hC (Or.inl ⟨by rfl, ?_⟩) hS (fun hC hS => ?_)
  rotate_left
  · intro W9 hSw; skip; go_simp; try (with_reducible rfl)
  try simp only [Act.put, List.setIfInBounds_toArray, List.set_cons_zero, List.set_cons_succ]
  refine wpAnyL_take (i := 8) (oi := { dst := some 11, op := .load 31 (.tmp 10), type := _, pos := _, after := _, guard := none }) (v := ?_) rfl (by kernel_rfl) (by kernel_rfl) (by kernel_rfl) (fun _ _ _ h => h) (fun _ _ => Iff.rfl) hC (Or.inl ⟨by rfl, ?_⟩) hS (fun hC hS => ?_)
  rotate_left
  · intro W9 hSw; obtain ⟨_, _, _, _, q0⟩ := hSw; go_simp; try (with_reducible rfl)
  try simp only [Act.put, List.setIfInBounds_toArray, List.set_cons_zero, List.set_cons_succ]
  refine wpAnyL_ready (rs := [4]) (by kernel_rfl) (by simp) hC ?_
  refine AllReadyL.cons (o := { dst := some 7, op := .call { callee := .value (.func 70), args := #[.tmp 6], argTypes := #[30] }, type := _, pos := _, after := _, guard := none }) rfl (fun K9 hK => ?_) ?_
  · skip
    go_simp
    refine (dclone_st sa sn sc SS _ H20.out.drew hs).mono ?_
    rintro e w1 ⟨v1, rfl, ho1, hb1⟩
    have HB1 := Lib.hid (HB0.out.drew.trans (hb1.mono HB0.out.size))
    have HR1 := Lib.hid (blk_below (show v.drew.heap[w.heap.size]? = _ from HR0.out) hb1)
    have H31 := Lib.hid (H30.out.drew.below hb1)
    have HO1 := Lib.hid (ho1.mono (B' := w.heap.size) HB0.out.size)
    have HD01 : Hid (w1.cell? ⟨D, 0, none⟩ = some (.slice sa sn sc)) := Lib.hid ((hb1.cell (p := ⟨D, 0, none⟩) (by have := HB0.out.size; show D < v.heap.size; omega)).trans HD0.out)
    have HD11 : Hid (w1.cell? ⟨D, 1, none⟩ = some (.slice ca cn cc)) := Lib.hid ((hb1.cell (p := ⟨D, 1, none⟩) (by have := HB0.out.size; show D < v.heap.size; omega)).trans HD1.out)
    obtain ⟨A1, n1, c1, rfl⟩ := HO1.out.sl3
    clear ho1 hb1
    refine hK _ _ ⟨HD01.out, HD11.out⟩ (fun hC => ?_)
    clear hK K9
    try simp only [Act.put, List.setIfInBounds_toArray, List.set_cons_zero, List.set_cons_succ]
    refine wpAnyL_ready (rs := [9]) (by kernel_rfl) (by simp) hC ?_
    refine AllReadyL.cons (o := { dst := some 12, op := .call { callee := .value (.func 85), args := #[.tmp 11], argTypes := #[31] }, type := _, pos := _, after := _, guard := none }) rfl (fun K9 hK => ?_) ?_
    · skip
      go_simp
      refine (dclone_wr ca cn cc CC _ H31.out hc).mono ?_
      rintro e w2 ⟨v2, rfl, ho2, hb2⟩
      have HB2 := Lib.hid (HB1.out.trans (hb2.mono HB1.out.size))
      have HR2 := Lib.hid (blk_below HR1.out hb2)
      have HO12 := Lib.hid (HO1.out.kept hb2)
      have HO2 := Lib.hid (ho2.mono (B' := w.heap.size) HB1.out.size)
      have HD02 : Hid (w2.cell? ⟨D, 0, none⟩ = some (.slice sa sn sc)) := Lib.hid ((hb2.cell (p := ⟨D, 0, none⟩) (by have := HB1.out.size; show D < w1.heap.size; omega)).trans HD01.out)
      have HD12 : Hid (w2.cell? ⟨D, 1, none⟩ = some (.slice ca cn cc)) := Lib.hid ((hb2.cell (p := ⟨D, 1, none⟩) (by have := HB1.out.size; show D < w1.heap.size; omega)).trans HD11.out)
      obtain ⟨A2, n2, c2, rfl⟩ := HO2.out.sl3
      clear ho2 hb2
      refine hK _ _ ⟨HD02.out, HD12.out⟩ (fun hC => ?_)
      clear hK K9
      try simp only [Act.put, List.setIfInBounds_toArray, List.set_cons_zero, List.set_cons_succ]
      refine wpAnyL_take (i := 10) (oi := { dst := some 13, op := .build 86 #[(0, .tmp 7), (1, .tmp 12)], type := _, pos := _, after := _, guard := none }) (v := ?_) rfl (by kernel_rfl) (by kernel_rfl) (by kernel_rfl) (fun _ _ _ h => h) (fun _ _ => Iff.rfl) hC (Or.inl ⟨by rfl, ?_⟩) ⟨HD02.out, HD12.out⟩ (fun hC hS => ?_)
      rotate_left
      · intro W9 hSw; skip; go_simp; try (with_reducible rfl)
      try simp only [Act.put, List.setIfInBounds_toArray, List.set_cons_zero, List.set_cons_succ]
      refine wpAnyL_ready (rs := [11]) (by kernel_rfl) (by simp) hC ?_
      refine AllReadyL.cons (o := { dst := none, op := .store 86 (.tmp 2) (.tmp 13), type := _, pos := _, after := _, guard := none }) rfl (fun K9 hK => ?_) ?_
      · skip
        have y0 : w2.cell? ⟨w.heap.size, 0, none⟩ = some (.slice none 0 0) := (cell_of_row _ _ 0 _ _ _ HR2.out).trans rfl
        have y1 : w2.cell? ⟨w.heap.size, 1, none⟩ = some (.slice none 0 0) := (cell_of_row _ _ 1 _ _ _ HR2.out).trans rfl
        have f0 : w2.frozen? ⟨w.heap.size, 0, none⟩ = false := frozen_of_row _ _ _ _ _ HR2.out
        have f1 : w2.frozen? ⟨w.heap.size, 1, none⟩ = false := frozen_of_row _ _ _ _ _ HR2.out
        have hDn : ¬ D = w.heap.size := by omega
        go_simp
        have HK := Lib.hid (((KK.refl [w.heap.size] w2).set (b := w.heap.size) (by simp) 0 (.slice A1 n1 c1)).set (b := w.heap.size) (by simp) 1 (.slice A2 n2 c2))
        have HR3 := Lib.hid (show ((w2.setCell ⟨w.heap.size, 0, none⟩ (.slice A1 n1 c1)).setCell ⟨w.heap.size, 1, none⟩ (.slice A2 n2 c2)).heap[w.heap.size]? = some (.cells #[.slice A1 n1 c1, .slice A2 n2 c2] 86 (0, 0)) by have q := heap_setCell_at (i := 1) (u := .slice A2 n2 c2) (heap_setCell_at (i := 0) (u := .slice A1 n1 c1) HR2.out); exact q)
        have HO13 := Lib.hid (HO12.out.kkD HK.out HR2.out (by decide))
        have HO23 := Lib.hid (HO2.out.kkD HK.out HR2.out (by decide))
        have HB3 := Lib.hid (HK.out.below HB2.out (fun b hb => by obtain rfl : b = w.heap.size := (by simpa using hb); exact Nat.le_refl _) HB2.out.size)
        have z0 := (World.cell?_of_block (a := ⟨D, 0, none⟩) (HK.out.block D (by have := HB2.out.size; omega) (by simpa using hDn))).trans HD02.out
        have z1 := (World.cell?_of_block (a := ⟨D, 1, none⟩) (HK.out.block D (by have := HB2.out.size; omega) (by simpa using hDn))).trans HD12.out
        refine hK _ _ ⟨z0, z1⟩ (fun hC => ?_)
        clear hK K9
        try simp only [Act.put, List.setIfInBounds_toArray, List.set_cons_zero, List.set_cons_succ]
        refine wpAnyL_done (by kernel_rfl) ?_ _
        go_wp2_with fail
        refine bodyPost_ret (results_cY rfl _ _ w.heap.size #[.slice A1 n1 c1, .slice A2 n2 c2] rfl (run_loadVar_row _ w.heap.size 86 86 _ (0, 0) _ HR3.out Tryz.underlying86 rfl (by kernel_rfl))) rfl ?_
        exact ⟨A1, n1, c1, A2, n2, c2, rfl, HO13.out, HO23.out, HB3.out⟩
      exact AllReadyL.nil
    exact AllReadyL.nil
  exact AllReadyL.nil
end Go.Proofs.YtiflieaemgamkaaGreatDoor

namespace Go.Proofs.YtiflieaemgamkaaGreatDoor
open Go.RowKit Vi

set_option maxRecDepth 100000 in
set_option maxHeartbeats 2000000 in
theorem dseize_any (D : Nat) (SS : List ByteArray) (CC : List Wr) (dn : Bool) (ops fu : Int) (w : World) (h : DK D SS CC dn ops fu w) (hs : SS.length ≤ 100000) (hc : CC.length ≤ 100000) :
    Calls Tryz.prog 9 #[.pointer (some ⟨D, 0, none⟩)] w (CpP SS CC w) := by
  obtain ⟨o1, ho1⟩ : ∃ o : Obj, o = .cells #[.slice none 0 0, .slice none 0 0] 33 (0, 0) := ⟨_, rfl⟩
  have HB0 := Lib.hid ((Below.refl w.heap.size w).alloc (Nat.le_refl _) o1)
  have HR0 := Lib.hid (blk_new w o1)
  have hd := h.kept HB0.out
  have HM := Lib.hid hd.made
  obtain ⟨⟨sa, sn, sc, ca, cn, cc, g1, g2, g3⟩, _⟩ := hd
  obtain ⟨A, c, e, r2, _, _⟩ := g2.rd stC_len
  injection e with e1 e2 e3
  subst e1 e2 e3
  obtain ⟨A2, c2, e, r3, _, _⟩ := g3.rd wrC_len
  injection e with e1 e2 e3
  subst e1 e2 e3
  have HC := Lib.hid (dcopy_any D _ _ _ _ _ _ SS CC _ (dk_cells g1).1 (dk_cells g1).2.1 r2 r3 hs hc)
  clear h g1 g2 g3 r2 r3
  subst ho1
  go_enter Tryz.func9, Tryz.ntmps9
  go_wp2_with fail
  refine HM.out.mono ?_
  rintro e w' ⟨rfl, rfl⟩
  go_wp2_with fail
  refine HC.out.mono ?_
  rintro e w2 ⟨B1, n1, k1, B2, n2, k2, rfl, ho1, ho2, hb⟩
  have HB2 := Lib.hid (HB0.out.trans (hb.mono HB0.out.size))
  have HO1 := Lib.hid (ho1.mono (B' := w.heap.size) HB0.out.size)
  have HO2 := Lib.hid (ho2.mono (B' := w.heap.size) HB0.out.size)
  have HR9 := Lib.hid (blk_below HR0.out hb)
  have y0 : (w2.alloc (.cells #[.slice B1 n1 k1, .slice B2 n2 k2] 86 (0, 0))).cell? ⟨w.heap.size, 0, none⟩ = some (.slice none 0 0) := (cell_of_row _ _ 0 _ _ _ (blk_alloc HR9.out _)).trans rfl
  have y1 : (w2.alloc (.cells #[.slice B1 n1 k1, .slice B2 n2 k2] 86 (0, 0))).cell? ⟨w.heap.size, 1, none⟩ = some (.slice none 0 0) := (cell_of_row _ _ 1 _ _ _ (blk_alloc HR9.out _)).trans rfl
  have f0 : (w2.alloc (.cells #[.slice B1 n1 k1, .slice B2 n2 k2] 86 (0, 0))).frozen? ⟨w.heap.size, 0, none⟩ = false := frozen_of_row _ _ _ _ _ (blk_alloc HR9.out _)
  have f1 : (w2.alloc (.cells #[.slice B1 n1 k1, .slice B2 n2 k2] 86 (0, 0))).frozen? ⟨w.heap.size, 1, none⟩ = false := frozen_of_row _ _ _ _ _ (blk_alloc HR9.out _)
  have y2 : w2.cell? ⟨w.heap.size, 0, none⟩ = some (.slice none 0 0) := (cell_of_row _ _ 0 _ _ _ HR9.out).trans rfl
  have y3 : w2.cell? ⟨w.heap.size, 1, none⟩ = some (.slice none 0 0) := (cell_of_row _ _ 1 _ _ _ HR9.out).trans rfl
  have f2 : w2.frozen? ⟨w.heap.size, 0, none⟩ = false := frozen_of_row _ _ _ _ _ HR9.out
  have f3 : w2.frozen? ⟨w.heap.size, 1, none⟩ = false := frozen_of_row _ _ _ _ _ HR9.out
  have hlt : w.heap.size < w2.heap.size := lt_of_block (blk_below HR0.out hb)
  have hne : ¬ w.heap.size = w2.heap.size := by omega
  clear ho1 ho2 hb
  go_wp2_with fail
  have HK := Lib.hid (((KK.refl [w.heap.size] w2).set (b := w.heap.size) (by simp) 0 (.slice B1 n1 k1)).set (b := w.heap.size) (by simp) 1 (.slice B2 n2 k2))
  have HR2 := Lib.hid (show ((w2.setCell ⟨w.heap.size, 0, none⟩ (.slice B1 n1 k1)).setCell ⟨w.heap.size, 1, none⟩ (.slice B2 n2 k2)).heap[w.heap.size]? = some (.cells #[.slice B1 n1 k1, .slice B2 n2 k2] 33 (0, 0)) by have q := heap_setCell_at (i := 1) (u := .slice B2 n2 k2) (heap_setCell_at (i := 0) (u := .slice B1 n1 k1) HR9.out); exact q)
  have HR3 := Lib.hid (blk_alloc HR2.out (.cells #[.slice B1 n1 k1, .slice B2 n2 k2] 86 (0, 0)))
  have HO13 := Lib.hid ((HO1.out.kkD HK.out HR9.out (by decide)).alloc (.cells #[.slice B1 n1 k1, .slice B2 n2 k2] 86 (0, 0)))
  have HO23 := Lib.hid ((HO2.out.kkD HK.out HR9.out (by decide)).alloc (.cells #[.slice B1 n1 k1, .slice B2 n2 k2] 86 (0, 0)))
  have HB4 := Lib.hid (HK.out.below HB2.out (fun b hb => by obtain rfl : b = w.heap.size := (by simpa using hb); exact Nat.le_refl _) HB2.out.size)
  have HB3 := Lib.hid (HB4.out.alloc HB4.out.size (.cells #[.slice B1 n1 k1, .slice B2 n2 k2] 86 (0, 0)))
  refine bodyPost_ret (results_cY rfl _ _ w.heap.size #[.slice B1 n1 k1, .slice B2 n2 k2] rfl (run_loadVar_row _ w.heap.size 33 33 _ (0, 0) _ HR3.out Tryz.underlying33 rfl (by kernel_rfl))) rfl ?_
  exact ⟨B1, n1, k1, B2, n2, k2, rfl, HO13.out, HO23.out, HB3.out⟩
end Go.Proofs.YtiflieaemgamkaaGreatDoor

namespace Go.Proofs.YtiflieaemgamkaaGreatDoor
open Go.RowKit Vi

/-- an index, or one below 0: is there one? -/
def IdxP (b : Bool) (w : World) (e : Ending) (w' : World) : Prop := ∃ r : Int, e = .returned (.int .i64 r) ∧ decide (0 ≤ r) = b ∧ Below w.heap.size w w'
def RetBl (b : Bool) (w : World) (e : Ending) (w' : World) : Prop := e = .returned (.bool b) ∧ Below w.heap.size w w'
/-- a text is no sector -/
def badS (s : ByteArray) : Bool := !decide (s.size = 128)
/-- a write may not be -/
def badW (n : Nat) (x : Wr) : Bool := dckE n x.1 x.2 != 0
theorem any_snocF {α : Type} (p : α → Bool) (l : List α) (k : Nat) (hk : k < l.length) : (l.take (k + 1)).any p = ((l.take k).any p || p l[k]) := by
  rw [List.take_succ_eq_append_getElem hk, List.any_append]
  simp
theorem any_at {α : Type} (p : α → Bool) (l : List α) (k : Nat) (hk : k < l.length) (h : p l[k] = true) : l.any p = true := List.any_eq_true.2 ⟨_, List.getElem_mem hk, h⟩
set_option maxRecDepth 100000 in
theorem mb1_any (s : ByteArray) (w : World) : Calls Tryz.prog 139 #[.string s] w fun e w' => e = .returned (.bool (badS s)) ∧ w = w' := by
  have H := dsec_any s w
  have HR := Lib.hid (show (!decide (s.size = 128)) = badS s from rfl)
  obtain ⟨b, hb⟩ : ∃ b, b = decide (s.size = 128) := ⟨_, rfl⟩
  rw [← hb] at H HR
  have H := Lib.hid H
  clear hb
  cases b
  all_goals
    go_enter Tryz.func139, Tryz.ntmps139
    go_wp2_with fail
    refine H.out.mono ?_
    rintro e w' ⟨rfl, rfl⟩
    go_wp2_with fail
    go_ret
    exact ⟨dk_retB HR.out, rfl⟩
set_option maxRecDepth 100000 in
theorem mb2_any (X Q : Nat) (sa : Option Addr) (sn sc : Nat) (x : Wr) (w : World) (hq : w.cell? ⟨Q, 0, none⟩ = some (.pointer (some ⟨X, 0, none⟩))) (hx : w.cell? ⟨X, 0, none⟩ = some (.slice sa sn sc)) :
    Calls Tryz.prog 141 #[.agg #[.int .i64 x.1, .string x.2], .pointer (some ⟨Q, 0, none⟩)] w (RetBl (badW sn x) w) := by
  obtain ⟨at0, s⟩ := x
  obtain ⟨o1, ho1⟩ : ∃ o : Obj, o = .cells #[.int .i64 at0, .string s] 102 (0, 0) := ⟨_, rfl⟩
  have HB0 := Lib.hid ((Below.refl w.heap.size w).alloc (Nat.le_refl _) o1)
  have q0 : (w.alloc o1).cell? ⟨Q, 0, none⟩ = some (.pointer (some ⟨X, 0, none⟩)) := (HB0.out.cell (p := ⟨Q, 0, none⟩) (World.block_lt_of_cell? w _ hq)).trans hq
  have x0 : (w.alloc o1).cell? ⟨X, 0, none⟩ = some (.slice sa sn sc) := (HB0.out.cell (p := ⟨X, 0, none⟩) (World.block_lt_of_cell? w _ hx)).trans hx
  have H := dcheck_any X sa sn sc at0 s _ x0
  have HR := Lib.hid (show (dckE sn at0 s != 0) = badW sn (at0, s) from rfl)
  obtain ⟨z, hz⟩ : ∃ z, z = dckE sn at0 s := ⟨_, rfl⟩
  rw [← hz] at H HR
  have H := Lib.hid H
  clear hz x0 hx
  subst ho1
  go_enter Tryz.func141, Tryz.ntmps141
  go_wp2_with fail
  refine H.out.mono ?_
  rintro e w' ⟨rfl, rfl⟩
  go_wp2_with fail
  go_ret
  exact ⟨dk_retB HR.out, HB0.out⟩
set_option maxRecDepth 100000 in
set_option maxHeartbeats 1000000 in
theorem dix_st (A : Option Addr) (n c : Nat) (l : List ByteArray) (w : World) (h : RdX stC 1 w A n l) (hn : n ≤ 100000) :
    Calls Tryz.prog 191 #[.slice A n c, .func (.func 139) #[] #[]] w (IdxP (l.any badS) w) := by
  have H := Lib.hid h
  clear h
  go_enter Tryz.func191, Tryz.ntmps191
  go_wp2_with fail
  go_loopw [5, 8] (fun _ i wr => ∃ k : Nat, i = .int .i64 (k : Int) ∧ k ≤ n ∧ Hid ((l.take k).any badS = false) ∧ Below w.heap.size w wr) (fun _ i _ => n - (intOf i).toNat)
  case atStart => exact ⟨0, rfl, Nat.zero_le _, Lib.hid rfl, Below.refl _ _⟩
  case round =>
    obtain ⟨k, rfl, hk, HN, hb⟩ := hrel
    have HB := Lib.hid hb
    clear hb
    by_cases hlt : k < n
    · have hd1 : decide ((k : Int) < (n : Int)) = true := decide_eq_true (by omega)
      have hi0 : (0 : Int) ≤ (k : Int) := by omega
      obtain ⟨b, off, hl2, rfl, hbb, hcell⟩ := (H.out.below HB.out).at hlt
      have HT := Lib.hid (any_snocF badS l k hl2)
      have HA := Lib.hid (any_at badS l k hl2)
      obtain ⟨x, hx⟩ : ∃ x, x = l[k] := ⟨_, rfl⟩
      rw [← hx] at HT HA
      have c0 := hcell 0 (.string l[k]) rfl
      rw [← hx, Nat.mul_one, Nat.add_zero] at c0
      clear hcell hx
      obtain ⟨z, hz⟩ : ∃ z, z = badS x := ⟨_, rfl⟩
      rw [← hz] at HT HA
      have HC := of_same (mb1_any x wr)
      rw [← hz] at HC
      have HC := Lib.hid HC
      clear hz
      go_wp2_with fail
      refine HC.out.mono ?_
      rintro e w1 ⟨rfl, hb1⟩
      have HB1 := Lib.hid (HB.out.trans (hb1.mono HB.out.size))
      clear hb1
      cases z with
      | true =>
        go_wp2_with fail
        go_ret
        exact ⟨(k : Int), rfl, by rw [HA.out (by first | rfl | trivial)]; exact decide_eq_true (by omega), HB1.out⟩
      | false =>
        go_wp2_with fail
        go_roundw
        case rel => exact ⟨k + 1, by go_num, by omega, Lib.hid (by rw [HT.out, HN.out]; rfl), HB1.out⟩
        case measure => simp [intOf] <;> omega
    · have hd1 : decide ((k : Int) < (n : Int)) = false := decide_eq_false (by omega)
      have HE := Lib.hid (show l.take k = l from List.take_of_length_le (by have := H.out.1; omega))
      go_wp2_with fail
      go_ret
      exact ⟨-1, rfl, by rw [← HE.out, HN.out]; rfl, HB.out⟩
set_option maxRecDepth 100000 in
theorem dix_stC (A : Option Addr) (n c : Nat) (l : List ByteArray) (w : World) (h : RdX stC 1 w A n l) (hn : n ≤ 100000) :
    Calls Tryz.prog 138 #[.slice A n c, .func (.func 139) #[] #[]] w (RetBl (l.any badS) w) := by
  have HC := Lib.hid (dix_st A n c l w h hn)
  clear h
  go_enter Tryz.func138, Tryz.ntmps138
  go_wp2_with fail
  refine HC.out.mono ?_
  rintro e w1 ⟨r, rfl, hr, hb1⟩
  have HB1 := Lib.hid hb1
  have HR := Lib.hid hr
  clear hb1 hr
  go_wp2_with fail
  go_ret
  exact ⟨dk_retB HR.out, HB1.out⟩
set_option maxRecDepth 100000 in
set_option maxHeartbeats 1000000 in
theorem dix_wr (X Q : Nat) (sa : Option Addr) (sn sc : Nat) (A : Option Addr) (n c : Nat) (l : List Wr) (w : World) (h : RdX wrC 2 w A n l) (hn : n ≤ 100000) (hq : w.cell? ⟨Q, 0, none⟩ = some (.pointer (some ⟨X, 0, none⟩))) (hx : w.cell? ⟨X, 0, none⟩ = some (.slice sa sn sc)) :
    Calls Tryz.prog 192 #[.slice A n c, .func (.func 141) #[] #[.pointer (some ⟨Q, 0, none⟩)]] w (IdxP (l.any (badW sn)) w) := by
  have H := Lib.hid h
  have HQ := Lib.hid hq
  have HX := Lib.hid hx
  have hql := World.block_lt_of_cell? w _ hq
  have hxl := World.block_lt_of_cell? w _ hx
  clear hq hx
  clear h
  go_enter Tryz.func192, Tryz.ntmps192
  go_wp2_with fail
  go_loopw [5, 8] (fun _ i wr => ∃ k : Nat, i = .int .i64 (k : Int) ∧ k ≤ n ∧ Hid ((l.take k).any (badW sn) = false) ∧ Below w.heap.size w wr) (fun _ i _ => n - (intOf i).toNat)
  case atStart => exact ⟨0, rfl, Nat.zero_le _, Lib.hid rfl, Below.refl _ _⟩
  case round =>
    obtain ⟨k, rfl, hk, HN, hb⟩ := hrel
    have HB := Lib.hid hb
    clear hb
    by_cases hlt : k < n
    · have hd1 : decide ((k : Int) < (n : Int)) = true := decide_eq_true (by omega)
      have hi0 : (0 : Int) ≤ (k : Int) := by omega
      obtain ⟨b, off, hl2, rfl, hbb, hcell⟩ := (H.out.below HB.out).at hlt
      have HT := Lib.hid (any_snocF (badW sn) l k hl2)
      have HA := Lib.hid (any_at (badW sn) l k hl2)
      obtain ⟨x, hx⟩ : ∃ x, x = l[k] := ⟨_, rfl⟩
      rw [← hx] at HT HA
      have c0 := hcell 0 (.int .i64 l[k].1) rfl
      have c1 := hcell 1 (.string l[k].2) rfl
      rw [← hx] at c0 c1
      rw [Nat.add_zero] at c0
      clear hcell hx
      obtain ⟨z, hz⟩ : ∃ z, z = (badW sn) x := ⟨_, rfl⟩
      rw [← hz] at HT HA
      have HC := mb2_any X Q sa sn sc x wr ((HB.out.cell (p := ⟨Q, 0, none⟩) hql).trans HQ.out) ((HB.out.cell (p := ⟨X, 0, none⟩) hxl).trans HX.out)
      rw [← hz] at HC
      have HC := Lib.hid HC
      clear hz
      go_wp2_with fail
      refine HC.out.mono ?_
      rintro e w1 ⟨rfl, hb1⟩
      have HB1 := Lib.hid (HB.out.trans (hb1.mono HB.out.size))
      clear hb1
      cases z with
      | true =>
        go_wp2_with fail
        go_ret
        exact ⟨(k : Int), rfl, by rw [HA.out (by first | rfl | trivial)]; exact decide_eq_true (by omega), HB1.out⟩
      | false =>
        go_wp2_with fail
        go_roundw
        case rel => exact ⟨k + 1, by go_num, by omega, Lib.hid (by rw [HT.out, HN.out]; rfl), HB1.out⟩
        case measure => simp [intOf] <;> omega
    · have hd1 : decide ((k : Int) < (n : Int)) = false := decide_eq_false (by omega)
      have HE := Lib.hid (show l.take k = l from List.take_of_length_le (by have := H.out.1; omega))
      go_wp2_with fail
      go_ret
      exact ⟨-1, rfl, by rw [← HE.out, HN.out]; rfl, HB.out⟩
set_option maxRecDepth 100000 in
theorem dix_wrC (X Q : Nat) (sa : Option Addr) (sn sc : Nat) (A : Option Addr) (n c : Nat) (l : List Wr) (w : World) (h : RdX wrC 2 w A n l) (hn : n ≤ 100000) (hq : w.cell? ⟨Q, 0, none⟩ = some (.pointer (some ⟨X, 0, none⟩))) (hx : w.cell? ⟨X, 0, none⟩ = some (.slice sa sn sc)) :
    Calls Tryz.prog 140 #[.slice A n c, .func (.func 141) #[] #[.pointer (some ⟨Q, 0, none⟩)]] w (RetBl (l.any (badW sn)) w) := by
  have HC := Lib.hid (dix_wr X Q sa sn sc A n c l w h hn hq hx)
  clear h
  go_enter Tryz.func140, Tryz.ntmps140
  go_wp2_with fail
  refine HC.out.mono ?_
  rintro e w1 ⟨r, rfl, hr, hb1⟩
  have HB1 := Lib.hid hb1
  have HR := Lib.hid hr
  clear hb1 hr
  go_wp2_with fail
  go_ret
  exact ⟨dk_retB HR.out, HB1.out⟩
/-- may an image be? -/
def mayI (SS : List ByteArray) (CC : List Wr) : Bool := decide (16 ≤ (SS.length : Int) ∧ (SS.length : Int) ≤ 4096) && (!SS.any badS && (decide (CC.length ≤ 4096) && !CC.any (badW SS.length)))
set_option maxRecDepth 100000 in
set_option maxHeartbeats 1000000 in
theorem dmay_any (X : Nat) (sa : Option Addr) (sc : Nat) (ca : Option Addr) (cc : Nat) (SS : List ByteArray) (CC : List Wr) (w : World) (d0 : w.cell? ⟨X, 0, none⟩ = some (.slice sa SS.length sc)) (d1 : w.cell? ⟨X, 1, none⟩ = some (.slice ca CC.length cc)) (h2 : RdX stC 1 w sa SS.length SS) (h3 : RdX wrC 2 w ca CC.length CC) (hs : SS.length ≤ 100000) (hc : CC.length ≤ 100000) :
    Calls Tryz.prog 84 #[.pointer (some ⟨X, 0, none⟩)] w (RetBl (mayI SS CC) w) := by
  have hXl : X < w.heap.size := World.block_lt_of_cell? w _ d0
  have HB0 := Lib.hid ((Below.refl w.heap.size w).alloc (Nat.le_refl _) (.cells #[.pointer (some ⟨X, 0, none⟩)] 163 (0, 0)))
  have HQ0 := Lib.hid (blk_new w (.cells #[.pointer (some ⟨X, 0, none⟩)] 163 (0, 0)))
  have HD0 := Lib.hid d0
  have HD1 := Lib.hid d1
  have H2 := Lib.hid h2
  have H3 := Lib.hid h3
  obtain ⟨v, hv⟩ : ∃ v, v = w.alloc (.cells #[.pointer (some ⟨X, 0, none⟩)] 163 (0, 0)) := ⟨_, rfl⟩
  have HV := Lib.hid hv
  rw [← hv] at HB0 HQ0
  have HZ := Lib.hid (fun W : World => dsize_any (SS.length : Int) W)
  clear d0 d1 h2 h3 hv
  go_enter Tryz.func84, Tryz.ntmps84
  go_upto_region 1 with (fail)
  rw [← HV.out]
  have q0 : v.cell? ⟨w.heap.size, 0, none⟩ = some (.pointer (some ⟨X, 0, none⟩)) := (cell_of_row _ _ 0 _ _ _ HQ0.out).trans rfl
  have x0 : v.cell? ⟨X, 0, none⟩ = some (.slice sa SS.length sc) := (HB0.out.cell (p := ⟨X, 0, none⟩) hXl).trans HD0.out
  have x1 : v.cell? ⟨X, 1, none⟩ = some (.slice ca CC.length cc) := (HB0.out.cell (p := ⟨X, 1, none⟩) hXl).trans HD1.out
  cases hA : decide (16 ≤ (SS.length : Int) ∧ (SS.length : Int) ≤ 4096) with
  | false =>
    have HR := Lib.hid (show false = mayI SS CC by unfold mayI; rw [hA]; rfl)
    rw [hA] at HZ
    clear hA
    go_wp2_with fail
    refine (HZ.out _).mono ?_
    rintro e w' ⟨rfl, rfl⟩
    go_wp2_with fail
    go_ret
    exact ⟨dk_retB HR.out, HB0.out⟩
  | true =>
    rw [hA] at HZ
    have HA := Lib.hid hA
    have HC := Lib.hid (dix_stC sa SS.length sc SS v (H2.out.below HB0.out) hs)
    clear hA
    go_wp2_with fail
    refine (HZ.out _).mono ?_
    rintro e w' ⟨rfl, rfl⟩
    go_wp2_with fail
    refine HC.out.mono ?_
    rintro e w1 ⟨rfl, hb1⟩
    have HB1 := Lib.hid (HB0.out.trans (hb1.mono HB0.out.size))
    have HQ1 := Lib.hid (blk_below HQ0.out hb1)
    clear hb1 q0 x0 x1
    have q0 : w1.cell? ⟨w.heap.size, 0, none⟩ = some (.pointer (some ⟨X, 0, none⟩)) := (cell_of_row _ _ 0 _ _ _ HQ1.out).trans rfl
    have x0 : w1.cell? ⟨X, 0, none⟩ = some (.slice sa SS.length sc) := (HB1.out.cell (p := ⟨X, 0, none⟩) hXl).trans HD0.out
    have x1 : w1.cell? ⟨X, 1, none⟩ = some (.slice ca CC.length cc) := (HB1.out.cell (p := ⟨X, 1, none⟩) hXl).trans HD1.out
    obtain ⟨b, hb⟩ : ∃ b, b = SS.any badS := ⟨_, rfl⟩
    rw [← hb]
    cases b with
    | true =>
      have HR := Lib.hid (show false = mayI SS CC by unfold mayI; rw [HA.out, ← hb]; rfl)
      clear hb
      go_wp2_with fail
      go_ret
      exact ⟨dk_retB HR.out, HB1.out⟩
    | false =>
      by_cases hl : CC.length ≤ 4096
      rotate_left
      · have d5 : decide ((CC.length : Int) > 4096) = true := decide_eq_true (by omega)
        have d6 : decide ((4096 : Int) < (CC.length : Int)) = true := decide_eq_true (by omega)
        have HR := Lib.hid (show false = mayI SS CC by unfold mayI; rw [HA.out, ← hb, decide_eq_false hl]; rfl)
        clear hb hl
        go_wp2_with fail
        go_ret
        exact ⟨dk_retB HR.out, HB1.out⟩
      · have d5 : decide ((CC.length : Int) > 4096) = false := decide_eq_false (by omega)
        have d6 : decide ((4096 : Int) < (CC.length : Int)) = false := decide_eq_false (by omega)
        have HR := Lib.hid (show (!CC.any (badW SS.length)) = mayI SS CC by unfold mayI; rw [HA.out, ← hb, decide_eq_true hl]; rfl)
        have HC2 := Lib.hid (dix_wrC X w.heap.size sa SS.length sc ca CC.length cc CC w1 (H3.out.below HB1.out) hc q0 x0)
        clear hb hl
        go_wp2_with fail
        refine HC2.out.mono ?_
        rintro e w2 ⟨rfl, hb2⟩
        have HB2 := Lib.hid (HB1.out.trans (hb2.mono HB1.out.size))
        clear hb2
        obtain ⟨b, hb⟩ : ∃ b, b = CC.any (badW SS.length) := ⟨_, rfl⟩
        rw [← hb] at HR ⊢
        clear hb
        cases b
        all_goals
          go_wp2_with fail
          go_ret
          exact ⟨dk_retB HR.out, HB2.out⟩
end Go.Proofs.YtiflieaemgamkaaGreatDoor

namespace Go.Proofs.YtiflieaemgamkaaGreatDoor
open Go.RowKit Vi

theorem mayI_ok {SS : List ByteArray} {CC : List Wr} (h : mayI SS CC = true) : ∀ x ∈ CC, 0 ≤ x.1 ∧ x.1 < (SS.length : Int) ∧ x.2.size = 128 := by
  intro x hx
  unfold mayI at h
  simp only [Bool.and_eq_true, Bool.not_eq_true'] at h
  have h4 := h.2.2.2
  have h5 : badW SS.length x = false := by
    cases q : badW SS.length x with
    | false => rfl
    | true => rw [List.any_eq_true.2 ⟨x, hx, q⟩] at h4; cases h4
  unfold badW at h5
  exact dck_ok (by simpa using h5)
/-- a disk that has just been made -/
def NewD (SS : List ByteArray) (CC : List Wr) (w : World) (e : Ending) (w' : World) : Prop := ∃ D, e = .returned (.tuple #[.pointer (some ⟨D, 0, none⟩), .int .i64 0]) ∧ DK D SS CC false 0 0 w' ∧ (∀ b, InD D w' b → w.heap.size ≤ b) ∧ Below w.heap.size w w'
def NoD (w : World) (e : Ending) (w' : World) : Prop := e = .returned (.tuple #[.pointer none, .int .i64 2]) ∧ Below w.heap.size w w'
theorem own_ge {α : Type} {f : α → List Value} {s : Nat} {T : TypeId} {w : World} {B g o n c : Nat} {l : List α} (h : OwX f s T w B (.slice (some ⟨g, o, none⟩) n c) l) : B ≤ g := by
  rcases h.2 with ⟨e, _⟩ | ⟨g', cap, cur, e, hb, h4, _⟩
  · cases e
  · injection e with e _ _
    injection e with e
    injection e with e _ _
    subst e
    exact hb
def LoadR (b : Bool) (SS : List ByteArray) (CC : List Wr) (w : World) (e : Ending) (w' : World) : Prop := (b = true → NewD SS CC w e w') ∧ (b = false → NoD w e w')
set_option maxRecDepth 100000 in
set_option maxHeartbeats 2000000 in
theorem dload_any (A : Option Addr) (c : Nat) (A2 : Option Addr) (c2 : Nat) (SS : List ByteArray) (CC : List Wr) (w : World) (h2 : RdX stC 1 w A SS.length SS) (h3 : RdX wrC 2 w A2 CC.length CC) (hs : SS.length ≤ 100000) (hc : CC.length ≤ 100000) (b : Bool) (hb : b = mayI SS CC) :
    Calls Tryz.prog 37 #[.agg #[.slice A SS.length c, .slice A2 CC.length c2]] w (LoadR b SS CC w) := by
  obtain ⟨o1, ho1⟩ : ∃ o : Obj, o = .cells #[.slice A SS.length c, .slice A2 CC.length c2] 33 (0, 0) := ⟨_, rfl⟩
  obtain ⟨o2, ho2⟩ : ∃ o : Obj, o = .cells #[.slice A SS.length c, .slice A2 CC.length c2] 86 (0, 0) := ⟨_, rfl⟩
  have HB0 := Lib.hid (((Below.refl w.heap.size w).alloc (Nat.le_refl _) o1).alloc (by simp) o2)
  have HX0 : Hid (((w.alloc o1).alloc o2).heap[w.heap.size + 1]? = some o2) := Lib.hid (two_blk w o1 o2)
  have H2 := Lib.hid h2
  have H3 := Lib.hid h3
  have HOK := Lib.hid (fun q : b = true => mayI_ok (hb.symm.trans q))
  subst ho2
  have HM := Lib.hid (dmay_any (w.heap.size + 1) A c A2 c2 SS CC _ ((cell_of_row _ _ 0 _ _ _ HX0.out).trans rfl) ((cell_of_row _ _ 1 _ _ _ HX0.out).trans rfl) (h2.below HB0.out) (h3.below HB0.out) hs hc)
  rw [← hb] at HM
  clear h2 h3 hb
  subst ho1
  go_enter Tryz.func37, Tryz.ntmps37
  go_wp2_with fail
  refine HM.out.mono ?_
  rintro e w1 ⟨rfl, hb1⟩
  have HB1 := Lib.hid (HB0.out.trans (hb1.mono HB0.out.size))
  have HX1 := Lib.hid (blk_below HX0.out hb1)
  have H21 := Lib.hid (H2.out.below HB1.out)
  have H31 := Lib.hid (H3.out.below HB1.out)
  clear hb1
  cases b with
  | false =>
    go_wp2_with fail
    go_ret2
    exact ⟨(fun q => by cases q), fun _ => ⟨rfl, HB1.out⟩⟩
  | true =>
    have HC := Lib.hid (dcopy_any (w.heap.size + 1) A SS.length c A2 CC.length c2 SS CC w1 ((cell_of_row _ _ 0 _ _ _ HX1.out).trans rfl) ((cell_of_row _ _ 1 _ _ _ HX1.out).trans rfl) H21.out H31.out hs hc)
    go_wp2_with fail
    refine HC.out.mono ?_
    rintro e w2 ⟨B1, n1, k1, B2, n2, k2, rfl, ho1, ho2, hb⟩
    have HO1 := Lib.hid ho1
    have HO2 := Lib.hid ho2
    have HB2 := Lib.hid (HB1.out.trans (hb.mono HB1.out.size))
    clear ho1 ho2 hb
    go_wp2_with fail
    have HD : Hid ((w2.alloc (dkO B1 n1 k1 B2 n2 k2 true false 0 0)).heap[w2.heap.size]? = some (dkO B1 n1 k1 B2 n2 k2 true false 0 0)) := Lib.hid (blk_new w2 _)
    have hz := HB1.out.size
    have hz2 := HB2.out.size
    go_ret2
    exact ⟨fun _ => ⟨w2.heap.size, rfl, ⟨⟨B1, n1, k1, B2, n2, k2, HD.out, (HO1.out.alloc _).mono (Nat.zero_le _), (HO2.out.alloc _).mono (Nat.zero_le _)⟩, HOK.out (by first | rfl | trivial)⟩, fun b q => by
      rcases q.cases HD.out with q | ⟨o, q⟩ | ⟨o, q⟩
      · subst q; exact hz2
      · subst q; have := own_ge HO1.out; omega
      · subst q; have := own_ge HO2.out; omega, HB2.out.alloc hz2 _⟩, (fun q => by cases q)⟩
end Go.Proofs.YtiflieaemgamkaaGreatDoor

namespace Go.Proofs.YtiflieaemgamkaaGreatDoor
open Go.RowKit Vi

theorem rd_grown {α : Type} {f : α → List Value} {s : Nat} {w w' : World} {A : Option Addr} {n : Nat} {l : List α} (h : RdX f s w A n l) (hb : Below w.heap.size w w') : RdX f s w' A n l := h.below hb
set_option maxRecDepth 100000 in
set_option maxHeartbeats 4000000 in
theorem rcopy_any (A : Option Addr) (n c : Nat) (A2 : Option Addr) (n2 c2 : Nat) (SS : List ByteArray) (CC : List Wr) (w : World) (h2 : RdX stC 1 w A n SS) (h3 : RdX wrC 2 w A2 n2 CC) (hs : n ≤ 100000) (hc : n2 ≤ 100000) :
    Calls Tryz.prog 96 #[.agg #[.slice A n c, .slice A2 n2 c2]] w (CpP SS CC w) := by
  have HB0 := Lib.hid (((Below.refl w.heap.size w).alloc (Nat.le_refl _) (.cells #[.slice A n c, .slice A2 n2 c2] 33 (0, 0))).alloc (by simp) (.cells #[.slice none 0 0, .slice none 0 0] 33 (0, 0)))
  have HX0 := Lib.hid (blk_alloc (blk_new w (.cells #[.slice A n c, .slice A2 n2 c2] 33 (0, 0))) (.cells #[.slice none 0 0, .slice none 0 0] 33 (0, 0)))
  have HR0 : Hid (((w.alloc (.cells #[.slice A n c, .slice A2 n2 c2] 33 (0, 0))).alloc (.cells #[.slice none 0 0, .slice none 0 0] 33 (0, 0))).heap[w.heap.size + 1]? = some (.cells #[.slice none 0 0, .slice none 0 0] 33 (0, 0))) := Lib.hid (two_blk w (.cells #[.slice A n c, .slice A2 n2 c2] 33 (0, 0)) (.cells #[.slice none 0 0, .slice none 0 0] 33 (0, 0)))
  have HA0 := Lib.hid (h2.below HB0.out)
  have HC0 := Lib.hid (h3.below HB0.out)
  have hrA := h2
  have hrC := h3
  clear h2 h3
  have HA0R := Lib.hid hrA
  have HC0R := Lib.hid hrC
  clear hrA hrC
  go_enter Tryz.func96, Tryz.ntmps96
  go_upto_region 1 with (fail)
  obtain ⟨W0, hv⟩ : ∃ v, v = (w.alloc (.cells #[.slice A n c, .slice A2 n2 c2] 33 (0, 0))).alloc (.cells #[.slice none 0 0, .slice none 0 0] 33 (0, 0)) := ⟨_, rfl⟩
  rw [← hv] at HB0 HX0 HR0 HA0 HC0
  rw [← hv]
  clear hv
  have HB0 := Lib.hid HB0.out.drew
  have HA0 := Lib.hid HA0.out.drew
  have HC0 := Lib.hid HC0.out.drew
  have HX0 : Hid (W0.drew.heap[w.heap.size]? = some (.cells #[.slice A n c, .slice A2 n2 c2] 33 (0, 0))) := Lib.hid HX0.out
  have HR0 : Hid (W0.drew.heap[w.heap.size + 1]? = some (.cells #[.slice none 0 0, .slice none 0 0] 33 (0, 0))) := Lib.hid HR0.out
  refine wp_region_L_drew (S := fun _ W => W.heap[w.heap.size]? = some (.cells #[.slice A n c, .slice A2 n2 c2] 33 (0, 0))) (by kernel_rfl) HX0.out (fun hS hC => ?_)
  generalize W0.drew = U at *
  refine wpAnyL_take (i := 1) (oi := { dst := some 4, op := .fieldAddr 33 (.tmp 1) 0, type := _, pos := _, after := _, guard := none }) (v := ?_) rfl (by kernel_rfl) (by kernel_rfl) (by kernel_rfl) (fun _ _ _ h => h) (fun _ _ => Iff.rfl) hC (Or.inl ⟨by rfl, ?_⟩) hS (fun hC hS => ?_)
  rotate_left
  · intro W9 hSw; skip; go_simp; try (with_reducible rfl)
  try simp only [Act.put, List.setIfInBounds_toArray, List.set_cons_zero, List.set_cons_succ]
  refine wpAnyL_take (i := 2) (oi := { dst := some 5, op := .load 30 (.tmp 4), type := _, pos := _, after := _, guard := none }) (v := ?_) rfl (by kernel_rfl) (by kernel_rfl) (by kernel_rfl) (fun _ _ _ h => h) (fun _ _ => Iff.rfl) hC (Or.inl ⟨by rfl, ?_⟩) hS (fun hC hS => ?_)
  rotate_left
  · intro W9 hSw; have q0 := (cell_of_row _ _ 0 _ _ _ hSw.choose_spec.2.2).trans rfl; go_simp; try (with_reducible rfl)
  try simp only [Act.put, List.setIfInBounds_toArray, List.set_cons_zero, List.set_cons_succ]
  refine wpAnyL_take (i := 5) (oi := { dst := some 8, op := .fieldAddr 33 (.tmp 1) 1, type := _, pos := _, after := _, guard := none }) (v := ?_) rfl (by kernel_rfl) (by kernel_rfl) (by kernel_rfl) (fun _ _ _ h => h) (fun _ _ => Iff.rfl) hC (Or.inl ⟨by rfl, ?_⟩) hS (fun hC hS => ?_)
  rotate_left
  · intro W9 hSw; skip; go_simp; try (with_reducible rfl)
  try simp only [Act.put, List.setIfInBounds_toArray, List.set_cons_zero, List.set_cons_succ]
  refine wpAnyL_take (i := 6) (oi := { dst := some 9, op := .load 31 (.tmp 8), type := _, pos := _, after := _, guard := none }) (v := ?_) rfl (by kernel_rfl) (by kernel_rfl) (by kernel_rfl) (fun _ _ _ h => h) (fun _ _ => Iff.rfl) hC (Or.inl ⟨by rfl, ?_⟩) hS (fun hC hS => ?_)
  rotate_left
  · intro W9 hSw; have q0 := (cell_of_row _ _ 1 _ _ _ hSw.choose_spec.2.2).trans rfl; go_simp; try (with_reducible rfl)
  try simp only [Act.put, List.setIfInBounds_toArray, List.set_cons_zero, List.set_cons_succ]
  refine wpAnyL_ready (rs := [0, 4]) (by kernel_rfl) (by simp) hC ?_
  refine AllReadyL.cons (o := { dst := some 3, op := .buildSlice 30 0 #[], type := _, pos := _, after := _, guard := none }) rfl (fun K9 hK => ?_) ?_
  · skip
    go_simp
    have HX1 := Lib.hid (blk_alloc (show U.heap[w.heap.size]? = _ from HX0.out) (.cells #[] 9 (0, 0)))
    have HR1 := Lib.hid (blk_alloc (show U.heap[w.heap.size + 1]? = _ from HR0.out) (.cells #[] 9 (0, 0)))
    have HA1 := Lib.hid (HA0.out.alloc (.cells #[] 9 (0, 0)))
    have HC1 := Lib.hid (HC0.out.alloc (.cells #[] 9 (0, 0)))
    have HB1 := Lib.hid (HB0.out.alloc HB0.out.size (.cells #[] 9 (0, 0)))
    have HP1 : Hid (OwX stC 1 9 (U.alloc (.cells #[] 9 (0, 0))) w.heap.size (.slice (some ⟨U.heap.size, 0, none⟩) 0 0) []) := Lib.hid (OwX.zero (blk_new U (.cells #[] 9 (0, 0))) HB0.out.size (Nat.zero_le _) rfl)
    clear hS
    clear HX0 HR0 HA0 HC0 HB0 
    generalize U.alloc (.cells #[] 9 (0, 0)) = W1 at *
    refine hK _ _ HX1.out (fun hC => ?_)
    clear hK K9
    try simp only [Act.put, List.setIfInBounds_toArray, List.set_cons_zero, List.set_cons_succ]
    refine wpAnyL_ready (rs := [3, 4]) (by kernel_rfl) (by simp) hC ?_
    refine AllReadyL.cons (o := { dst := some 6, op := .call { callee := .builtin .append, args := #[.tmp 3, .tmp 5], argTypes := #[30, 30] }, type := _, pos := _, after := _, guard := none }) rfl (fun K9 hK => ?_) ?_
    · skip
      refine step_appXs rfl (.tmp 3) (.tmp 5) 30 9 _ 16 rfl Tryz.underlying30 info_stA rfl (by omega) (by omega) stC_len stC_one w.heap.size w HB1.out HB1.out.size _ [] rfl HP1.out A n c SS rfl HA1.out (by simp; omega) ?_
      intro v2 W2 hown2 hbel2 _ hgr2
      rw [List.nil_append] at hown2
      have HP2 := hown2
      have HB2 := hbel2
      have HX2 := Lib.hid (HP1.out.box hgr2.out HX1.out (Or.inl (by decide)))
      have HR2 := Lib.hid (HP1.out.box hgr2.out HR1.out (Or.inl (by decide)))
      have HA2 := Lib.hid (rd_grown HA0R.out HB2.out)
      have HC2 := Lib.hid (rd_grown HC0R.out HB2.out)
      obtain ⟨PA, Pn, Pc, rfl⟩ := HP2.out.sl3
      clear hS hown2 hbel2
      clear HX1 HR1 HA1 HC1 HB1 HP1
      refine hK _ _ HX2.out (fun hC => ?_)
      clear hK K9
      try simp only [Act.put, List.setIfInBounds_toArray, List.set_cons_zero, List.set_cons_succ]
      refine wpAnyL_ready (rs := [4]) (by kernel_rfl) (by simp) hC ?_
      refine AllReadyL.cons (o := { dst := some 7, op := .buildSlice 31 0 #[], type := _, pos := _, after := _, guard := none }) rfl (fun K9 hK => ?_) ?_
      · skip
        go_simp
        have HX3 := Lib.hid (blk_alloc (show W2.heap[w.heap.size]? = _ from HX2.out) (.cells #[] 102 (0, 0)))
        have HR3 := Lib.hid (blk_alloc (show W2.heap[w.heap.size + 1]? = _ from HR2.out) (.cells #[] 102 (0, 0)))
        have HA3 := Lib.hid (HA2.out.alloc (.cells #[] 102 (0, 0)))
        have HC3 := Lib.hid (HC2.out.alloc (.cells #[] 102 (0, 0)))
        have HB3 := Lib.hid (HB2.out.alloc HB2.out.size (.cells #[] 102 (0, 0)))
        have HP3 := Lib.hid (HP2.out.alloc (.cells #[] 102 (0, 0)))
        have HQ3 : Hid (OwX wrC 2 102 (W2.alloc (.cells #[] 102 (0, 0))) w.heap.size (.slice (some ⟨W2.heap.size, 0, none⟩) 0 0) []) := Lib.hid (OwX.zero (blk_new W2 (.cells #[] 102 (0, 0))) HB2.out.size (Nat.zero_le _) rfl)
        clear hS
        clear HX2 HR2 HA2 HC2 HB2 HP2
        generalize W2.alloc (.cells #[] 102 (0, 0)) = W3 at *
        refine hK _ _ HX3.out (fun hC => ?_)
        clear hK K9
        try simp only [Act.put, List.setIfInBounds_toArray, List.set_cons_zero, List.set_cons_succ]
        refine wpAnyL_ready (rs := [7]) (by kernel_rfl) (by simp) hC ?_
        refine AllReadyL.cons (o := { dst := some 10, op := .call { callee := .builtin .append, args := #[.tmp 7, .tmp 9], argTypes := #[31, 31] }, type := _, pos := _, after := _, guard := none }) rfl (fun K9 hK => ?_) ?_
        · skip
          refine step_appXs rfl (.tmp 7) (.tmp 9) 31 102 _ 24 rfl Tryz.underlying31 info_wrB rfl (by omega) (by omega) wrC_len wrC_one w.heap.size w HB3.out HB3.out.size _ [] rfl HQ3.out A2 n2 c2 CC rfl HC3.out (by simp; omega) ?_
          intro v4 W4 hown4 hbel4 _ hgr4
          rw [List.nil_append] at hown4
          have HQ4 := hown4
          have HB4 := hbel4
          have HX4 := Lib.hid (HQ3.out.box hgr4.out HX3.out (Or.inl (by decide)))
          have HR4 := Lib.hid (HQ3.out.box hgr4.out HR3.out (Or.inl (by decide)))
          have HP4 := Lib.hid (HP3.out.other HQ3.out (by decide) hgr4.out)
          have HA4 := Lib.hid (rd_grown HA0R.out HB4.out)
          have HC4 := Lib.hid (rd_grown HC0R.out HB4.out)
          obtain ⟨QA, Qn, Qc, rfl⟩ := HQ4.out.sl3
          clear hS hown4 hbel4
          clear HX3 HR3 HA3 HC3 HB3 HP3 HQ3
          refine hK _ _ HX4.out (fun hC => ?_)
          clear hK K9
          try simp only [Act.put, List.setIfInBounds_toArray, List.set_cons_zero, List.set_cons_succ]
          refine wpAnyL_take (i := 8) (oi := { dst := some 11, op := .build 33 #[(0, .tmp 6), (1, .tmp 10)], type := _, pos := _, after := _, guard := none }) (v := ?_) rfl (by kernel_rfl) (by kernel_rfl) (by kernel_rfl) (fun _ _ _ h => h) (fun _ _ => Iff.rfl) hC (Or.inl ⟨by rfl, ?_⟩) HX4.out (fun hC hS => ?_)
          rotate_left
          · intro W9 hSw; skip; go_simp; try (with_reducible rfl)
          try simp only [Act.put, List.setIfInBounds_toArray, List.set_cons_zero, List.set_cons_succ]
          refine wpAnyL_ready (rs := [9]) (by kernel_rfl) (by simp) hC ?_
          refine AllReadyL.cons (o := { dst := none, op := .store 33 (.tmp 2) (.tmp 11), type := _, pos := _, after := _, guard := none }) rfl (fun K9 hK => ?_) ?_
          · skip
            have y0 : W4.cell? ⟨w.heap.size + 1, 0, none⟩ = some (.slice none 0 0) := (cell_of_row _ _ 0 _ _ _ HR4.out).trans rfl
            have y1 : W4.cell? ⟨w.heap.size + 1, 1, none⟩ = some (.slice none 0 0) := (cell_of_row _ _ 1 _ _ _ HR4.out).trans rfl
            have f0 : W4.frozen? ⟨w.heap.size + 1, 0, none⟩ = false := frozen_of_row _ _ _ _ _ HR4.out
            have f1 : W4.frozen? ⟨w.heap.size + 1, 1, none⟩ = false := frozen_of_row _ _ _ _ _ HR4.out
            go_simp
            have HK := Lib.hid (((KK.refl [w.heap.size + 1] W4).set (b := w.heap.size + 1) (by simp) 0 (.slice PA Pn Pc)).set (b := w.heap.size + 1) (by simp) 1 (.slice QA Qn Qc))
            have HR9 := Lib.hid (show ((W4.setCell ⟨w.heap.size + 1, 0, none⟩ (.slice PA Pn Pc)).setCell ⟨w.heap.size + 1, 1, none⟩ (.slice QA Qn Qc)).heap[w.heap.size + 1]? = some (.cells #[.slice PA Pn Pc, .slice QA Qn Qc] 33 (0, 0)) by have q := heap_setCell_at (i := 1) (u := .slice QA Qn Qc) (heap_setCell_at (i := 0) (u := .slice PA Pn Pc) HR4.out); exact q)
            have HP9 := Lib.hid (HP4.out.kkD HK.out HR4.out (by decide))
            have HQ9 := Lib.hid (HQ4.out.kkD HK.out HR4.out (by decide))
            have HB9 := Lib.hid (HK.out.below HB4.out (fun b hb => by obtain rfl : b = w.heap.size + 1 := (by simpa using hb); omega) HB4.out.size)
            have HX9 := HK.out.blk HX4.out (by simp)
            clear hS y0 y1 f0 f1
            refine hK _ _ HX9 (fun hC => ?_)
            clear hK K9
            try simp only [Act.put, List.setIfInBounds_toArray, List.set_cons_zero, List.set_cons_succ]
            refine wpAnyL_done (by kernel_rfl) ?_ _
            go_wp2_with fail
            refine bodyPost_ret (results_cY rfl _ _ (w.heap.size + 1) #[.slice PA Pn Pc, .slice QA Qn Qc] rfl (run_loadVar_row _ (w.heap.size + 1) 33 33 _ (0, 0) _ HR9.out Tryz.underlying33 rfl (by kernel_rfl))) rfl ?_
            exact ⟨_, _, _, _, _, _, rfl, HP9.out, HQ9.out, HB9.out⟩
          exact AllReadyL.nil
        exact AllReadyL.nil
      exact AllReadyL.nil
    refine AllReadyL.cons (o := { dst := some 7, op := .buildSlice 31 0 #[], type := _, pos := _, after := _, guard := none }) rfl (fun K9 hK => ?_) ?_
    · skip
      go_simp
      have HX2 := Lib.hid (blk_alloc (show W1.heap[w.heap.size]? = _ from HX1.out) (.cells #[] 102 (0, 0)))
      have HR2 := Lib.hid (blk_alloc (show W1.heap[w.heap.size + 1]? = _ from HR1.out) (.cells #[] 102 (0, 0)))
      have HA2 := Lib.hid (HA1.out.alloc (.cells #[] 102 (0, 0)))
      have HC2 := Lib.hid (HC1.out.alloc (.cells #[] 102 (0, 0)))
      have HB2 := Lib.hid (HB1.out.alloc HB1.out.size (.cells #[] 102 (0, 0)))
      have HP2 := Lib.hid (HP1.out.alloc (.cells #[] 102 (0, 0)))
      have HQ2 : Hid (OwX wrC 2 102 (W1.alloc (.cells #[] 102 (0, 0))) w.heap.size (.slice (some ⟨W1.heap.size, 0, none⟩) 0 0) []) := Lib.hid (OwX.zero (blk_new W1 (.cells #[] 102 (0, 0))) HB1.out.size (Nat.zero_le _) rfl)
      clear hS
      clear HX1 HR1 HA1 HC1 HB1 HP1
      generalize W1.alloc (.cells #[] 102 (0, 0)) = W2 at *
      refine hK _ _ HX2.out (fun hC => ?_)
      clear hK K9
      try simp only [Act.put, List.setIfInBounds_toArray, List.set_cons_zero, List.set_cons_succ]
      refine wpAnyL_ready (rs := [3]) (by kernel_rfl) (by simp) hC ?_
      refine AllReadyL.cons (o := { dst := some 6, op := .call { callee := .builtin .append, args := #[.tmp 3, .tmp 5], argTypes := #[30, 30] }, type := _, pos := _, after := _, guard := none }) rfl (fun K9 hK => ?_) ?_
      · skip
        refine step_appXs rfl (.tmp 3) (.tmp 5) 30 9 _ 16 rfl Tryz.underlying30 info_stA rfl (by omega) (by omega) stC_len stC_one w.heap.size w HB2.out HB2.out.size _ [] rfl HP2.out A n c SS rfl HA2.out (by simp; omega) ?_
        intro v3 W3 hown3 hbel3 _ hgr3
        rw [List.nil_append] at hown3
        have HP3 := hown3
        have HB3 := hbel3
        have HX3 := Lib.hid (HP2.out.box hgr3.out HX2.out (Or.inl (by decide)))
        have HR3 := Lib.hid (HP2.out.box hgr3.out HR2.out (Or.inl (by decide)))
        have HQ3 := Lib.hid (HQ2.out.other HP2.out (by decide) hgr3.out)
        have HA3 := Lib.hid (rd_grown HA0R.out HB3.out)
        have HC3 := Lib.hid (rd_grown HC0R.out HB3.out)
        obtain ⟨PA, Pn, Pc, rfl⟩ := HP3.out.sl3
        clear hS hown3 hbel3
        clear HX2 HR2 HA2 HC2 HB2 HP2 HQ2
        refine hK _ _ HX3.out (fun hC => ?_)
        clear hK K9
        try simp only [Act.put, List.setIfInBounds_toArray, List.set_cons_zero, List.set_cons_succ]
        refine wpAnyL_ready (rs := [7]) (by kernel_rfl) (by simp) hC ?_
        refine AllReadyL.cons (o := { dst := some 10, op := .call { callee := .builtin .append, args := #[.tmp 7, .tmp 9], argTypes := #[31, 31] }, type := _, pos := _, after := _, guard := none }) rfl (fun K9 hK => ?_) ?_
        · skip
          refine step_appXs rfl (.tmp 7) (.tmp 9) 31 102 _ 24 rfl Tryz.underlying31 info_wrB rfl (by omega) (by omega) wrC_len wrC_one w.heap.size w HB3.out HB3.out.size _ [] rfl HQ3.out A2 n2 c2 CC rfl HC3.out (by simp; omega) ?_
          intro v4 W4 hown4 hbel4 _ hgr4
          rw [List.nil_append] at hown4
          have HQ4 := hown4
          have HB4 := hbel4
          have HX4 := Lib.hid (HQ3.out.box hgr4.out HX3.out (Or.inl (by decide)))
          have HR4 := Lib.hid (HQ3.out.box hgr4.out HR3.out (Or.inl (by decide)))
          have HP4 := Lib.hid (HP3.out.other HQ3.out (by decide) hgr4.out)
          have HA4 := Lib.hid (rd_grown HA0R.out HB4.out)
          have HC4 := Lib.hid (rd_grown HC0R.out HB4.out)
          obtain ⟨QA, Qn, Qc, rfl⟩ := HQ4.out.sl3
          clear hS hown4 hbel4
          clear HX3 HR3 HA3 HC3 HB3 HP3 HQ3
          refine hK _ _ HX4.out (fun hC => ?_)
          clear hK K9
          try simp only [Act.put, List.setIfInBounds_toArray, List.set_cons_zero, List.set_cons_succ]
          refine wpAnyL_take (i := 8) (oi := { dst := some 11, op := .build 33 #[(0, .tmp 6), (1, .tmp 10)], type := _, pos := _, after := _, guard := none }) (v := ?_) rfl (by kernel_rfl) (by kernel_rfl) (by kernel_rfl) (fun _ _ _ h => h) (fun _ _ => Iff.rfl) hC (Or.inl ⟨by rfl, ?_⟩) HX4.out (fun hC hS => ?_)
          rotate_left
          · intro W9 hSw; skip; go_simp; try (with_reducible rfl)
          try simp only [Act.put, List.setIfInBounds_toArray, List.set_cons_zero, List.set_cons_succ]
          refine wpAnyL_ready (rs := [9]) (by kernel_rfl) (by simp) hC ?_
          refine AllReadyL.cons (o := { dst := none, op := .store 33 (.tmp 2) (.tmp 11), type := _, pos := _, after := _, guard := none }) rfl (fun K9 hK => ?_) ?_
          · skip
            have y0 : W4.cell? ⟨w.heap.size + 1, 0, none⟩ = some (.slice none 0 0) := (cell_of_row _ _ 0 _ _ _ HR4.out).trans rfl
            have y1 : W4.cell? ⟨w.heap.size + 1, 1, none⟩ = some (.slice none 0 0) := (cell_of_row _ _ 1 _ _ _ HR4.out).trans rfl
            have f0 : W4.frozen? ⟨w.heap.size + 1, 0, none⟩ = false := frozen_of_row _ _ _ _ _ HR4.out
            have f1 : W4.frozen? ⟨w.heap.size + 1, 1, none⟩ = false := frozen_of_row _ _ _ _ _ HR4.out
            go_simp
            have HK := Lib.hid (((KK.refl [w.heap.size + 1] W4).set (b := w.heap.size + 1) (by simp) 0 (.slice PA Pn Pc)).set (b := w.heap.size + 1) (by simp) 1 (.slice QA Qn Qc))
            have HR9 := Lib.hid (show ((W4.setCell ⟨w.heap.size + 1, 0, none⟩ (.slice PA Pn Pc)).setCell ⟨w.heap.size + 1, 1, none⟩ (.slice QA Qn Qc)).heap[w.heap.size + 1]? = some (.cells #[.slice PA Pn Pc, .slice QA Qn Qc] 33 (0, 0)) by have q := heap_setCell_at (i := 1) (u := .slice QA Qn Qc) (heap_setCell_at (i := 0) (u := .slice PA Pn Pc) HR4.out); exact q)
            have HP9 := Lib.hid (HP4.out.kkD HK.out HR4.out (by decide))
            have HQ9 := Lib.hid (HQ4.out.kkD HK.out HR4.out (by decide))
            have HB9 := Lib.hid (HK.out.below HB4.out (fun b hb => by obtain rfl : b = w.heap.size + 1 := (by simpa using hb); omega) HB4.out.size)
            have HX9 := HK.out.blk HX4.out (by simp)
            clear hS y0 y1 f0 f1
            refine hK _ _ HX9 (fun hC => ?_)
            clear hK K9
            try simp only [Act.put, List.setIfInBounds_toArray, List.set_cons_zero, List.set_cons_succ]
            refine wpAnyL_done (by kernel_rfl) ?_ _
            go_wp2_with fail
            refine bodyPost_ret (results_cY rfl _ _ (w.heap.size + 1) #[.slice PA Pn Pc, .slice QA Qn Qc] rfl (run_loadVar_row _ (w.heap.size + 1) 33 33 _ (0, 0) _ HR9.out Tryz.underlying33 rfl (by kernel_rfl))) rfl ?_
            exact ⟨_, _, _, _, _, _, rfl, HP9.out, HQ9.out, HB9.out⟩
          exact AllReadyL.nil
        exact AllReadyL.nil
      exact AllReadyL.nil
    exact AllReadyL.nil
  refine AllReadyL.cons (o := { dst := some 7, op := .buildSlice 31 0 #[], type := _, pos := _, after := _, guard := none }) rfl (fun K9 hK => ?_) ?_
  · skip
    go_simp
    have HX1 := Lib.hid (blk_alloc (show U.heap[w.heap.size]? = _ from HX0.out) (.cells #[] 102 (0, 0)))
    have HR1 := Lib.hid (blk_alloc (show U.heap[w.heap.size + 1]? = _ from HR0.out) (.cells #[] 102 (0, 0)))
    have HA1 := Lib.hid (HA0.out.alloc (.cells #[] 102 (0, 0)))
    have HC1 := Lib.hid (HC0.out.alloc (.cells #[] 102 (0, 0)))
    have HB1 := Lib.hid (HB0.out.alloc HB0.out.size (.cells #[] 102 (0, 0)))
    have HQ1 : Hid (OwX wrC 2 102 (U.alloc (.cells #[] 102 (0, 0))) w.heap.size (.slice (some ⟨U.heap.size, 0, none⟩) 0 0) []) := Lib.hid (OwX.zero (blk_new U (.cells #[] 102 (0, 0))) HB0.out.size (Nat.zero_le _) rfl)
    clear hS
    clear HX0 HR0 HA0 HC0 HB0 
    generalize U.alloc (.cells #[] 102 (0, 0)) = W1 at *
    refine hK _ _ HX1.out (fun hC => ?_)
    clear hK K9
    try simp only [Act.put, List.setIfInBounds_toArray, List.set_cons_zero, List.set_cons_succ]
    refine wpAnyL_ready (rs := [0]) (by kernel_rfl) (by simp) hC ?_
    refine AllReadyL.cons (o := { dst := some 3, op := .buildSlice 30 0 #[], type := _, pos := _, after := _, guard := none }) rfl (fun K9 hK => ?_) ?_
    · skip
      go_simp
      have HX2 := Lib.hid (blk_alloc (show W1.heap[w.heap.size]? = _ from HX1.out) (.cells #[] 9 (0, 0)))
      have HR2 := Lib.hid (blk_alloc (show W1.heap[w.heap.size + 1]? = _ from HR1.out) (.cells #[] 9 (0, 0)))
      have HA2 := Lib.hid (HA1.out.alloc (.cells #[] 9 (0, 0)))
      have HC2 := Lib.hid (HC1.out.alloc (.cells #[] 9 (0, 0)))
      have HB2 := Lib.hid (HB1.out.alloc HB1.out.size (.cells #[] 9 (0, 0)))
      have HQ2 := Lib.hid (HQ1.out.alloc (.cells #[] 9 (0, 0)))
      have HP2 : Hid (OwX stC 1 9 (W1.alloc (.cells #[] 9 (0, 0))) w.heap.size (.slice (some ⟨W1.heap.size, 0, none⟩) 0 0) []) := Lib.hid (OwX.zero (blk_new W1 (.cells #[] 9 (0, 0))) HB1.out.size (Nat.zero_le _) rfl)
      clear hS
      clear HX1 HR1 HA1 HC1 HB1 HQ1
      generalize W1.alloc (.cells #[] 9 (0, 0)) = W2 at *
      refine hK _ _ HX2.out (fun hC => ?_)
      clear hK K9
      try simp only [Act.put, List.setIfInBounds_toArray, List.set_cons_zero, List.set_cons_succ]
      refine wpAnyL_ready (rs := [3]) (by kernel_rfl) (by simp) hC ?_
      refine AllReadyL.cons (o := { dst := some 6, op := .call { callee := .builtin .append, args := #[.tmp 3, .tmp 5], argTypes := #[30, 30] }, type := _, pos := _, after := _, guard := none }) rfl (fun K9 hK => ?_) ?_
      · skip
        refine step_appXs rfl (.tmp 3) (.tmp 5) 30 9 _ 16 rfl Tryz.underlying30 info_stA rfl (by omega) (by omega) stC_len stC_one w.heap.size w HB2.out HB2.out.size _ [] rfl HP2.out A n c SS rfl HA2.out (by simp; omega) ?_
        intro v3 W3 hown3 hbel3 _ hgr3
        rw [List.nil_append] at hown3
        have HP3 := hown3
        have HB3 := hbel3
        have HX3 := Lib.hid (HP2.out.box hgr3.out HX2.out (Or.inl (by decide)))
        have HR3 := Lib.hid (HP2.out.box hgr3.out HR2.out (Or.inl (by decide)))
        have HQ3 := Lib.hid (HQ2.out.other HP2.out (by decide) hgr3.out)
        have HA3 := Lib.hid (rd_grown HA0R.out HB3.out)
        have HC3 := Lib.hid (rd_grown HC0R.out HB3.out)
        obtain ⟨PA, Pn, Pc, rfl⟩ := HP3.out.sl3
        clear hS hown3 hbel3
        clear HX2 HR2 HA2 HC2 HB2 HP2 HQ2
        refine hK _ _ HX3.out (fun hC => ?_)
        clear hK K9
        try simp only [Act.put, List.setIfInBounds_toArray, List.set_cons_zero, List.set_cons_succ]
        refine wpAnyL_ready (rs := [7]) (by kernel_rfl) (by simp) hC ?_
        refine AllReadyL.cons (o := { dst := some 10, op := .call { callee := .builtin .append, args := #[.tmp 7, .tmp 9], argTypes := #[31, 31] }, type := _, pos := _, after := _, guard := none }) rfl (fun K9 hK => ?_) ?_
        · skip
          refine step_appXs rfl (.tmp 7) (.tmp 9) 31 102 _ 24 rfl Tryz.underlying31 info_wrB rfl (by omega) (by omega) wrC_len wrC_one w.heap.size w HB3.out HB3.out.size _ [] rfl HQ3.out A2 n2 c2 CC rfl HC3.out (by simp; omega) ?_
          intro v4 W4 hown4 hbel4 _ hgr4
          rw [List.nil_append] at hown4
          have HQ4 := hown4
          have HB4 := hbel4
          have HX4 := Lib.hid (HQ3.out.box hgr4.out HX3.out (Or.inl (by decide)))
          have HR4 := Lib.hid (HQ3.out.box hgr4.out HR3.out (Or.inl (by decide)))
          have HP4 := Lib.hid (HP3.out.other HQ3.out (by decide) hgr4.out)
          have HA4 := Lib.hid (rd_grown HA0R.out HB4.out)
          have HC4 := Lib.hid (rd_grown HC0R.out HB4.out)
          obtain ⟨QA, Qn, Qc, rfl⟩ := HQ4.out.sl3
          clear hS hown4 hbel4
          clear HX3 HR3 HA3 HC3 HB3 HP3 HQ3
          refine hK _ _ HX4.out (fun hC => ?_)
          clear hK K9
          try simp only [Act.put, List.setIfInBounds_toArray, List.set_cons_zero, List.set_cons_succ]
          refine wpAnyL_take (i := 8) (oi := { dst := some 11, op := .build 33 #[(0, .tmp 6), (1, .tmp 10)], type := _, pos := _, after := _, guard := none }) (v := ?_) rfl (by kernel_rfl) (by kernel_rfl) (by kernel_rfl) (fun _ _ _ h => h) (fun _ _ => Iff.rfl) hC (Or.inl ⟨by rfl, ?_⟩) HX4.out (fun hC hS => ?_)
          rotate_left
          · intro W9 hSw; skip; go_simp; try (with_reducible rfl)
          try simp only [Act.put, List.setIfInBounds_toArray, List.set_cons_zero, List.set_cons_succ]
          refine wpAnyL_ready (rs := [9]) (by kernel_rfl) (by simp) hC ?_
          refine AllReadyL.cons (o := { dst := none, op := .store 33 (.tmp 2) (.tmp 11), type := _, pos := _, after := _, guard := none }) rfl (fun K9 hK => ?_) ?_
          · skip
            have y0 : W4.cell? ⟨w.heap.size + 1, 0, none⟩ = some (.slice none 0 0) := (cell_of_row _ _ 0 _ _ _ HR4.out).trans rfl
            have y1 : W4.cell? ⟨w.heap.size + 1, 1, none⟩ = some (.slice none 0 0) := (cell_of_row _ _ 1 _ _ _ HR4.out).trans rfl
            have f0 : W4.frozen? ⟨w.heap.size + 1, 0, none⟩ = false := frozen_of_row _ _ _ _ _ HR4.out
            have f1 : W4.frozen? ⟨w.heap.size + 1, 1, none⟩ = false := frozen_of_row _ _ _ _ _ HR4.out
            go_simp
            have HK := Lib.hid (((KK.refl [w.heap.size + 1] W4).set (b := w.heap.size + 1) (by simp) 0 (.slice PA Pn Pc)).set (b := w.heap.size + 1) (by simp) 1 (.slice QA Qn Qc))
            have HR9 := Lib.hid (show ((W4.setCell ⟨w.heap.size + 1, 0, none⟩ (.slice PA Pn Pc)).setCell ⟨w.heap.size + 1, 1, none⟩ (.slice QA Qn Qc)).heap[w.heap.size + 1]? = some (.cells #[.slice PA Pn Pc, .slice QA Qn Qc] 33 (0, 0)) by have q := heap_setCell_at (i := 1) (u := .slice QA Qn Qc) (heap_setCell_at (i := 0) (u := .slice PA Pn Pc) HR4.out); exact q)
            have HP9 := Lib.hid (HP4.out.kkD HK.out HR4.out (by decide))
            have HQ9 := Lib.hid (HQ4.out.kkD HK.out HR4.out (by decide))
            have HB9 := Lib.hid (HK.out.below HB4.out (fun b hb => by obtain rfl : b = w.heap.size + 1 := (by simpa using hb); omega) HB4.out.size)
            have HX9 := HK.out.blk HX4.out (by simp)
            clear hS y0 y1 f0 f1
            refine hK _ _ HX9 (fun hC => ?_)
            clear hK K9
            try simp only [Act.put, List.setIfInBounds_toArray, List.set_cons_zero, List.set_cons_succ]
            refine wpAnyL_done (by kernel_rfl) ?_ _
            go_wp2_with fail
            refine bodyPost_ret (results_cY rfl _ _ (w.heap.size + 1) #[.slice PA Pn Pc, .slice QA Qn Qc] rfl (run_loadVar_row _ (w.heap.size + 1) 33 33 _ (0, 0) _ HR9.out Tryz.underlying33 rfl (by kernel_rfl))) rfl ?_
            exact ⟨_, _, _, _, _, _, rfl, HP9.out, HQ9.out, HB9.out⟩
          exact AllReadyL.nil
        exact AllReadyL.nil
      exact AllReadyL.nil
    exact AllReadyL.nil
  exact AllReadyL.nil
end Go.Proofs.YtiflieaemgamkaaGreatDoor

namespace Go.Proofs.YtiflieaemgamkaaGreatDoor
open Go.RowKit Vi

/-- what a disk is: safe sectors, cached writes, what is armed, whether the power is gone, how much was done -/
structure Ds where
  S : List ByteArray
  C : List Wr
  ar : Int
  go : Bool
  op : Int
/-- a row that reads as a list, in a block of which P says something -/
def RdP {α : Type} (P : Nat → Prop) (f : α → List Value) (s : Nat) (w : World) (A : Option Addr) (n : Nat) (l : List α) : Prop := RdX f s w A n l ∧ (0 < n → ∀ b o, A = some ⟨b, o, none⟩ → P b)
theorem RdP.below {α : Type} {P : Nat → Prop} {f : α → List Value} {s : Nat} {w w' : World} {A : Option Addr} {n : Nat} {l : List α} (h : RdP P f s w A n l) (hb : Below w.heap.size w w') : RdP P f s w' A n l := ⟨h.1.below hb, h.2⟩
theorem OwX.rdP {α : Type} {P : Nat → Prop} {f : α → List Value} {s : Nat} {T : TypeId} {w : World} {B n c : Nat} {A : Option Addr} {l : List α} (hf : ∀ x, (f x).length = s) (hP : ∀ b, B ≤ b → P b) (h : OwX f s T w B (.slice A n c) l) : RdP P f s w A n l := by
  obtain ⟨A', c', e, hr, _, _⟩ := h.rd hf
  injection e with e1 e2 e3
  subst e1 e2 e3
  exact ⟨hr, fun _ b o e => by subst e; exact hP b (own_ge h)⟩
theorem OwX.oth {α : Type} {f : α → List Value} {s : Nat} {T T' : TypeId} {w w' : World} {B g : Nat} {v : Value} {l : List α} {cs : Array Value} {fr : Nat × Nat} (h : OwX f s T w B v l) (ho : ∀ k, k ≠ g → w'.heap[k]? = w.heap[k]?) (hg : w.heap[g]? = some (.cells cs T' fr)) (hT : T ≠ T') : OwX f s T w' B v l := by
  rcases h with ⟨h1, h | ⟨b, cap, cur, h2, h3, h4, h5⟩⟩
  · exact ⟨h1, .inl h⟩
  · refine ⟨h1, .inr ⟨b, cap, cur, h2, h3, (ho b (fun e => ?_)).trans h4, h5⟩⟩
    subst e
    rw [hg] at h4
    cases h4
    exact hT rfl
abbrev rdv (A : Option Addr) (n c : Nat) (A2 : Option Addr) (n2 c2 : Nat) (ar : Int) (go : Bool) (op : Int) : Value := .agg #[.slice A n c, .slice A2 n2 c2, .int .i64 ar, .bool go, .int .i64 op]
/-- a value is the document's disk -/
def RdR (P : Nat → Prop) (d : Ds) (w : World) (v : Value) : Prop := ∃ A n c A2 n2 c2, v = rdv A n c A2 n2 c2 d.ar d.go d.op ∧ RdP P stC 1 w A n d.S ∧ RdP P wrC 2 w A2 n2 d.C
theorem info_rd : (Tryz.prog.info? 36).map (·.size) = some 5 := by kernel_rfl
def Ds.step (d : Ds) : Ds := if d.ar = 1 then { d with ar := 0, go := true } else { d with ar := max (d.ar - 1) 0, op := d.op + 1 }
/-- a disk, and a number, are handed back -/
def RetDI (P : Nat → Prop) (d : Ds) (z : Int) (w : World) (e : Ending) (w' : World) : Prop := ∃ v, e = .returned (.tuple #[v, .int .i64 z]) ∧ RdR P d w' v ∧ Below w.heap.size w w'
/-- what step hands back: the same rows -/
def StepP (A : Option Addr) (n c : Nat) (A2 : Option Addr) (n2 c2 : Nat) (d : Ds) (w : World) (e : Ending) (w' : World) : Prop := e = .returned (.tuple #[rdv A n c A2 n2 c2 d.step.ar d.step.go d.step.op, .bool (decide (d.ar = 1))]) ∧ Below w.heap.size w w'
def RetDB (P : Nat → Prop) (d : Ds) (z : Bool) (w : World) (e : Ending) (w' : World) : Prop := ∃ v, e = .returned (.tuple #[v, .bool z]) ∧ RdR P d w' v ∧ Below w.heap.size w w'
def RetD (P : Nat → Prop) (d : Ds) (w : World) (e : Ending) (w' : World) : Prop := ∃ v, e = .returned v ∧ RdR P d w' v ∧ Below w.heap.size w w'
set_option maxRecDepth 100000 in
theorem rin_any (A : Option Addr) (n c : Nat) (A2 : Option Addr) (n2 c2 : Nat) (ar : Int) (go : Bool) (op : Int) (i : Int) (w : World) : Calls Tryz.prog 95 #[rdv A n c A2 n2 c2 ar go op, .int .i64 i] w (RetBl (decide (0 ≤ i ∧ i < (n : Int))) w) := by
  by_cases q : 0 ≤ i
  · have d1 : decide ((0 : Int) ≤ i) = true := decide_eq_true q
    have d1' : decide (i ≥ (0 : Int)) = true := decide_eq_true q
    by_cases k : i < (n : Int)
    · have d2 : decide (i < (n : Int)) = true := decide_eq_true k
      have HR := Lib.hid (show true = decide (0 ≤ i ∧ i < (n : Int)) from (decide_eq_true ⟨q, k⟩).symm)
      clear q k
      have HB1 := Lib.hid (Below.refl w.heap.size w)
      have HF2 := Lib.hid (blk_new w (.cells #[.slice A n c, .slice A2 n2 c2, .int .i64 ar, .bool go, .int .i64 op] 36 (0, 0)))
      have HB3 := Lib.hid (HB1.out.alloc HB1.out.size (.cells #[.slice A n c, .slice A2 n2 c2, .int .i64 ar, .bool go, .int .i64 op] 36 (0, 0)))
      clear HB1
      obtain ⟨v, hv⟩ : ∃ v, v = (w.alloc (.cells #[.slice A n c, .slice A2 n2 c2, .int .i64 ar, .bool go, .int .i64 op] 36 (0, 0))) := ⟨_, rfl⟩
      have HVv := Lib.hid hv
      rw [← hv] at HF2 HB3
      clear hv
      go_enter Tryz.func95, Tryz.ntmps95
      go_upto_region 1 with (fail)
      rw [← HVv.out]
      have hc4 : v.cell? ⟨w.heap.size, 0, none⟩ = some (.slice A n c) := by rw [cell_of_row _ _ _ _ _ _ HF2.out]; rfl
      go_wp2_with fail
      go_ret
      exact ⟨dk_retB HR.out, HB3.out⟩
    · have d2 : decide (i < (n : Int)) = false := decide_eq_false k
      have HR := Lib.hid (show false = decide (0 ≤ i ∧ i < (n : Int)) from (decide_eq_false fun z => k z.2).symm)
      clear q k
      have HB1 := Lib.hid (Below.refl w.heap.size w)
      have HF2 := Lib.hid (blk_new w (.cells #[.slice A n c, .slice A2 n2 c2, .int .i64 ar, .bool go, .int .i64 op] 36 (0, 0)))
      have HB3 := Lib.hid (HB1.out.alloc HB1.out.size (.cells #[.slice A n c, .slice A2 n2 c2, .int .i64 ar, .bool go, .int .i64 op] 36 (0, 0)))
      clear HB1
      obtain ⟨v, hv⟩ : ∃ v, v = (w.alloc (.cells #[.slice A n c, .slice A2 n2 c2, .int .i64 ar, .bool go, .int .i64 op] 36 (0, 0))) := ⟨_, rfl⟩
      have HVv := Lib.hid hv
      rw [← hv] at HF2 HB3
      clear hv
      go_enter Tryz.func95, Tryz.ntmps95
      go_upto_region 1 with (fail)
      rw [← HVv.out]
      have hc4 : v.cell? ⟨w.heap.size, 0, none⟩ = some (.slice A n c) := by rw [cell_of_row _ _ _ _ _ _ HF2.out]; rfl
      go_wp2_with fail
      go_ret
      exact ⟨dk_retB HR.out, HB3.out⟩
  · have d1 : decide ((0 : Int) ≤ i) = false := decide_eq_false q
    have d1' : decide (i ≥ (0 : Int)) = false := decide_eq_false q
    have HR := Lib.hid (show false = decide (0 ≤ i ∧ i < (n : Int)) from (decide_eq_false fun z => q z.1).symm)
    clear q
    have HB1 := Lib.hid (Below.refl w.heap.size w)
    have HF2 := Lib.hid (blk_new w (.cells #[.slice A n c, .slice A2 n2 c2, .int .i64 ar, .bool go, .int .i64 op] 36 (0, 0)))
    have HB3 := Lib.hid (HB1.out.alloc HB1.out.size (.cells #[.slice A n c, .slice A2 n2 c2, .int .i64 ar, .bool go, .int .i64 op] 36 (0, 0)))
    clear HB1
    obtain ⟨v, hv⟩ : ∃ v, v = (w.alloc (.cells #[.slice A n c, .slice A2 n2 c2, .int .i64 ar, .bool go, .int .i64 op] 36 (0, 0))) := ⟨_, rfl⟩
    have HVv := Lib.hid hv
    rw [← hv] at HF2 HB3
    clear hv
    go_enter Tryz.func95, Tryz.ntmps95
    go_upto_region 1 with (fail)
    rw [← HVv.out]
    have hc4 : v.cell? ⟨w.heap.size, 0, none⟩ = some (.slice A n c) := by rw [cell_of_row _ _ _ _ _ _ HF2.out]; rfl
    go_wp2_with fail
    go_ret
    exact ⟨dk_retB HR.out, HB3.out⟩
set_option maxRecDepth 100000 in
set_option maxHeartbeats 2000000 in
theorem rstep_any (d : Ds) (A : Option Addr) (n c : Nat) (A2 : Option Addr) (n2 c2 : Nat) (w : World) (ha : 0 ≤ d.ar ∧ d.ar ≤ 9223372036854775807) (ho : -1000000000 ≤ d.op ∧ d.op ≤ 1000000000) :
    Calls Tryz.prog 149 #[rdv A n c A2 n2 c2 d.ar d.go d.op] w (StepP A n c A2 n2 c2 d w) := by
  obtain ⟨SS, CC, ar, go, op⟩ := d
  have ha1 : 0 ≤ ar := ha.1
  have ha2 : ar ≤ 9223372036854775807 := ha.2
  have ho1 : -1000000000 ≤ op := ho.1
  have ho2 : op ≤ 1000000000 := ho.2
  clear ha ho
  dsimp only
  by_cases hq : ar = 1
  · have HS := Lib.hid (show (Ds.step ⟨SS, CC, ar, go, op⟩) = ⟨SS, CC, 0, true, op⟩ by unfold Ds.step; rw [if_pos hq])
    have d1 : (ar == 1) = true := by simpa using hq
    have HD := Lib.hid (show decide (ar = 1) = true from decide_eq_true hq)
    clear hq
    have HB1 := Lib.hid (Below.refl w.heap.size w)
    have HF2 := Lib.hid (blk_new w (.cells #[.slice A n c, .slice A2 n2 c2, .int .i64 ar, .bool go, .int .i64 op] 36 (0, 0)))
    have HB3 := Lib.hid (HB1.out.alloc HB1.out.size (.cells #[.slice A n c, .slice A2 n2 c2, .int .i64 ar, .bool go, .int .i64 op] 36 (0, 0)))
    clear HB1
    have HF4 := Lib.hid (blk_alloc HF2.out (.cells #[.slice none 0 0, .slice none 0 0, .int .i64 0, .bool false, .int .i64 0] 36 (0, 0)))
    clear HF2
    have HF5 : Hid (((w.alloc (.cells #[.slice A n c, .slice A2 n2 c2, .int .i64 ar, .bool go, .int .i64 op] 36 (0, 0))).alloc (.cells #[.slice none 0 0, .slice none 0 0, .int .i64 0, .bool false, .int .i64 0] 36 (0, 0))).heap[w.heap.size + 1]? = some (.cells #[.slice none 0 0, .slice none 0 0, .int .i64 0, .bool false, .int .i64 0] 36 (0, 0))) := Lib.hid (blk_newN (W := (w.alloc (.cells #[.slice A n c, .slice A2 n2 c2, .int .i64 ar, .bool go, .int .i64 op] 36 (0, 0)))) (o := (.cells #[.slice none 0 0, .slice none 0 0, .int .i64 0, .bool false, .int .i64 0] 36 (0, 0))) (by simp))
    have HB6 := Lib.hid (HB3.out.alloc (by have := HB3.out.size; simp at this ⊢ <;> omega) (.cells #[.slice none 0 0, .slice none 0 0, .int .i64 0, .bool false, .int .i64 0] 36 (0, 0)))
    clear HB3
    obtain ⟨v, hv⟩ : ∃ v, v = ((w.alloc (.cells #[.slice A n c, .slice A2 n2 c2, .int .i64 ar, .bool go, .int .i64 op] 36 (0, 0))).alloc (.cells #[.slice none 0 0, .slice none 0 0, .int .i64 0, .bool false, .int .i64 0] 36 (0, 0))) := ⟨_, rfl⟩
    have HVv := Lib.hid hv
    rw [← hv] at HF4 HF5 HB6
    clear hv
    go_enter Tryz.func149, Tryz.ntmps149
    go_upto_region 1 with (fail)
    rw [← HVv.out]
    have hc7 : v.cell? ⟨w.heap.size, 2, none⟩ = some (.int .i64 ar) := by rw [cell_of_row _ _ _ _ _ _ HF4.out]; rfl
    have hc8 : v.cell? ⟨w.heap.size, 3, none⟩ = some (.bool go) := by rw [cell_of_row _ _ _ _ _ _ HF4.out]; rfl
    have hz9 : v.frozen? ⟨w.heap.size, 2, none⟩ = false := frozen_of_row _ _ _ _ _ HF4.out
    have hz10 : v.frozen? ⟨w.heap.size, 3, none⟩ = false := frozen_of_row _ _ _ _ _ HF4.out
    go_upto_region 4 with (fail)
    clear hc7 hc8 hz9 hz10
    have HKK11 := Lib.hid (((KK.refl [w.heap.size] v).set (b := w.heap.size) (by simp) 2 (.int .i64 0)).set (b := w.heap.size) (by simp) 3 (.bool true))
    have HF12 := Lib.hid (show ((v.setCell ⟨w.heap.size, 2, none⟩ (.int .i64 0)).setCell ⟨w.heap.size, 3, none⟩ (.bool true)).heap[w.heap.size]? = some (.cells #[.slice A n c, .slice A2 n2 c2, .int .i64 0, .bool true, .int .i64 op] 36 (0, 0)) by have q := heap_setCell_at (i := 3) (u := .bool true) (heap_setCell_at (i := 2) (u := .int .i64 0) (HF4.out)); exact q)
    have HF13 := Lib.hid (HKK11.out.blk HF5.out (by simp <;> omega))
    have HB14 := Lib.hid (HKK11.out.below HB6.out (fun b hb => by obtain rfl : b = w.heap.size := (by simpa using hb); omega) HB6.out.size)
    clear HB6 HF4 HF5
    generalize ((v.setCell ⟨w.heap.size, 2, none⟩ (.int .i64 0)).setCell ⟨w.heap.size, 3, none⟩ (.bool true)) = w1 at *
    go_wp2_with (first
      | refine wpList_store_rowY rfl 36 (.tmp 2) (.tmp 9) rfl (w.heap.size + 1) #[.slice A n c, .slice A2 n2 c2, .int .i64 0, .bool true, .int .i64 op] rfl rfl 36 _ HF13.out (info_rd) rfl (by simp [Value.oneCell']) w.heap.size w HB14.out (by omega) ?_
      | refine wpList_load_row rfl 36 (.tmp 1) rfl (w.heap.size) rfl 36 #[.slice A n c, .slice A2 n2 c2, .int .i64 0, .bool true, .int .i64 op] (0, 0) _ HF12.out Tryz.underlying36 rfl (info_rd) ?_)
    intro w2 hbk hoth hbel _
    have HF15 := Lib.hid (blk_oth HF12.out hoth.out (by omega))
    have HF16 := Lib.hid hbk.out
    have HB17 := Lib.hid hbel.out
    clear hbk hoth hbel HB14 HF12 HF13
    go_wp2_with fail
    unfold StepP
    rw [HS.out, HD.out]
    refine bodyPost_ret (results_ctY rfl _ _ (w.heap.size + 1) #[.slice A n c, .slice A2 n2 c2, .int .i64 0, .bool true, .int .i64 op] rfl (run_loadVar_row _ (w.heap.size + 1) 36 36 _ (0, 0) _ HF16.out Tryz.underlying36 rfl (by kernel_rfl))) rfl ?_
    exact ⟨rfl, HB17.out⟩
  · have d1 : (ar == 1) = false := by rw [beq_eq_false_iff_ne]; exact hq
    have HS := Lib.hid (show (Ds.step ⟨SS, CC, ar, go, op⟩) = ⟨SS, CC, max (ar - 1) 0, go, op + 1⟩ by unfold Ds.step; rw [if_neg hq])
    have HD := Lib.hid (show decide (ar = 1) = false from decide_eq_false hq)
    have w2 : IntKind.i64.wrap (op + 1) = op + 1 := IntWalk.i64_in _ (by omega)
    by_cases hg : 1 < ar
    · have d2 : decide (ar > 1) = true := decide_eq_true hg
      have d3 : decide (1 < ar) = true := decide_eq_true hg
      have w1 : IntKind.i64.wrap (ar - 1) = ar - 1 := IntWalk.i64_in _ (by omega)
      have HM := Lib.hid (show max (ar - 1) 0 = ar - 1 by omega)
      clear hq
      have HB1 := Lib.hid (Below.refl w.heap.size w)
      have HF2 := Lib.hid (blk_new w (.cells #[.slice A n c, .slice A2 n2 c2, .int .i64 ar, .bool go, .int .i64 op] 36 (0, 0)))
      have HB3 := Lib.hid (HB1.out.alloc HB1.out.size (.cells #[.slice A n c, .slice A2 n2 c2, .int .i64 ar, .bool go, .int .i64 op] 36 (0, 0)))
      clear HB1
      have HF4 := Lib.hid (blk_alloc HF2.out (.cells #[.slice none 0 0, .slice none 0 0, .int .i64 0, .bool false, .int .i64 0] 36 (0, 0)))
      clear HF2
      have HF5 : Hid (((w.alloc (.cells #[.slice A n c, .slice A2 n2 c2, .int .i64 ar, .bool go, .int .i64 op] 36 (0, 0))).alloc (.cells #[.slice none 0 0, .slice none 0 0, .int .i64 0, .bool false, .int .i64 0] 36 (0, 0))).heap[w.heap.size + 1]? = some (.cells #[.slice none 0 0, .slice none 0 0, .int .i64 0, .bool false, .int .i64 0] 36 (0, 0))) := Lib.hid (blk_newN (W := (w.alloc (.cells #[.slice A n c, .slice A2 n2 c2, .int .i64 ar, .bool go, .int .i64 op] 36 (0, 0)))) (o := (.cells #[.slice none 0 0, .slice none 0 0, .int .i64 0, .bool false, .int .i64 0] 36 (0, 0))) (by simp))
      have HB6 := Lib.hid (HB3.out.alloc (by have := HB3.out.size; simp at this ⊢ <;> omega) (.cells #[.slice none 0 0, .slice none 0 0, .int .i64 0, .bool false, .int .i64 0] 36 (0, 0)))
      clear HB3
      obtain ⟨v, hv⟩ : ∃ v, v = ((w.alloc (.cells #[.slice A n c, .slice A2 n2 c2, .int .i64 ar, .bool go, .int .i64 op] 36 (0, 0))).alloc (.cells #[.slice none 0 0, .slice none 0 0, .int .i64 0, .bool false, .int .i64 0] 36 (0, 0))) := ⟨_, rfl⟩
      have HVv := Lib.hid hv
      rw [← hv] at HF4 HF5 HB6
      clear hv
      go_enter Tryz.func149, Tryz.ntmps149
      go_upto_region 1 with (fail)
      rw [← HVv.out]
      have hc7 : v.cell? ⟨w.heap.size, 2, none⟩ = some (.int .i64 ar) := by rw [cell_of_row _ _ _ _ _ _ HF4.out]; rfl
      have hc8 : v.cell? ⟨w.heap.size, 4, none⟩ = some (.int .i64 op) := by rw [cell_of_row _ _ _ _ _ _ HF4.out]; rfl
      have hz9 : v.frozen? ⟨w.heap.size, 2, none⟩ = false := frozen_of_row _ _ _ _ _ HF4.out
      have hz10 : v.frozen? ⟨w.heap.size, 4, none⟩ = false := frozen_of_row _ _ _ _ _ HF4.out
      go_upto_region 8 with (fail)
      clear hc7 hc8 hz9 hz10
      have HKK11 := Lib.hid (((KK.refl [w.heap.size] v).set (b := w.heap.size) (by simp) 2 (.int .i64 (ar - 1))).set (b := w.heap.size) (by simp) 4 (.int .i64 (op + 1)))
      have HF12 := Lib.hid (show ((v.setCell ⟨w.heap.size, 2, none⟩ (.int .i64 (ar - 1))).setCell ⟨w.heap.size, 4, none⟩ (.int .i64 (op + 1))).heap[w.heap.size]? = some (.cells #[.slice A n c, .slice A2 n2 c2, .int .i64 (ar - 1), .bool go, .int .i64 (op + 1)] 36 (0, 0)) by have q := heap_setCell_at (i := 4) (u := .int .i64 (op + 1)) (heap_setCell_at (i := 2) (u := .int .i64 (ar - 1)) (HF4.out)); exact q)
      have HF13 := Lib.hid (HKK11.out.blk HF5.out (by simp <;> omega))
      have HB14 := Lib.hid (HKK11.out.below HB6.out (fun b hb => by obtain rfl : b = w.heap.size := (by simpa using hb); omega) HB6.out.size)
      clear HB6 HF4 HF5
      generalize ((v.setCell ⟨w.heap.size, 2, none⟩ (.int .i64 (ar - 1))).setCell ⟨w.heap.size, 4, none⟩ (.int .i64 (op + 1))) = w1 at *
      go_wp2_with (first
        | refine wpList_store_rowY rfl 36 (.tmp 2) (.tmp 21) rfl (w.heap.size + 1) #[.slice A n c, .slice A2 n2 c2, .int .i64 (ar - 1), .bool go, .int .i64 (op + 1)] rfl rfl 36 _ HF13.out (info_rd) rfl (by simp [Value.oneCell']) w.heap.size w HB14.out (by omega) ?_
        | refine wpList_load_row rfl 36 (.tmp 1) rfl (w.heap.size) rfl 36 #[.slice A n c, .slice A2 n2 c2, .int .i64 (ar - 1), .bool go, .int .i64 (op + 1)] (0, 0) _ HF12.out Tryz.underlying36 rfl (info_rd) ?_)
      intro w2 hbk hoth hbel _
      have HF15 := Lib.hid (blk_oth HF12.out hoth.out (by omega))
      have HF16 := Lib.hid hbk.out
      have HB17 := Lib.hid hbel.out
      clear hbk hoth hbel HB14 HF12 HF13
      go_wp2_with fail
      unfold StepP
      rw [HS.out, HD.out, HM.out]
      refine bodyPost_ret (results_ctY rfl _ _ (w.heap.size + 1) #[.slice A n c, .slice A2 n2 c2, .int .i64 (ar - 1), .bool go, .int .i64 (op + 1)] rfl (run_loadVar_row _ (w.heap.size + 1) 36 36 _ (0, 0) _ HF16.out Tryz.underlying36 rfl (by kernel_rfl))) rfl ?_
      exact ⟨rfl, HB17.out⟩
    · have d2 : decide (ar > 1) = false := decide_eq_false hg
      have d3 : decide (1 < ar) = false := decide_eq_false hg
      have HM := Lib.hid (show max (ar - 1) 0 = ar by omega)
      clear hq
      have HB1 := Lib.hid (Below.refl w.heap.size w)
      have HF2 := Lib.hid (blk_new w (.cells #[.slice A n c, .slice A2 n2 c2, .int .i64 ar, .bool go, .int .i64 op] 36 (0, 0)))
      have HB3 := Lib.hid (HB1.out.alloc HB1.out.size (.cells #[.slice A n c, .slice A2 n2 c2, .int .i64 ar, .bool go, .int .i64 op] 36 (0, 0)))
      clear HB1
      have HF4 := Lib.hid (blk_alloc HF2.out (.cells #[.slice none 0 0, .slice none 0 0, .int .i64 0, .bool false, .int .i64 0] 36 (0, 0)))
      clear HF2
      have HF5 : Hid (((w.alloc (.cells #[.slice A n c, .slice A2 n2 c2, .int .i64 ar, .bool go, .int .i64 op] 36 (0, 0))).alloc (.cells #[.slice none 0 0, .slice none 0 0, .int .i64 0, .bool false, .int .i64 0] 36 (0, 0))).heap[w.heap.size + 1]? = some (.cells #[.slice none 0 0, .slice none 0 0, .int .i64 0, .bool false, .int .i64 0] 36 (0, 0))) := Lib.hid (blk_newN (W := (w.alloc (.cells #[.slice A n c, .slice A2 n2 c2, .int .i64 ar, .bool go, .int .i64 op] 36 (0, 0)))) (o := (.cells #[.slice none 0 0, .slice none 0 0, .int .i64 0, .bool false, .int .i64 0] 36 (0, 0))) (by simp))
      have HB6 := Lib.hid (HB3.out.alloc (by have := HB3.out.size; simp at this ⊢ <;> omega) (.cells #[.slice none 0 0, .slice none 0 0, .int .i64 0, .bool false, .int .i64 0] 36 (0, 0)))
      clear HB3
      obtain ⟨v, hv⟩ : ∃ v, v = ((w.alloc (.cells #[.slice A n c, .slice A2 n2 c2, .int .i64 ar, .bool go, .int .i64 op] 36 (0, 0))).alloc (.cells #[.slice none 0 0, .slice none 0 0, .int .i64 0, .bool false, .int .i64 0] 36 (0, 0))) := ⟨_, rfl⟩
      have HVv := Lib.hid hv
      rw [← hv] at HF4 HF5 HB6
      clear hv
      go_enter Tryz.func149, Tryz.ntmps149
      go_upto_region 1 with (fail)
      rw [← HVv.out]
      have hc7 : v.cell? ⟨w.heap.size, 2, none⟩ = some (.int .i64 ar) := by rw [cell_of_row _ _ _ _ _ _ HF4.out]; rfl
      have hc8 : v.cell? ⟨w.heap.size, 4, none⟩ = some (.int .i64 op) := by rw [cell_of_row _ _ _ _ _ _ HF4.out]; rfl
      have hz9 : v.frozen? ⟨w.heap.size, 4, none⟩ = false := frozen_of_row _ _ _ _ _ HF4.out
      go_upto_region 8 with (fail)
      clear hc7 hc8 hz9
      have HKK10 := Lib.hid ((KK.refl [w.heap.size] v).set (b := w.heap.size) (by simp) 4 (.int .i64 (op + 1)))
      have HF11 := Lib.hid (show (v.setCell ⟨w.heap.size, 4, none⟩ (.int .i64 (op + 1))).heap[w.heap.size]? = some (.cells #[.slice A n c, .slice A2 n2 c2, .int .i64 ar, .bool go, .int .i64 (op + 1)] 36 (0, 0)) by have q := heap_setCell_at (i := 4) (u := .int .i64 (op + 1)) (HF4.out); exact q)
      have HF12 := Lib.hid (HKK10.out.blk HF5.out (by simp <;> omega))
      have HB13 := Lib.hid (HKK10.out.below HB6.out (fun b hb => by obtain rfl : b = w.heap.size := (by simpa using hb); omega) HB6.out.size)
      clear HB6 HF4 HF5
      generalize (v.setCell ⟨w.heap.size, 4, none⟩ (.int .i64 (op + 1))) = w1 at *
      go_wp2_with (first
        | refine wpList_store_rowY rfl 36 (.tmp 2) (.tmp 21) rfl (w.heap.size + 1) #[.slice A n c, .slice A2 n2 c2, .int .i64 ar, .bool go, .int .i64 (op + 1)] rfl rfl 36 _ HF12.out (info_rd) rfl (by simp [Value.oneCell']) w.heap.size w HB13.out (by omega) ?_
        | refine wpList_load_row rfl 36 (.tmp 1) rfl (w.heap.size) rfl 36 #[.slice A n c, .slice A2 n2 c2, .int .i64 ar, .bool go, .int .i64 (op + 1)] (0, 0) _ HF11.out Tryz.underlying36 rfl (info_rd) ?_)
      intro w2 hbk hoth hbel _
      have HF14 := Lib.hid (blk_oth HF11.out hoth.out (by omega))
      have HF15 := Lib.hid hbk.out
      have HB16 := Lib.hid hbel.out
      clear hbk hoth hbel HB13 HF11 HF12
      go_wp2_with fail
      unfold StepP
      rw [HS.out, HD.out, HM.out]
      refine bodyPost_ret (results_ctY rfl _ _ (w.heap.size + 1) #[.slice A n c, .slice A2 n2 c2, .int .i64 ar, .bool go, .int .i64 (op + 1)] rfl (run_loadVar_row _ (w.heap.size + 1) 36 36 _ (0, 0) _ HF15.out Tryz.underlying36 rfl (by kernel_rfl))) rfl ?_
      exact ⟨rfl, HB16.out⟩
set_option maxRecDepth 100000 in
theorem rkept_any (A : Option Addr) (n c : Nat) (ks : List Int) (k : Int) (w : World) (h : RdX inC 1 w A n ks) (hn : n ≤ maxLen) :
    Calls Tryz.prog 153 #[.slice A n c, .int .i64 k] w fun e w' => e = .returned (.bool (ks.any fun x => x == k)) ∧ w = w' := by
  have H := Lib.hid h
  have hn1 : n ≤ 9223372036854775807 := Nat.le_trans hn (by decide)
  clear h hn
  go_enter Tryz.func153, Tryz.ntmps153
  go_wp2_with fail
  go_loop [5] (fun i => ∃ j : Nat, i = .int .i64 (j : Int) ∧ j ≤ n ∧ Hid ((ks.take j).any (fun x => x == k) = false)) (fun i => n - (intOf i).toNat)
  case atStart => exact ⟨0, rfl, Nat.zero_le _, Lib.hid rfl⟩
  case round =>
    obtain ⟨j, rfl, hj, HN⟩ := hrel
    by_cases hlt : j < n
    · have hd1 : decide ((j : Int) < (n : Int)) = true := decide_eq_true (by omega)
      have hi0 : (0 : Int) ≤ (j : Int) := by omega
      obtain ⟨b, off, hl2, rfl, hbb, hcell⟩ := H.out.at hlt
      have c0 := hcell 0 (.int .i64 ks[j]) rfl
      rw [Nat.mul_one, Nat.add_zero] at c0
      have HT := Lib.hid (any_snocF (fun x => x == k) ks j hl2)
      have HA := Lib.hid (any_at (fun x => x == k) ks j hl2)
      obtain ⟨x, hx⟩ : ∃ x, x = ks[j] := ⟨_, rfl⟩
      rw [← hx] at c0 HT HA
      clear hcell hx
      cases hz : (x == k) with
      | true =>
        have HR := Lib.hid (HA.out hz)
        clear HT HA
        go_wp2_with fail
        go_ret
        exact ⟨dk_retB HR.out.symm, rfl⟩
      | false =>
        have HT2 := Lib.hid (show (ks.take (j + 1)).any (fun x => x == k) = false by rw [HT.out, HN.out, hz]; rfl)
        clear HT HA
        go_wp2_with fail
        go_round
        case rel => exact ⟨j + 1, by go_num, by omega, HT2⟩
        case measure => simp [intOf] <;> omega
    · have hd1 : decide ((j : Int) < (n : Int)) = false := decide_eq_false (by omega)
      have HE := Lib.hid (show ks.take j = ks from List.take_of_length_le (by have := H.out.1; omega))
      have HR := Lib.hid (show false = ks.any (fun x => x == k) by rw [← HE.out]; exact HN.out.symm)
      clear HN
      go_wp2_with fail
      go_ret
      exact ⟨dk_retB HR.out, rfl⟩
end Go.Proofs.YtiflieaemgamkaaGreatDoor
