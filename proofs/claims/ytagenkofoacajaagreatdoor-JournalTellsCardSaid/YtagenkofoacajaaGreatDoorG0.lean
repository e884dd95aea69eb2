/- Several texts of one family, merged for a claim. Conditions as in its parts. -/
import Derived.Test.YtagenkofoacajaaGreatDoorPr
import Derived.Test.YtagenkofoacajaaGreatDoorZb
import Derived.Deep.DeepCutAuto
import Derived.IntWalk
import Derived.Deep.RegionHeld3
import Derived.Lib.MinMax
namespace Go.Proofs.YtagenkofoacajaaGreatDoor
open Go.RowKit Vi

structure KK (l : List Nat) (w W : World) : Prop where
  os : W.os = w.os
  tape : W.tape = w.tape
  output : W.output = w.output
  size : w.heap.size ≤ W.heap.size
  block : ∀ i, i < w.heap.size → i ∉ l → W.heap[i]? = w.heap[i]?
theorem KK.refl (l : List Nat) (w : World) : KK l w w := ⟨rfl, rfl, rfl, Nat.le_refl _, fun _ _ _ => rfl⟩
theorem KK.trans {l : List Nat} {a b c : World} (h : KK l a b) (k : KK l b c) : KK l a c :=
  ⟨k.os.trans h.os, k.tape.trans h.tape, k.output.trans h.output, Nat.le_trans h.size k.size, fun i hi hn => (k.block i (Nat.lt_of_lt_of_le hi h.size) hn).trans (h.block i hi hn)⟩
theorem KK.of_below {l : List Nat} {w w' : World} (h : Below w.heap.size w w') : KK l w w' := ⟨h.os, h.tape, h.output, h.size, fun k hk _ => h.block k hk⟩
theorem KK.of_but {l : List Nat} {b : Nat} {w w' : World} (h : But b w w') (hb : b ∈ l) : KK l w w' :=
  ⟨h.os, h.tape, h.output, h.size, fun i hi hn => h.block i hi (fun e => hn (by cases e; exact hb))⟩
theorem KK.drewl {l : List Nat} {w W : World} (k : KK l w.drew W) : KK l w W := ⟨k.os, k.tape, k.output, k.size, k.block⟩
theorem KK.alloc {l : List Nat} {a w : World} (h : KK l a w) (o : Obj) : KK l a (w.alloc o) := h.trans (KK.of_below ((Below.refl _ _).alloc (Nat.le_refl _) _))
theorem KK.set {l : List Nat} {a w : World} (h : KK l a w) {b : Nat} (hb : b ∈ l) (i : Nat) (u : Value) : KK l a (w.setCell ⟨b, i, none⟩ u) :=
  h.trans (KK.of_but ((But.refl b w).set i u) hb)
theorem KK.setNew {l : List Nat} {a w : World} (h : KK l a w) {b : Nat} (hb : a.heap.size ≤ b) (i : Nat) (u : Value) : KK l a (w.setCell ⟨b, i, none⟩ u) := by
  have k : KK [b] w (w.setCell ⟨b, i, none⟩ u) := KK.of_but ((But.refl b w).set i u) (by simp)
  exact ⟨k.os.trans h.os, k.tape.trans h.tape, k.output.trans h.output, Nat.le_trans h.size k.size, fun j hj hn => (k.block j (Nat.lt_of_lt_of_le hj h.size) (by simp; omega)).trans (h.block j hj hn)⟩
theorem KK.row {l : List Nat} {a w w' : World} {b n : Nat} (h : KK l a w) (hb : b ∈ l ∨ a.heap.size ≤ b) (hbel : Below n w w') (ho : ∀ k, k ≠ b → w'.heap[k]? = w.heap[k]?) : KK l a w' :=
  ⟨hbel.os.trans h.os, hbel.tape.trans h.tape, hbel.output.trans h.output, Nat.le_trans h.size hbel.size, fun i hi hn => (ho i (fun e => by
    rcases hb with hb | hb
    · exact hn (e ▸ hb)
    · omega)).trans (h.block i hi hn)⟩
theorem KK.below {l : List Nat} {n : Nat} {w0 w W : World} (k : KK l w W) (h : Below n w0 w) (hl : ∀ b ∈ l, n ≤ b) (hs : n ≤ w.heap.size) : Below n w0 W :=
  ⟨k.os.trans h.os, k.tape.trans h.tape, k.output.trans h.output, Nat.le_trans h.size k.size, fun i hi => (k.block i (Nat.lt_of_lt_of_le hi hs) (fun e => by have := hl i e; omega)).trans (h.block i hi)⟩
theorem KK.blk {l : List Nat} {w W : World} {b : Nat} {o : Obj} (k : KK l w W) (h : w.heap[b]? = some o) (hb : b ∉ l) : W.heap[b]? = some o := (k.block b (lt_of_block h) hb).trans h
theorem OwX.kk {α : Type} {f : α → List Value} {s : Nat} {T : TypeId} {w W : World} {B : Nat} {v : Value} {l : List α} {m : List Nat} (h : OwX f s T w B v l) (k : KK m w W) (hm : ∀ b ∈ m, b < B) : OwX f s T W B v l := by
  rcases h with ⟨h1, h | ⟨g, cap, cur, h2, h3, h4, h5⟩⟩
  · exact ⟨h1, .inl h⟩
  · exact ⟨h1, .inr ⟨g, cap, cur, h2, h3, k.blk h4 (fun e => by have := hm g e; omega), h5⟩⟩
/-- a row of another kind stays when one is appended to -/
theorem OwX.other {α β : Type} {f : α → List Value} {g : β → List Value} {s s' : Nat} {T T' : TypeId} {w w' : World} {B B' : Nat} {v v2 : Value} {l : List α} {l2 : List β} (h : OwX f s T w B v l) (k : OwX g s' T' w B' v2 l2) (hT : T ≠ T') (hg : w.grownBy w' v2.ownBlock) : OwX f s T w' B v l := by
  rcases h with ⟨h1, h | ⟨b, cap, cur, h2, h3, h4, h5⟩⟩
  · exact ⟨h1, .inl h⟩
  · refine ⟨h1, .inr ⟨b, cap, cur, h2, h3, ?_, h5⟩⟩
    rw [hg.block b (lt_of_block h4) (fun e => by
      rcases k.2 with ⟨hv, _⟩ | ⟨b2, cap2, cur2, hv, _, h6, _⟩
      · rw [hv] at e; simp [Value.ownBlock] at e
      · rw [hv] at e
        simp [Value.ownBlock] at e
        subst e
        rw [h6] at h4
        cases h4
        exact hT rfl)]
    exact h4
/-- a box of another kind stays, too -/
theorem OwX.box {β : Type} {g : β → List Value} {s' : Nat} {T' : TypeId} {w w' : World} {B' : Nat} {v2 : Value} {l2 : List β} (k : OwX g s' T' w B' v2 l2) (hg : w.grownBy w' v2.ownBlock) {b : Nat} {cs : Array Value} {T : TypeId} {fr : Nat × Nat} (h : w.heap[b]? = some (.cells cs T fr)) (hT : T ≠ T' ∨ b < B') : w'.heap[b]? = some (.cells cs T fr) := by
  rw [hg.block b (lt_of_block h) (fun e => by
    rcases k.2 with ⟨hv, _⟩ | ⟨b2, cap2, cur2, hv, hB, h6, _⟩
    · rw [hv] at e; simp [Value.ownBlock] at e
    · rw [hv] at e
      simp [Value.ownBlock] at e
      subst e
      rw [h6] at h
      cases h
      rcases hT with hT | hT
      · exact hT rfl
      · omega)]
  exact h
def slLen : Value → Nat
  | .slice _ n _ => n
  | _ => 0
theorem OwX.lenL {α : Type} {f : α → List Value} {s : Nat} {T : TypeId} {w : World} {B : Nat} {v : Value} {l : List α} (h : OwX f s T w B v l) : slLen v = l.length := by
  rcases h.2 with ⟨e, h0⟩ | ⟨g, cap, cur, e, _⟩
  · rw [e, h0]; rfl
  · rw [e]; rfl
theorem OwX.sl {α : Type} {f : α → List Value} {s : Nat} {T : TypeId} {w : World} {B : Nat} {v : Value} {l : List α} (h : OwX f s T w B v l) : ∃ A c, v = .slice A l.length c := by
  rcases h.2 with ⟨e, h0⟩ | ⟨g, cap, cur, e, _⟩
  · exact ⟨none, 0, by rw [e, h0]⟩
  · exact ⟨_, _, e⟩
theorem OwX.sl3 {α : Type} {f : α → List Value} {s : Nat} {T : TypeId} {w : World} {B : Nat} {v : Value} {l : List α} (h : OwX f s T w B v l) : ∃ A n c, v = .slice A n c := by
  obtain ⟨A, c, e⟩ := h.sl; exact ⟨A, _, c, e⟩
theorem OwX.one {α : Type} {f : α → List Value} {s : Nat} {T : TypeId} {w : World} {B : Nat} {v : Value} {l : List α} (h : OwX f s T w B v l) : v.oneCell' = true := by
  obtain ⟨A, c, rfl⟩ := h.sl; rfl
theorem step_appX {α : Type} {f : α → List Value} {s : Nat} {ops : Array Oper} {o : Oper} {a : Act} {K : Act → World → Prop} {Q : Exit → Act → World → Prop} {E : Prop} {w : World} (hgd : o.guard = none) (sl xo : Operand) (t e : TypeId) (z : Value) (bytes : Nat)
    (ho : o.op = .call { callee := .builtin .append, args := #[sl, xo], argTypes := #[t, t] })
    (hu : Tryz.prog.underlying t = some (.slice e)) (hinfo : (Tryz.prog.info? e).map (fun i => (i.zero, i.size, i.bytes)) = some (some z, s, bytes)) (hz : z.cells.size = s) (hs0 : 0 < s) (hby : bytes ≤ 100)
    (hf : ∀ x, (f x).length = s) (h1 : ∀ x, ∀ u ∈ f x, u.oneCell' = true)
    (B : Nat) (w0 : World) (hb : Below B w0 w) (hB : B ≤ w.heap.size) (v : Value) (l : List α) (hs : a.eval sl = v) (hown : OwX f s e w B v l)
    (bn c : Nat) (x : α) (cs : Array Value) (T' : TypeId) (fr : Nat × Nat) (hx : a.eval xo = .slice (some ⟨bn, 0, none⟩) 1 c) (hbn : w.heap[bn]? = some (.cells cs T' fr)) (hcs : cs.toList = f x) (hm : l.length + 1 ≤ 1000000)
    (h : ∀ v' w', Hid (OwX f s e w' B v' (l ++ [x])) → Hid (Below B w0 w') → Hid (B ≤ w'.heap.size) → Hid (w.grownBy w' v.ownBlock) → K (a.put o.dst v') w') :
    if Region.wanted o (yielded ops a.tmps) = true then Oper.wp Tryz.prog o a w K Q else E := by
  have hw : Region.wanted o (yielded ops a.tmps) = true := by simp [Region.wanted, hgd]
  rw [if_pos hw]
  obtain ⟨v', w', hr, h2, h3⟩ := run_appX hu hinfo hz hs0 hby hf h1 o.type B v l hown bn c x cs T' fr hbn hcs hm hB
  unfold Oper.wp execOp
  simp only [ho, resolve, invoke, builtin, Sem.run_bind, Sem.run_pure, Result.andThen_ok, List.map_toArray, List.map_cons, List.map_nil, hs, hx, hr]
  exact h v' w' h2 (hb.grown h3 hB (fun k hk => (World.ownsRow.lt hown k hk).1)) (Nat.le_trans hB h3.size) h3
end Go.Proofs.YtagenkofoacajaaGreatDoor

namespace Go.Proofs.YtagenkofoacajaaGreatDoor
open Go.RowKit Vi

/-- a disk's box -/
def dkO (sa : Option Addr) (sn sc : Nat) (ca : Option Addr) (cn cc : Nat) (mk dn : Bool) (ops fu : Int) : Obj := .cells #[.slice sa sn sc, .slice ca cn cc, .bool mk, .bool dn, .int .i64 ops, .int .i64 fu] 44 (0, 0)
theorem dk_retB {a b : Bool} (h : a = b) : Ending.returned (.bool a) = .returned (.bool b) := by rw [h]
theorem dk_retI {a b : Int} (h : a = b) : Ending.returned (.int .i64 a) = .returned (.int .i64 b) := by rw [h]
section
variable {D : Nat} {sa : Option Addr} {sn sc : Nat} {ca : Option Addr} {cn cc : Nat} {mk dn : Bool} {ops fu : Int} {w : World}
theorem dk_cells (h : w.heap[D]? = some (dkO sa sn sc ca cn cc mk dn ops fu)) : w.cell? ⟨D, 0, none⟩ = some (.slice sa sn sc) ∧ w.cell? ⟨D, 1, none⟩ = some (.slice ca cn cc) ∧ w.cell? ⟨D, 2, none⟩ = some (.bool mk) ∧ w.cell? ⟨D, 3, none⟩ = some (.bool dn) ∧ w.cell? ⟨D, 4, none⟩ = some (.int .i64 ops) ∧ w.cell? ⟨D, 5, none⟩ = some (.int .i64 fu) :=
  ⟨(cell_of_row _ _ _ _ _ _ h).trans rfl, (cell_of_row _ _ _ _ _ _ h).trans rfl, (cell_of_row _ _ _ _ _ _ h).trans rfl, (cell_of_row _ _ _ _ _ _ h).trans rfl, (cell_of_row _ _ _ _ _ _ h).trans rfl, (cell_of_row _ _ _ _ _ _ h).trans rfl⟩
end
theorem dsec_any (s : ByteArray) (w : World) : Calls Tryz.prog 73 #[.string s] w fun e w' => e = .returned (.bool (decide (s.size = 128))) ∧ w = w' := by
  by_cases h : s.size = 128
  · have d1 : ((s.size : Int) == 128) = true := by simp; omega
    have HR := Lib.hid (show true = decide (s.size = 128) from (decide_eq_true h).symm)
    clear h
    go_enter Tryz.func73, Tryz.ntmps73
    go_wp2_with fail
    go_ret
    exact ⟨dk_retB HR.out, rfl⟩
  · have d1 : ((s.size : Int) == 128) = false := by rw [beq_eq_false_iff_ne]; omega
    have HR := Lib.hid (show false = decide (s.size = 128) from (decide_eq_false h).symm)
    clear h
    go_enter Tryz.func73, Tryz.ntmps73
    go_wp2_with fail
    go_ret
    exact ⟨dk_retB HR.out, rfl⟩
theorem dsize_any (n : Int) (w : World) : Calls Tryz.prog 25 #[.int .i64 n] w fun e w' => e = .returned (.bool (decide (16 ≤ n ∧ n ≤ 4096))) ∧ w = w' := by
  by_cases h : 16 ≤ n
  · have d1 : decide ((16 : Int) ≤ n) = true := decide_eq_true h
    have d1' : decide (n ≥ (16 : Int)) = true := decide_eq_true h
    by_cases k : n ≤ 4096
    · have d2 : decide (n ≤ (4096 : Int)) = true := decide_eq_true k
      have HR := Lib.hid (show true = decide (16 ≤ n ∧ n ≤ 4096) from (decide_eq_true ⟨h, k⟩).symm)
      clear h k
      go_enter Tryz.func25, Tryz.ntmps25
      go_wp2_with fail
      go_ret
      exact ⟨dk_retB HR.out, rfl⟩
    · have d2 : decide (n ≤ (4096 : Int)) = false := decide_eq_false k
      have HR := Lib.hid (show false = decide (16 ≤ n ∧ n ≤ 4096) from (decide_eq_false fun q => k q.2).symm)
      clear h k
      go_enter Tryz.func25, Tryz.ntmps25
      go_wp2_with fail
      go_ret
      exact ⟨dk_retB HR.out, rfl⟩
  · have d1 : decide ((16 : Int) ≤ n) = false := decide_eq_false h
    have d1' : decide (n ≥ (16 : Int)) = false := decide_eq_false h
    have HR := Lib.hid (show false = decide (16 ≤ n ∧ n ≤ 4096) from (decide_eq_false fun q => h q.1).symm)
    clear h
    go_enter Tryz.func25, Tryz.ntmps25
    go_wp2_with fail
    go_ret
    exact ⟨dk_retB HR.out, rfl⟩
theorem dhas_any (D : Nat) (sa : Option Addr) (sn sc : Nat) (i : Int) (w : World) (h : w.cell? ⟨D, 0, none⟩ = some (.slice sa sn sc)) : Calls Tryz.prog 54 #[.pointer (some ⟨D, 0, none⟩), .int .i64 i] w fun e w' => e = .returned (.bool (decide (0 ≤ i ∧ i < (sn : Int)))) ∧ w = w' := by
  by_cases q : 0 ≤ i
  · have d1 : decide ((0 : Int) ≤ i) = true := decide_eq_true q
    have d1' : decide (i ≥ (0 : Int)) = true := decide_eq_true q
    by_cases k : i < (sn : Int)
    · have d2 : decide (i < (sn : Int)) = true := decide_eq_true k
      have HR := Lib.hid (show true = decide (0 ≤ i ∧ i < (sn : Int)) from (decide_eq_true ⟨q, k⟩).symm)
      clear q k
      go_enter Tryz.func54, Tryz.ntmps54
      go_wp2_with fail
      go_ret
      exact ⟨dk_retB HR.out, rfl⟩
    · have d2 : decide (i < (sn : Int)) = false := decide_eq_false k
      have HR := Lib.hid (show false = decide (0 ≤ i ∧ i < (sn : Int)) from (decide_eq_false fun z => k z.2).symm)
      clear q k
      go_enter Tryz.func54, Tryz.ntmps54
      go_wp2_with fail
      go_ret
      exact ⟨dk_retB HR.out, rfl⟩
  · have d1 : decide ((0 : Int) ≤ i) = false := decide_eq_false q
    have d1' : decide (i ≥ (0 : Int)) = false := decide_eq_false q
    have HR := Lib.hid (show false = decide (0 ≤ i ∧ i < (sn : Int)) from (decide_eq_false fun z => q z.1).symm)
    clear q
    go_enter Tryz.func54, Tryz.ntmps54
    go_wp2_with fail
    go_ret
    exact ⟨dk_retB HR.out, rfl⟩
/-- why a text can't be written to a sector -/
def dckE (sn : Nat) (i : Int) (s : ByteArray) : Int := if 0 ≤ i ∧ i < (sn : Int) then (if s.size = 128 then 0 else 2) else 8
theorem dcheck_any (D : Nat) (sa : Option Addr) (sn sc : Nat) (i : Int) (s : ByteArray) (w : World) (h : w.cell? ⟨D, 0, none⟩ = some (.slice sa sn sc)) : Calls Tryz.prog 68 #[.pointer (some ⟨D, 0, none⟩), .int .i64 i, .string s] w fun e w' => e = .returned (.int .i64 (dckE sn i s)) ∧ w = w' := by
  have H1 := Lib.hid (dhas_any D sa sn sc i w h)
  have H2 := Lib.hid (dsec_any s w)
  by_cases q : 0 ≤ i ∧ i < (sn : Int)
  · rw [decide_eq_true q] at H1
    by_cases k : s.size = 128
    · rw [decide_eq_true k] at H2
      have HR := Lib.hid (show (0 : Int) = dckE sn i s by unfold dckE; rw [if_pos q, if_pos k])
      clear q k
      go_enter Tryz.func68, Tryz.ntmps68
      go_wp2_with fail
      refine H1.out.mono ?_
      rintro e w' ⟨rfl, rfl⟩
      go_wp2_with fail
      refine H2.out.mono ?_
      rintro e w' ⟨rfl, rfl⟩
      go_wp2_with fail
      go_ret
      exact ⟨dk_retI HR.out, rfl⟩
    · rw [decide_eq_false k] at H2
      have HR := Lib.hid (show (2 : Int) = dckE sn i s by unfold dckE; rw [if_pos q, if_neg k])
      clear q k
      go_enter Tryz.func68, Tryz.ntmps68
      go_wp2_with fail
      refine H1.out.mono ?_
      rintro e w' ⟨rfl, rfl⟩
      go_wp2_with fail
      refine H2.out.mono ?_
      rintro e w' ⟨rfl, rfl⟩
      go_wp2_with fail
      go_ret
      exact ⟨dk_retI HR.out, rfl⟩
  · rw [decide_eq_false q] at H1
    have HR := Lib.hid (show (8 : Int) = dckE sn i s by unfold dckE; rw [if_neg q])
    clear q
    go_enter Tryz.func68, Tryz.ntmps68
    go_wp2_with fail
    refine H1.out.mono ?_
    rintro e w' ⟨rfl, rfl⟩
    go_wp2_with fail
    go_ret
    exact ⟨dk_retI HR.out, rfl⟩
theorem dmade_nil (w : World) : Calls Tryz.prog 28 #[.pointer none] w fun e w' => e = .returned (.bool false) ∧ w = w' := by
  go_enter Tryz.func28, Tryz.ntmps28
  go_wp2_with fail
  go_ret
  exact ⟨rfl, rfl⟩
theorem dmade_any (D : Nat) (sa : Option Addr) (sn sc : Nat) (ca : Option Addr) (cn cc : Nat) (mk dn : Bool) (ops fu : Int) (w : World) (h : w.heap[D]? = some (dkO sa sn sc ca cn cc mk dn ops fu)) : Calls Tryz.prog 28 #[.pointer (some ⟨D, 0, none⟩)] w fun e w' => e = .returned (.bool mk) ∧ w = w' := by
  obtain ⟨c0, c1, c2, c3, c4, c5⟩ := dk_cells h
  clear h c0 c1 c3 c4 c5
  go_enter Tryz.func28, Tryz.ntmps28
  cases mk
  all_goals
    go_wp2_with fail
    go_ret
    exact ⟨rfl, rfl⟩
theorem dready_nil (w : World) : Calls Tryz.prog 47 #[.pointer none] w fun e w' => e = .returned (.int .i64 1) ∧ w = w' := by
  have HM := Lib.hid (dmade_nil w)
  go_enter Tryz.func47, Tryz.ntmps47
  go_wp2_with fail
  refine HM.out.mono ?_
  rintro e w' ⟨rfl, rfl⟩
  go_wp2_with fail
  go_ret
  exact ⟨rfl, rfl⟩
theorem dready_no (D : Nat) (sa : Option Addr) (sn sc : Nat) (ca : Option Addr) (cn cc : Nat) (dn : Bool) (ops fu : Int) (w : World) (h : w.heap[D]? = some (dkO sa sn sc ca cn cc false dn ops fu)) : Calls Tryz.prog 47 #[.pointer (some ⟨D, 0, none⟩)] w fun e w' => e = .returned (.int .i64 1) ∧ w = w' := by
  have HM := Lib.hid (dmade_any D sa sn sc ca cn cc false dn ops fu w h)
  clear h
  go_enter Tryz.func47, Tryz.ntmps47
  go_wp2_with fail
  refine HM.out.mono ?_
  rintro e w' ⟨rfl, rfl⟩
  go_wp2_with fail
  go_ret
  exact ⟨rfl, rfl⟩
theorem dready_any (D : Nat) (sa : Option Addr) (sn sc : Nat) (ca : Option Addr) (cn cc : Nat) (dn : Bool) (ops fu : Int) (w : World) (h : w.heap[D]? = some (dkO sa sn sc ca cn cc true dn ops fu)) : Calls Tryz.prog 47 #[.pointer (some ⟨D, 0, none⟩)] w fun e w' => e = .returned (.int .i64 (if dn = true then 7 else 0)) ∧ w = w' := by
  have HM := Lib.hid (dmade_any D sa sn sc ca cn cc true dn ops fu w h)
  obtain ⟨c0, c1, c2, c3, c4, c5⟩ := dk_cells h
  clear h
  cases dn
  all_goals
    go_enter Tryz.func47, Tryz.ntmps47
    go_wp2_with fail
    refine HM.out.mono ?_
    rintro e w' ⟨rfl, rfl⟩
    go_wp2_with fail
    go_ret
    exact ⟨rfl, rfl⟩
theorem dszz_nil (w : World) : Calls Tryz.prog 16 #[.pointer none] w fun e w' => e = .returned (.int .i64 0) ∧ w = w' := by
  have HM := Lib.hid (dmade_nil w)
  go_enter Tryz.func16, Tryz.ntmps16
  go_wp2_with fail
  refine HM.out.mono ?_
  rintro e w' ⟨rfl, rfl⟩
  go_wp2_with fail
  go_ret
  exact ⟨rfl, rfl⟩
theorem dszz_no (D : Nat) (sa : Option Addr) (sn sc : Nat) (ca : Option Addr) (cn cc : Nat) (dn : Bool) (ops fu : Int) (w : World) (h : w.heap[D]? = some (dkO sa sn sc ca cn cc false dn ops fu)) : Calls Tryz.prog 16 #[.pointer (some ⟨D, 0, none⟩)] w fun e w' => e = .returned (.int .i64 0) ∧ w = w' := by
  have HM := Lib.hid (dmade_any D sa sn sc ca cn cc false dn ops fu w h)
  clear h
  go_enter Tryz.func16, Tryz.ntmps16
  go_wp2_with fail
  refine HM.out.mono ?_
  rintro e w' ⟨rfl, rfl⟩
  go_wp2_with fail
  go_ret
  exact ⟨rfl, rfl⟩
theorem dszz_any (D : Nat) (sa : Option Addr) (sn sc : Nat) (ca : Option Addr) (cn cc : Nat) (dn : Bool) (ops fu : Int) (w : World) (h : w.heap[D]? = some (dkO sa sn sc ca cn cc true dn ops fu)) : Calls Tryz.prog 16 #[.pointer (some ⟨D, 0, none⟩)] w fun e w' => e = .returned (.int .i64 (sn : Int)) ∧ w = w' := by
  have HM := Lib.hid (dmade_any D sa sn sc ca cn cc true dn ops fu w h)
  obtain ⟨c0, c1, c2, c3, c4, c5⟩ := dk_cells h
  clear h
  go_enter Tryz.func16, Tryz.ntmps16
  go_wp2_with fail
  refine HM.out.mono ?_
  rintro e w' ⟨rfl, rfl⟩
  go_wp2_with fail
  go_ret
  exact ⟨rfl, rfl⟩
theorem dops_nil (w : World) : Calls Tryz.prog 13 #[.pointer none] w fun e w' => e = .returned (.int .i64 0) ∧ w = w' := by
  have HM := Lib.hid (dmade_nil w)
  go_enter Tryz.func13, Tryz.ntmps13
  go_wp2_with fail
  refine HM.out.mono ?_
  rintro e w' ⟨rfl, rfl⟩
  go_wp2_with fail
  go_ret
  exact ⟨rfl, rfl⟩
theorem dops_no (D : Nat) (sa : Option Addr) (sn sc : Nat) (ca : Option Addr) (cn cc : Nat) (dn : Bool) (ops fu : Int) (w : World) (h : w.heap[D]? = some (dkO sa sn sc ca cn cc false dn ops fu)) : Calls Tryz.prog 13 #[.pointer (some ⟨D, 0, none⟩)] w fun e w' => e = .returned (.int .i64 0) ∧ w = w' := by
  have HM := Lib.hid (dmade_any D sa sn sc ca cn cc false dn ops fu w h)
  clear h
  go_enter Tryz.func13, Tryz.ntmps13
  go_wp2_with fail
  refine HM.out.mono ?_
  rintro e w' ⟨rfl, rfl⟩
  go_wp2_with fail
  go_ret
  exact ⟨rfl, rfl⟩
theorem dops_any (D : Nat) (sa : Option Addr) (sn sc : Nat) (ca : Option Addr) (cn cc : Nat) (dn : Bool) (ops fu : Int) (w : World) (h : w.heap[D]? = some (dkO sa sn sc ca cn cc true dn ops fu)) : Calls Tryz.prog 13 #[.pointer (some ⟨D, 0, none⟩)] w fun e w' => e = .returned (.int .i64 ops) ∧ w = w' := by
  have HM := Lib.hid (dmade_any D sa sn sc ca cn cc true dn ops fu w h)
  obtain ⟨c0, c1, c2, c3, c4, c5⟩ := dk_cells h
  clear h
  go_enter Tryz.func13, Tryz.ntmps13
  go_wp2_with fail
  refine HM.out.mono ?_
  rintro e w' ⟨rfl, rfl⟩
  go_wp2_with fail
  go_ret
  exact ⟨rfl, rfl⟩
theorem dall_any (i : Int) (w : World) : Calls Tryz.prog 51 #[.int .i64 i] w fun e w' => e = .returned (.bool true) ∧ w = w' := by
  go_enter Tryz.func51, Tryz.ntmps51
  go_wp2_with fail
  go_ret
  exact ⟨rfl, rfl⟩
/-- the power goes, or comes back -/
theorem dturn_any (D : Nat) (sa : Option Addr) (sn sc : Nat) (ca : Option Addr) (cn cc : Nat) (mk dn : Bool) (ops fu : Int) (b : Bool) (w : World) (h : w.heap[D]? = some (dkO sa sn sc ca cn cc mk dn ops fu)) : Calls Tryz.prog 70 #[.pointer (some ⟨D, 0, none⟩), .bool b] w fun e w' => e = .returned (.tuple #[]) ∧ w'.heap[D]? = some (dkO sa sn sc ca cn cc mk b ops 0) ∧ KK [D] w w' := by
  have H := Lib.hid h
  obtain ⟨c0, c1, c2, c3, c4, c5⟩ := dk_cells h
  have f3 : w.frozen? ⟨D, 3, none⟩ = false := frozen_of_row _ _ _ _ _ h
  have f5 : w.frozen? ⟨D, 5, none⟩ = false := frozen_of_row _ _ _ _ _ h
  clear h
  go_enter Tryz.func70, Tryz.ntmps70
  go_wp2_with fail
  have HR : Hid (((w.setCell ⟨D, 3, none⟩ (.bool b)).setCell ⟨D, 5, none⟩ (.int .i64 0)).heap[D]? = some (dkO sa sn sc ca cn cc mk b ops 0)) := Lib.hid (by have q := heap_setCell_at (i := 5) (u := .int .i64 0) (heap_setCell_at (i := 3) (u := .bool b) H.out); exact q)
  have HK := Lib.hid (((KK.refl [D] w).set (b := D) (by simp) 3 (.bool b)).set (b := D) (by simp) 5 (.int .i64 0))
  refine bodyPost_end (results_none rfl _ _ _) rfl ?_
  exact ⟨rfl, HR.out, HK.out⟩
end Go.Proofs.YtagenkofoacajaaGreatDoor

namespace Go.Proofs.YtagenkofoacajaaGreatDoor
open Go.RowKit Vi

theorem RdX.cellAt {α : Type} {f : α → List Value} {s : Nat} {w : World} {n b off k : Nat} {l : List α} {x : α} (h : RdX f s w (some ⟨b, off, none⟩) n l) (hx : l[k]? = some x) (hk : k < n) (j : Nat) (u : Value) (hu : (f x)[j]? = some u) : w.cell? ⟨b, off + k * s + j, none⟩ = some u := by
  obtain ⟨b2, off2, e, _, hc⟩ := h.2 (by omega)
  cases e
  exact hc k x j u hx hu
theorem of_same {P : Program} {f : FuncId} {args : Array Value} {W : World} {v : Value} (h : Calls P f args W fun e w' => e = .returned v ∧ W = w') : Calls P f args W fun e w' => e = .returned v ∧ Below W.heap.size W w' :=
  h.mono fun _ _ ⟨h1, h2⟩ => ⟨h1, h2 ▸ Below.refl _ _⟩
theorem of_drew {P : Program} {f : FuncId} {args : Array Value} {W : World} {v : Value} (h : Calls P f args W fun e w' => e = .returned v ∧ ∃ q, w' = W.drewN q) : Calls P f args W fun e w' => e = .returned v ∧ Below W.heap.size W w' :=
  h.mono fun _ _ ⟨h1, q, h2⟩ => ⟨h1, by subst h2; exact ⟨rfl, rfl, rfl, Nat.le_refl _, fun _ _ => rfl⟩⟩
def stC (s : ByteArray) : List Value := [.string s]
theorem stC_len (s : ByteArray) : (stC s).length = 1 := rfl
theorem stC_one (p : ByteArray) : ∀ u ∈ stC p, u.oneCell' = true := by
  intro u hu
  simp [stC] at hu
  subst hu; rfl
theorem info_stA : (Tryz.prog.info? 9).map (fun i => (i.zero, i.size, i.bytes)) = some (some (.string ⟨#[]⟩), 1, 16) := by kernel_rfl
end Go.Proofs.YtagenkofoacajaaGreatDoor

namespace Go.Proofs.YtagenkofoacajaaGreatDoor
open Go.RowKit Vi

abbrev Wr := Int × ByteArray
def wrC (x : Wr) : List Value := [.int .i64 x.1, .string x.2]
theorem wrC_len (x : Wr) : (wrC x).length = 2 := rfl
theorem wrC_one (x : Wr) : ∀ u ∈ wrC x, u.oneCell' = true := by
  intro u hu
  simp [wrC] at hu
  rcases hu with rfl | rfl <;> rfl
theorem info_wrB : (Tryz.prog.info? 111).map (fun i => (i.zero, i.size, i.bytes)) = some (some (.agg #[.int .i64 0, .string ⟨#[]⟩]), 2, 24) := by kernel_rfl
theorem flat_st (l : List ByteArray) : flat stC l = l.map Value.string := by
  induction l with
  | nil => rfl
  | cons x r ih =>
    show stC x ++ flat stC r = _
    rw [ih]
    rfl
theorem OwX.setS {w : World} {B g n c i : Nat} {T : TypeId} {SS : List ByteArray} (s : ByteArray) (h : OwX stC 1 T w B (.slice (some ⟨g, 0, none⟩) n c) SS) : OwX stC 1 T (w.setCell ⟨g, i, none⟩ (.string s)) B (.slice (some ⟨g, 0, none⟩) n c) (SS.set i s) := by
  unfold OwX at h ⊢
  rw [flat_st] at h ⊢
  rcases h with ⟨h1, h | ⟨g', cap, cur, h2, h3, h4, h5, h6, h7, h8⟩⟩
  · cases h.1
  · injection h2 with e1 e2 e3
    injection e1 with e1
    injection e1 with e1
    subst e1
    refine ⟨by rw [List.length_map, List.length_set] at *; exact h1, .inr ⟨g, cap, cur.setIfInBounds i (.string s), by rw [List.length_set, e2, e3], h3, ?_, by rw [List.length_set]; exact h5, h6, by rw [Array.size_setIfInBounds]; exact h7, ?_⟩⟩
    · exact heap_setCell_at (i := i) (u := .string s) h4
    · rw [Array.toList_setIfInBounds, List.length_set, List.take_set, h8, List.map_set]
theorem OwX.kkD {α : Type} {f : α → List Value} {s : Nat} {T : TypeId} {w W : World} {B g : Nat} {v : Value} {l : List α} {cs : Array Value} {T' : TypeId} {fr : Nat × Nat} (h : OwX f s T w B v l) (k : KK [g] w W) (hg : w.heap[g]? = some (.cells cs T' fr)) (hT : T ≠ T') : OwX f s T W B v l := by
  rcases h with ⟨h1, h | ⟨b, cap, cur, h2, h3, h4, h5⟩⟩
  · exact ⟨h1, .inl h⟩
  · exact ⟨h1, .inr ⟨b, cap, cur, h2, h3, k.blk h4 (fun e => by
      have e1 : b = g := by simpa using e
      subst e1
      rw [hg] at h4
      cases h4
      exact hT rfl), h5⟩⟩
/-- a disk that is there -/
structure DK (D : Nat) (SS : List ByteArray) (CC : List Wr) (dn : Bool) (ops fu : Int) (w : World) : Prop where
  box : ∃ (sa : Option Addr) (sn sc : Nat) (ca : Option Addr) (cn cc : Nat), w.heap[D]? = some (dkO sa sn sc ca cn cc true dn ops fu) ∧ OwX stC 1 9 w 0 (.slice sa sn sc) SS ∧ OwX wrC 2 111 w 0 (.slice ca cn cc) CC
  at' : ∀ x ∈ CC, 0 ≤ x.1 ∧ x.1 < (SS.length : Int) ∧ x.2.size = 128
theorem DK.kept {D : Nat} {SS : List ByteArray} {CC : List Wr} {dn : Bool} {ops fu : Int} {w w' : World} (h : DK D SS CC dn ops fu w) (hb : Below w.heap.size w w') : DK D SS CC dn ops fu w' := by
  obtain ⟨⟨sa, sn, sc, ca, cn, cc, h1, h2, h3⟩, h4⟩ := h
  exact ⟨⟨sa, sn, sc, ca, cn, cc, blk_below h1 hb, h2.kept hb, h3.kept hb⟩, h4⟩
/-- a block is a disk's own: its box, or that of one of its rows -/
def InD (D : Nat) (w : World) (b : Nat) : Prop := b = D ∨ (∃ o n c, w.cell? ⟨D, 0, none⟩ = some (.slice (some ⟨b, o, none⟩) n c)) ∨ (∃ o n c, w.cell? ⟨D, 1, none⟩ = some (.slice (some ⟨b, o, none⟩) n c))
/-- only a disk's own blocks have turned, and no other old one has become its own -/
structure Kd (D : Nat) (w w' : World) : Prop where
  os : w'.os = w.os
  tape : w'.tape = w.tape
  output : w'.output = w.output
  size : w.heap.size ≤ w'.heap.size
  block : ∀ b, b < w.heap.size → ¬ InD D w b → w'.heap[b]? = w.heap[b]?
  ind : ∀ b, b < w.heap.size → InD D w' b → InD D w b
theorem Kd.refl (D : Nat) (w : World) : Kd D w w := ⟨rfl, rfl, rfl, Nat.le_refl _, fun _ _ _ => rfl, fun _ _ h => h⟩
theorem Kd.trans {D : Nat} {a b c : World} (h : Kd D a b) (k : Kd D b c) : Kd D a c :=
  ⟨k.os.trans h.os, k.tape.trans h.tape, k.output.trans h.output, Nat.le_trans h.size k.size, fun i hi hn => (k.block i (Nat.lt_of_lt_of_le hi h.size) (fun q => hn (h.ind i hi q))).trans (h.block i hi hn), fun i hi q => h.ind i hi (k.ind i (Nat.lt_of_lt_of_le hi h.size) q)⟩
theorem Kd.of_below {D : Nat} {w w' : World} (hb : Below w.heap.size w w') (hD : D < w.heap.size) : Kd D w w' :=
  ⟨hb.os, hb.tape, hb.output, hb.size, fun b hb' _ => hb.block b hb', fun b _ q => by
    rcases q with q | ⟨o, n, c, q⟩ | ⟨o, n, c, q⟩
    · exact .inl q
    · exact .inr (.inl ⟨o, n, c, by rw [← hb.cell (p := ⟨D, 0, none⟩) hD]; exact q⟩)
    · exact .inr (.inr ⟨o, n, c, by rw [← hb.cell (p := ⟨D, 1, none⟩) hD]; exact q⟩)⟩
theorem InD.self (D : Nat) (w : World) : InD D w D := .inl rfl
section
variable {D : Nat} {sa : Option Addr} {sn sc : Nat} {ca : Option Addr} {cn cc : Nat} {mk dn : Bool} {ops fu : Int} {w : World}
theorem InD.safe {g o : Nat} (h : w.heap[D]? = some (dkO (some ⟨g, o, none⟩) sn sc ca cn cc mk dn ops fu)) : InD D w g := .inr (.inl ⟨o, sn, sc, (dk_cells h).1⟩)
theorem InD.cache {g o : Nat} (h : w.heap[D]? = some (dkO sa sn sc (some ⟨g, o, none⟩) cn cc mk dn ops fu)) : InD D w g := .inr (.inr ⟨o, cn, cc, (dk_cells h).2.1⟩)
theorem InD.cases {b : Nat} (h : w.heap[D]? = some (dkO sa sn sc ca cn cc mk dn ops fu)) (q : InD D w b) : b = D ∨ (∃ o, sa = some ⟨b, o, none⟩) ∨ ∃ o, ca = some ⟨b, o, none⟩ := by
  rcases q with q | ⟨o, n, c, q⟩ | ⟨o, n, c, q⟩
  · exact .inl q
  · rw [(dk_cells h).1] at q
    cases q
    exact .inr (.inl ⟨o, rfl⟩)
  · rw [(dk_cells h).2.1] at q
    cases q
    exact .inr (.inr ⟨o, rfl⟩)
theorem Kd.of_box {sa' : Option Addr} {sn' sc' : Nat} {ca' : Option Addr} {cn' cc' : Nat} {mk' dn' : Bool} {ops' fu' : Int} {w' : World} {l : List Nat} (k : KK l w w') (hl : ∀ b ∈ l, InD D w b)
    (h : w.heap[D]? = some (dkO sa sn sc ca cn cc mk dn ops fu)) (h' : w'.heap[D]? = some (dkO sa' sn' sc' ca' cn' cc' mk' dn' ops' fu'))
    (hs : ∀ b o, sa' = some ⟨b, o, none⟩ → InD D w b ∨ w.heap.size ≤ b) (hc : ∀ b o, ca' = some ⟨b, o, none⟩ → InD D w b ∨ w.heap.size ≤ b) : Kd D w w' :=
  ⟨k.os, k.tape, k.output, k.size, fun b hb hn => k.block b hb (fun q => hn (hl b q)), fun b hb q => by
    rcases q.cases h' with q | ⟨o, q⟩ | ⟨o, q⟩
    · subst q; exact .inl rfl
    · rcases hs b o q with r | r
      · exact r
      · omega
    · rcases hc b o q with r | r
      · exact r
      · omega⟩
/-- the box's rows stay -/
theorem Kd.of_same {mk' dn' : Bool} {ops' fu' : Int} {w' : World} (k : KK [D] w w') (h : w.heap[D]? = some (dkO sa sn sc ca cn cc mk dn ops fu)) (h' : w'.heap[D]? = some (dkO sa sn sc ca cn cc mk' dn' ops' fu')) : Kd D w w' :=
  Kd.of_box k (fun b hb => by obtain rfl : b = D := (by simpa using hb); exact .inl rfl) h h' (fun b o e => .inl (by subst e; exact InD.safe h)) (fun b o e => .inl (by subst e; exact InD.cache h))
/-- the cache is gone -/
theorem Kd.of_none {mk' dn' : Bool} {ops' fu' : Int} {w' : World} (k : KK [D] w w') (h : w.heap[D]? = some (dkO sa sn sc ca cn cc mk dn ops fu)) (h' : w'.heap[D]? = some (dkO sa sn sc none 0 0 mk' dn' ops' fu')) : Kd D w w' :=
  Kd.of_box k (fun b hb => by obtain rfl : b = D := (by simpa using hb); exact .inl rfl) h h' (fun b o e => .inl (by subst e; exact InD.safe h)) (fun b o e => by cases e)
end
theorem DK.lt {D : Nat} {SS : List ByteArray} {CC : List Wr} {dn : Bool} {ops fu : Int} {w : World} (h : DK D SS CC dn ops fu w) : D < w.heap.size := by
  obtain ⟨⟨sa, sn, sc, ca, cn, cc, h1, h2, h3⟩, h4⟩ := h
  exact lt_of_block h1
theorem own_lt {α : Type} {f : α → List Value} {s : Nat} {T : TypeId} {w : World} {B g o n c : Nat} {l : List α} (h : OwX f s T w B (.slice (some ⟨g, o, none⟩) n c) l) : g < w.heap.size := by
  rcases h.2 with ⟨e, _⟩ | ⟨g', cap, cur, e, _, h4, _⟩
  · cases e
  · injection e with e _ _
    injection e with e
    injection e with e _ _
    subst e
    exact lt_of_block h4
/-- what is new is none of a disk's own -/
theorem DK.new {D : Nat} {SS : List ByteArray} {CC : List Wr} {dn : Bool} {ops fu : Int} {w : World} (h : DK D SS CC dn ops fu w) {b : Nat} (q : InD D w b) : b < w.heap.size := by
  obtain ⟨⟨sa, sn, sc, ca, cn, cc, h1, h2, h3⟩, h4⟩ := h
  rcases q.cases h1 with q | ⟨o, q⟩ | ⟨o, q⟩
  · subst q; exact lt_of_block h1
  · subst q; exact own_lt h2
  · subst q; exact own_lt h3
/-- a row that reads as a list and is none of a disk's own -/
def RdA {α : Type} (D : Nat) (f : α → List Value) (s : Nat) (w : World) (A : Option Addr) (n : Nat) (l : List α) : Prop := RdX f s w A n l ∧ (0 < n → ∀ b o, A = some ⟨b, o, none⟩ → ¬ InD D w b)
theorem RdA.kd {α : Type} {D : Nat} {f : α → List Value} {s : Nat} {w w' : World} {A : Option Addr} {n : Nat} {l : List α} (h : RdA D f s w A n l) (k : Kd D w w') : RdA D f s w' A n l := by
  obtain ⟨⟨h1, h2⟩, h3⟩ := h
  refine ⟨⟨h1, fun hn => ?_⟩, fun hn b o e q => ?_⟩
  · obtain ⟨b, off, e, hb, hc⟩ := h2 hn
    exact ⟨b, off, e, Nat.lt_of_lt_of_le hb k.size, fun i x j u hx hu => (World.cell?_of_block (k.block b hb (h3 hn b off e))).trans (hc i x j u hx hu)⟩
  · obtain ⟨b', off, e', hb, hc⟩ := h2 hn
    rw [e] at e'
    injection e' with e'
    injection e' with e1 e2 e3
    subst e1
    exact h3 hn b o e (k.ind b hb q)
end Go.Proofs.YtagenkofoacajaaGreatDoor

namespace Go.Proofs.YtagenkofoacajaaGreatDoor
open Go.RowKit Vi

end Go.Proofs.YtagenkofoacajaaGreatDoor

namespace Go.Proofs.YtagenkofoacajaaGreatDoor
open Go.RowKit Vi

theorem DK.made {D : Nat} {SS : List ByteArray} {CC : List Wr} {dn : Bool} {ops fu : Int} {w : World} (h : DK D SS CC dn ops fu w) : Calls Tryz.prog 28 #[.pointer (some ⟨D, 0, none⟩)] w fun e w' => e = .returned (.bool true) ∧ w = w' := by
  obtain ⟨⟨sa, sn, sc, ca, cn, cc, h1, h2, h3⟩, _⟩ := h
  exact dmade_any D sa sn sc ca cn cc true dn ops fu w h1
theorem DK.readyIs {D : Nat} {SS : List ByteArray} {CC : List Wr} {dn : Bool} {ops fu : Int} {w : World} (h : DK D SS CC dn ops fu w) : Calls Tryz.prog 47 #[.pointer (some ⟨D, 0, none⟩)] w fun e w' => e = .returned (.int .i64 (if dn = true then 7 else 0)) ∧ w = w' := by
  obtain ⟨⟨sa, sn, sc, ca, cn, cc, h1, h2, h3⟩, _⟩ := h
  exact dready_any D sa sn sc ca cn cc dn ops fu w h1
theorem DK.checkIs {D : Nat} {SS : List ByteArray} {CC : List Wr} {dn : Bool} {ops fu : Int} {w : World} (h : DK D SS CC dn ops fu w) (i : Int) (s : ByteArray) : Calls Tryz.prog 68 #[.pointer (some ⟨D, 0, none⟩), .int .i64 i, .string s] w fun e w' => e = .returned (.int .i64 (dckE SS.length i s)) ∧ w = w' := by
  obtain ⟨⟨sa, sn, sc, ca, cn, cc, h1, h2, h3⟩, _⟩ := h
  have hl : sn = SS.length := by
    obtain ⟨A, c, e, _, _, _⟩ := h2.rd stC_len
    injection e
  rw [← hl]
  exact dcheck_any D sa sn sc i s w (dk_cells h1).1
def armE (dn : Bool) (n : Int) : Int := if dn = true then 7 else if n < 0 then 2 else 0
/-- what is armed then -/
def armF (dn : Bool) (n fu : Int) : Int := if armE dn n = 0 then n else fu
end Go.Proofs.YtagenkofoacajaaGreatDoor

namespace Go.Proofs.YtagenkofoacajaaGreatDoor
open Go.RowKit Vi

/-- the sectors that are safe, one written over -/
def overS (SS : List ByteArray) (i : Int) (s : ByteArray) : List ByteArray := if dckE SS.length i s = 0 then SS.set i.toNat s else SS
end Go.Proofs.YtagenkofoacajaaGreatDoor

namespace Go.Proofs.YtagenkofoacajaaGreatDoor
open Go.RowKit Vi

/-- the sectors when writes are safe -/
def safeW (SS : List ByteArray) (CC : List Wr) : List ByteArray := CC.foldl (fun S x => S.set x.1.toNat x.2) SS
theorem safeW_len : ∀ (CC : List Wr) (SS : List ByteArray), (safeW SS CC).length = SS.length
  | [], _ => rfl
  | x :: r, SS => by
    show (safeW (SS.set x.1.toNat x.2) r).length = _
    rw [safeW_len r, List.length_set]
theorem safeW_snoc (SS : List ByteArray) (CC : List Wr) (x : Wr) : safeW SS (CC ++ [x]) = (safeW SS CC).set x.1.toNat x.2 := by unfold safeW; rw [List.foldl_append]; rfl
set_option maxRecDepth 100000 in
set_option maxHeartbeats 4000000 in
theorem dsettle_all (D : Nat) (SS : List ByteArray) (CC : List Wr) (dn : Bool) (ops fu : Int) (w : World) (h : DK D SS CC dn ops fu w) :
    Calls Tryz.prog 50 #[.pointer (some ⟨D, 0, none⟩), .func (.func 51) #[] #[]] w fun e w' => e = .returned (.tuple #[]) ∧ DK D (safeW SS CC) [] dn ops fu w' ∧ Kd D w w' := by
  obtain ⟨⟨sa, sn, sc, ca, cn, cc, h1, h2, h3⟩, h4⟩ := h
  have hsn : sn = SS.length := by
    obtain ⟨A, c, e, _, _, _⟩ := h2.rd stC_len
    injection e
  obtain ⟨A, c, e, hr, hc1, hc2⟩ := h3.rd wrC_len
  injection e with e1 e2 e3
  subst e1 e2 e3
  have H1 := Lib.hid h1
  have HO := Lib.hid h2
  have HC := Lib.hid h3
  have H4 := Lib.hid h4
  have HSN := Lib.hid hsn
  obtain ⟨c0, c1, c2, c3, c4, c5⟩ := dk_cells h1
  have hnm : CC.length ≤ maxLen := Nat.le_trans hc1 hc2
  unfold maxLen at hnm
  clear h1 h2 h3 h4 hr hc1 hc2 hsn
  go_enter Tryz.func50, Tryz.ntmps50
  go_wp2_with fail
  clear c0 c1 c2 c3 c4 c5
  go_loopw [11] (fun i wr => ∃ k : Nat, i = .int .i64 (k : Int) ∧ k ≤ CC.length ∧ wr.heap[D]? = some (dkO sa sn sc ca CC.length cc true dn ops fu) ∧ OwX stC 1 9 wr 0 (.slice sa sn sc) (safeW SS (CC.take k)) ∧ OwX wrC 2 111 wr 0 (.slice ca CC.length cc) CC ∧ Kd D w wr) (fun i _ => CC.length - (intOf i).toNat)
  case atStart => exact ⟨0, rfl, Nat.zero_le _, H1.out, HO.out, HC.out, Kd.refl _ _⟩
  case round =>
    obtain ⟨k, rfl, hk, hd, ho, hc, hb⟩ := hrel
    have HD := Lib.hid hd
    have HS := Lib.hid ho
    have HW := Lib.hid hc
    have HB := Lib.hid hb
    have hDl := lt_of_block hd
    obtain ⟨A, c, e, hr, _, _⟩ := hc.rd wrC_len
    injection e with e1 e2 e3
    subst e1
    have HR := Lib.hid hr
    clear hd ho hc hb hr e3
    by_cases hlt : k < CC.length
    · have hd1 : decide ((k : Int) < (CC.length : Int)) = true := decide_eq_true (by omega)
      have hi0 : (0 : Int) ≤ (k : Int) := by omega
      obtain ⟨b, off, hl, hA, hbb, _⟩ := HR.out.at hlt
      obtain ⟨x, hx⟩ : ∃ x, x = CC[k] := ⟨_, rfl⟩
      have HX := Lib.hid (show CC[k]? = some x by rw [List.getElem?_eq_getElem hl, hx])
      have HT := Lib.hid (show safeW SS (CC.take (k + 1)) = (safeW SS (CC.take k)).set x.1.toNat x.2 by rw [List.take_succ_eq_append_getElem hl, ← hx, safeW_snoc])
      obtain ⟨q1, q2, _⟩ := H4.out x (by rw [hx]; exact List.getElem_mem hl)
      obtain ⟨at0, s⟩ := x
      have q1 : 0 ≤ at0 := q1
      have q2 : at0 < (SS.length : Int) := q2
      obtain ⟨j, rfl⟩ : ∃ j : Nat, at0 = (j : Int) := ⟨at0.toNat, by omega⟩
      have hj : j < (safeW SS (CC.take k)).length := by rw [safeW_len]; omega
      have hj0 : (0 : Int) ≤ (j : Int) := by omega
      have hj1 : (j : Int) < (sn : Int) := by rw [HSN.out]; omega
      obtain ⟨T, hT⟩ : ∃ T, T = safeW SS (CC.take k) := ⟨_, rfl⟩
      rw [← hT] at HT HS hj
      have x0 : wr.cell? ⟨b, off + k * 2, none⟩ = some (.int .i64 (j : Int)) := by subst hA; exact HR.out.cellAt HX.out hlt 0 _ rfl
      have x1 : wr.cell? ⟨b, off + k * 2 + 1, none⟩ = some (.string s) := by subst hA; exact HR.out.cellAt HX.out hlt 1 _ rfl
      clear hx hT q1 q2
      obtain rfl := hA
      have hrow := HS.out
      rcases hrow with ⟨_, ⟨_, h0⟩ | ⟨g, cap, cur, e, hg, hheap, _⟩⟩
      · omega
      injection e with e1 e2 e3
      subst e1 e3
      have hne : ¬ D = g := fun e => by
        have q := HD.out
        rw [e, hheap] at q
        cases q
      have hgl := lt_of_block hheap
      obtain ⟨A2, c2, e, hr2, _, _⟩ := HS.out.rd stC_len
      injection e with e1 e2 e3
      subst e1
      have hck : wr.cell? ⟨g, j, none⟩ = some (.string T[j]) := by
        obtain ⟨b2, off2, hb2, _, hc2⟩ := hr2.2 (by omega)
        injection hb2 with hb2
        injection hb2 with hb3 hb4
        subst hb3 hb4
        have q := hc2 j T[j] 0 (.string T[j]) (List.getElem?_eq_getElem hj) rfl
        rw [Nat.zero_add, Nat.mul_one, Nat.add_zero] at q
        exact q
      obtain ⟨o, ho⟩ : ∃ o, o = T[j] := ⟨_, rfl⟩
      rw [← ho] at hck
      have HG := Lib.hid (blk_alloc hheap (.cells #[.int .i64 (j : Int), .string s] 111 (0, 0)))
      have HGB := Lib.hid hg
      have HBn := Lib.hid ((Below.refl wr.heap.size wr).alloc (Nat.le_refl _) (.cells #[.int .i64 (j : Int), .string s] 111 (0, 0)))
      have HDn := Lib.hid (blk_below HD.out HBn.out)
      have HXn := Lib.hid (blk_new wr (.cells #[.int .i64 (j : Int), .string s] 111 (0, 0)))
      have HSn := Lib.hid (HS.out.kept HBn.out)
      have HWn := Lib.hid (HW.out.kept HBn.out)
      have HB1 := Lib.hid (HB.out.trans (Kd.of_below HBn.out hDl))
      have hcn : (wr.alloc (.cells #[.int .i64 (j : Int), .string s] 111 (0, 0))).cell? ⟨g, j, none⟩ = some (.string o) := by rw [HBn.out.cell (p := ⟨g, j, none⟩) hgl]; exact hck
      have HAL := Lib.hid (fun W : World => dall_any (k : Int) W)
      have hbs := HB.out.size
      clear hr2 hheap hg ho e2 e3 hck
      go_wp2_with fail
      clear x0 x1
      refine (HAL.out _).mono ?_
      rintro e w' ⟨rfl, rfl⟩
      go_upto_region 4 with (fail)
      obtain ⟨v, hv⟩ : ∃ v, v = wr.alloc (.cells #[.int .i64 (j : Int), .string s] 111 (0, 0)) := ⟨_, rfl⟩
      rw [← hv] at HG HDn HXn HSn HWn HB1 hcn
      try rw [← hv]
      clear hv HBn
      have hvs : wr.heap.size < v.heap.size := lt_of_block HXn.out
      have hnw : ¬ wr.heap.size = g := by omega
      have y0 : v.drew.cell? ⟨D, 0, none⟩ = some (.slice (some ⟨g, 0, none⟩) sn sc) := (dk_cells (show v.drew.heap[D]? = _ from HDn.out)).1
      have y1 : v.drew.cell? ⟨wr.heap.size, 0, none⟩ = some (.int .i64 (j : Int)) := (cell_of_row _ _ _ _ _ _ (show v.drew.heap[wr.heap.size]? = _ from HXn.out)).trans rfl
      have y2 : v.drew.cell? ⟨wr.heap.size, 1, none⟩ = some (.string s) := (cell_of_row _ _ _ _ _ _ (show v.drew.heap[wr.heap.size]? = _ from HXn.out)).trans rfl
      have y3 : v.drew.cell? ⟨g, j, none⟩ = some (.string o) := hcn
      have f3 : v.drew.frozen? ⟨g, j, none⟩ = false := frozen_of_row _ _ _ _ _ (show v.drew.heap[g]? = _ from HG.out)
      have HK := Lib.hid ((KK.refl [g] v.drew).set (b := g) (by simp) j (.string s))
      have HD9 := Lib.hid (HK.out.blk (show v.drew.heap[D]? = _ from HDn.out) (by simpa using hne))
      have HX9 := Lib.hid (HK.out.blk (show v.drew.heap[wr.heap.size]? = _ from HXn.out) (by simpa using hnw))
      have z0 := (dk_cells HD9.out).1
      have z1 := (cell_of_row _ _ 0 _ _ _ HX9.out).trans rfl
      have z2 := (cell_of_row _ _ 1 _ _ _ HX9.out).trans rfl
      go_region_held3 (fun w9 => w9.cell? ⟨D, 0, none⟩ = some (.slice (some ⟨g, 0, none⟩) sn sc) ∧ w9.cell? ⟨wr.heap.size, 0, none⟩ = some (.int .i64 (j : Int)) ∧ w9.cell? ⟨wr.heap.size, 1, none⟩ = some (.string s))
        (first | exact ⟨y0, y1, y2⟩ | exact ⟨z0, z1, z2⟩ | go_keep) (fail)
      all_goals
        have HS9 := Lib.hid (HSn.out.drew.setS (i := j) s)
        have HW9 := Lib.hid (HWn.out.drew.kkD HK.out (show v.drew.heap[g]? = _ from HG.out) (by decide))
        have HB9 := Lib.hid (HB1.out.trans (Kd.of_box (show KK [g] v _ from HK.out.drewl) (fun b hb => by obtain rfl : b = g := (by simpa using hb); exact InD.safe HDn.out) HDn.out HD9.out (fun b o e => by cases e; exact .inl (InD.safe HDn.out)) (fun b o e => by cases e; exact .inl (InD.cache HDn.out))))
        clear y0 y1 y2 y3 z0 z1 z2 f3
        go_wp2_with fail
        go_roundw
        case rel => exact ⟨k + 1, by go_num, by omega, HD9.out, by rw [HT.out]; exact HS9.out, HW9.out, HB9.out⟩
        case measure => simp [intOf] <;> omega
    · have hd1 : decide ((k : Int) < (CC.length : Int)) = false := decide_eq_false (by omega)
      have HE := Lib.hid (show CC.take k = CC from List.take_of_length_le (by omega))
      have f1 : wr.frozen? ⟨D, 1, none⟩ = false := frozen_of_row _ _ _ _ _ HD.out
      have y1 : wr.cell? ⟨D, 1, none⟩ = some (.slice ca CC.length cc) := (dk_cells HD.out).2.1
      go_wp2_with fail
      have HK := Lib.hid ((KK.refl [D] wr).set (b := D) (by simp) 1 (.slice none 0 0))
      have HR9 := Lib.hid (show (wr.setCell ⟨D, 1, none⟩ (.slice none 0 0)).heap[D]? = some (dkO sa sn sc none 0 0 true dn ops fu) from heap_setCell_at (i := 1) (u := .slice none 0 0) HD.out)
      have HO2 := Lib.hid (HS.out.kkD HK.out HD.out (by decide))
      have HB9 := Lib.hid (HB.out.trans (Kd.of_none HK.out HD.out HR9.out))
      refine bodyPost_end (results_none rfl _ _ _) rfl ?_
      exact ⟨rfl, ⟨⟨sa, sn, sc, none, 0, 0, HR9.out, by rw [← HE.out]; exact HO2.out, OwX.nil _⟩, fun x hx => by cases hx⟩, HB9.out⟩
end Go.Proofs.YtagenkofoacajaaGreatDoor

namespace Go.Proofs.YtagenkofoacajaaGreatDoor
open Go.RowKit Vi

set_option maxRecDepth 100000 in
theorem dflush1 (X D : Nat) (SS : List ByteArray) (CC : List Wr) (dn : Bool) (ops fu : Int) (w : World) (h : DK D SS CC dn ops fu w) (hx : w.heap[X]? = some (.cells #[.pointer (some ⟨D, 0, none⟩)] 31 (0, 0))) :
    Calls Tryz.prog 49 #[.pointer (some ⟨X, 0, none⟩)] w fun e w' => e = .returned (.tuple #[]) ∧ DK D (safeW SS CC) [] dn ops fu w' ∧ Kd D w w' := by
  have HS := Lib.hid (dsettle_all D SS CC dn ops fu w h)
  have x0 : w.cell? ⟨X, 0, none⟩ = some (.pointer (some ⟨D, 0, none⟩)) := (cell_of_row _ _ _ _ _ _ hx).trans rfl
  clear h hx
  go_enter Tryz.func49, Tryz.ntmps49
  go_wp2_with fail
  refine HS.out.mono ?_
  rintro e w1 ⟨rfl, hd, hb⟩
  have HD := Lib.hid hd
  have HB := Lib.hid hb
  clear hd hb x0
  go_wp2_with fail
  refine bodyPost_end (results_none rfl _ _ _) rfl ?_
  exact ⟨rfl, HD.out, HB.out⟩
/-- why a step isn't done -/
def stpE (fu : Int) : Int := if fu = 1 then 7 else 0
def stpD (fu : Int) : Bool := decide (fu = 1)
def stpO (ops fu : Int) : Int := if fu = 1 then ops else ops + 1
def stpS (fu : Int) (SS : List ByteArray) (CC : List Wr) : List ByteArray := if fu = 1 then SS else safeW SS CC
def stpC (fu : Int) (CC : List Wr) : List Wr := if fu = 1 then CC else []
def stpF (fu : Int) : Int := if fu = 1 then 0 else max (fu - 1) 0
set_option maxRecDepth 100000 in
set_option maxHeartbeats 2000000 in
theorem dstep_flush (X D : Nat) (SS : List ByteArray) (CC : List Wr) (ops fu : Int) (w : World) (h : DK D SS CC false ops fu w) (hx : w.heap[X]? = some (.cells #[.pointer (some ⟨D, 0, none⟩)] 31 (0, 0))) (ho : -1000000000 ≤ ops ∧ ops ≤ 1000000000) (hf : 0 ≤ fu ∧ fu ≤ 9223372036854775807) :
    Calls Tryz.prog 48 #[.pointer (some ⟨D, 0, none⟩), .func (.func 49) #[] #[.pointer (some ⟨X, 0, none⟩)]] w fun e w' => e = .returned (.int .i64 (stpE fu)) ∧ DK D (stpS fu SS CC) (stpC fu CC) (stpD fu) (stpO ops fu) (stpF fu) w' ∧ Kd D w w' := by
  obtain ⟨⟨sa, sn, sc, ca, cn, cc, h1, h2, h3⟩, h4⟩ := h
  have hne : X ≠ D := fun e => by subst e; rw [h1] at hx; cases hx
  have H1 := Lib.hid h1
  have H2 := Lib.hid h2
  have H3 := Lib.hid h3
  have H4 := Lib.hid h4
  obtain ⟨c0, c1, c2, c3, c4, c5⟩ := dk_cells h1
  by_cases hq : fu = 1
  · subst hq
    have HT := Lib.hid (dturn_any D sa sn sc ca cn cc true false ops 1 true w h1)
    clear h1 h2 h3 h4 hx
    go_enter Tryz.func48, Tryz.ntmps48
    go_wp2_with fail
    clear c0 c1 c2 c3 c4 c5
    refine HT.out.mono ?_
    rintro e w1 ⟨rfl, hb, hk⟩
    have HB := Lib.hid hb
    have HK := Lib.hid hk
    clear hb hk
    have HO2 := Lib.hid (H2.out.kkD HK.out H1.out (by decide))
    have HO3 := Lib.hid (H3.out.kkD HK.out H1.out (by decide))
    have HBl := Lib.hid (Kd.of_same HK.out H1.out HB.out)
    go_wp2_with fail
    go_ret
    exact ⟨rfl, ⟨⟨sa, sn, sc, ca, cn, cc, HB.out, HO2.out, HO3.out⟩, H4.out⟩, HBl.out⟩
  · have d1 : (fu == 1) = false := by rw [beq_eq_false_iff_ne]; exact hq
    have w1 : IntKind.i64.wrap (fu - 1) = fu - 1 := IntWalk.i64_in _ (by omega)
    have w2 : IntKind.i64.wrap (ops + 1) = ops + 1 := IntWalk.i64_in _ (by omega)
    have f4 : w.frozen? ⟨D, 4, none⟩ = false := frozen_of_row _ _ _ _ _ h1
    have f5 : w.frozen? ⟨D, 5, none⟩ = false := frozen_of_row _ _ _ _ _ h1
    have HQ := Lib.hid hq
    have HX := Lib.hid hx
    clear h1 h2 h3 h4 hx hq
    go_enter Tryz.func48, Tryz.ntmps48
    go_wp2_with fail
    have HK := Lib.hid (((KK.refl [D] w).set (b := D) (by simp) 5 (.int .i64 (max (fu - 1) 0))).set (b := D) (by simp) 4 (.int .i64 (ops + 1)))
    have HB := Lib.hid (show ((w.setCell ⟨D, 5, none⟩ (.int .i64 (max (fu - 1) 0))).setCell ⟨D, 4, none⟩ (.int .i64 (ops + 1))).heap[D]? = some (dkO sa sn sc ca cn cc true false (ops + 1) (max (fu - 1) 0)) by have q := heap_setCell_at (i := 4) (u := .int .i64 (ops + 1)) (heap_setCell_at (i := 5) (u := .int .i64 (max (fu - 1) 0)) H1.out); exact q)
    have HX2 := Lib.hid (HK.out.blk HX.out (by simpa using hne))
    have HO2 := Lib.hid (H2.out.kkD HK.out H1.out (by decide))
    have HO3 := Lib.hid (H3.out.kkD HK.out H1.out (by decide))
    have HBl := Lib.hid (Kd.of_same HK.out H1.out HB.out)
    clear c0 c1 c2 c3 c4 c5 f4 f5 w1 w2 d1
    generalize ((w.setCell ⟨D, 5, none⟩ (.int .i64 (max (fu - 1) 0))).setCell ⟨D, 4, none⟩ (.int .i64 (ops + 1))) = v at *
    have HF := Lib.hid (dflush1 X D SS CC false (ops + 1) (max (fu - 1) 0) v ⟨⟨sa, sn, sc, ca, cn, cc, HB.out, HO2.out, HO3.out⟩, H4.out⟩ HX2.out)
    refine HF.out.mono ?_
    rintro e w1 ⟨rfl, hd, hb⟩
    have HD := Lib.hid hd
    have HB2 := Lib.hid (HBl.out.trans hb)
    clear hd hb
    go_wp2_with fail
    go_ret
    exact ⟨dk_retI (by unfold stpE; rw [if_neg HQ.out]), by unfold stpS stpC stpD stpO stpF; rw [if_neg HQ.out, if_neg HQ.out, if_neg HQ.out, if_neg HQ.out, decide_eq_false HQ.out]; exact HD.out, HB2.out⟩
end Go.Proofs.YtagenkofoacajaaGreatDoor

namespace Go.Proofs.YtagenkofoacajaaGreatDoor
open Go.RowKit Vi

set_option maxRecDepth 100000 in
theorem dflush_down (D : Nat) (SS : List ByteArray) (CC : List Wr) (ops fu : Int) (w : World) (h : DK D SS CC true ops fu w) :
    Calls Tryz.prog 24 #[.pointer (some ⟨D, 0, none⟩)] w fun e w' => e = .returned (.int .i64 7) ∧ DK D SS CC true ops fu w' ∧ Kd D w w' := by
  have HBn := Lib.hid ((Below.refl w.heap.size w).alloc (Nat.le_refl _) (.cells #[.pointer (some ⟨D, 0, none⟩)] 31 (0, 0)))
  have HL := Lib.hid h.lt
  have HD := Lib.hid (h.kept HBn.out)
  have HR := Lib.hid HD.out.readyIs
  have HX := Lib.hid (blk_new w (.cells #[.pointer (some ⟨D, 0, none⟩)] 31 (0, 0)))
  have x0 : (w.alloc (.cells #[.pointer (some ⟨D, 0, none⟩)] 31 (0, 0))).cell? ⟨w.heap.size, 0, none⟩ = some (.pointer (some ⟨D, 0, none⟩)) := (cell_of_row _ _ _ _ _ _ HX.out).trans rfl
  clear h
  go_enter Tryz.func24, Tryz.ntmps24
  go_wp2_with fail
  clear x0
  refine HR.out.mono ?_
  rintro e w' ⟨rfl, rfl⟩
  go_wp2_with fail
  go_ret
  exact ⟨rfl, HD.out, Kd.of_below HBn.out HL.out⟩
set_option maxRecDepth 100000 in
theorem dflush_up (D : Nat) (SS : List ByteArray) (CC : List Wr) (ops fu : Int) (w : World) (h : DK D SS CC false ops fu w) (ho : -1000000000 ≤ ops ∧ ops ≤ 1000000000) (hf : 0 ≤ fu ∧ fu ≤ 9223372036854775807) :
    Calls Tryz.prog 24 #[.pointer (some ⟨D, 0, none⟩)] w fun e w' => e = .returned (.int .i64 (stpE fu)) ∧ DK D (stpS fu SS CC) (stpC fu CC) (stpD fu) (stpO ops fu) (stpF fu) w' ∧ Kd D w w' := by
  have HBn := Lib.hid ((Below.refl w.heap.size w).alloc (Nat.le_refl _) (.cells #[.pointer (some ⟨D, 0, none⟩)] 31 (0, 0)))
  have HL := Lib.hid h.lt
  have HD := Lib.hid (h.kept HBn.out)
  have HR := Lib.hid HD.out.readyIs
  have HX := Lib.hid (blk_new w (.cells #[.pointer (some ⟨D, 0, none⟩)] 31 (0, 0)))
  have HS := Lib.hid (dstep_flush w.heap.size D SS CC ops fu _ HD.out HX.out ho hf)
  have x0 : (w.alloc (.cells #[.pointer (some ⟨D, 0, none⟩)] 31 (0, 0))).cell? ⟨w.heap.size, 0, none⟩ = some (.pointer (some ⟨D, 0, none⟩)) := (cell_of_row _ _ _ _ _ _ HX.out).trans rfl
  clear h
  go_enter Tryz.func24, Tryz.ntmps24
  go_wp2_with fail
  refine HR.out.mono ?_
  rintro e w' ⟨rfl, rfl⟩
  go_wp2_with fail
  clear x0
  refine HS.out.mono ?_
  rintro e w1 ⟨rfl, hd, hb⟩
  have HD1 := Lib.hid hd
  have HB1 := Lib.hid ((Kd.of_below HBn.out HL.out).trans hb)
  clear hd hb
  go_wp2_with fail
  go_ret
  exact ⟨rfl, HD1.out, HB1.out⟩
end Go.Proofs.YtagenkofoacajaaGreatDoor
