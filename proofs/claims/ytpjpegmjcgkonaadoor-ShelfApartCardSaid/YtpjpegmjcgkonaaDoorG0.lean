/- Several texts of one family, merged for a claim. Conditions as in its parts. -/
import Derived.Test.YtpjpegmjcgkonaaDoorZb
import Derived.Maps.Own
import Derived.Maps.OwnSet
import Derived.Maps.Views
import Derived.StringKeys
import Derived.Test.YtpjpegmjcgkonaaDoorProg
import Derived.WalkKit
import Derived.Lib.Hide
import Derived.Maps.AppendAt
import Derived.Laws.OwnMore
import Derived.OwnWalk
import Derived.Deep.RegionLaw
import Derived.Below
import Derived.Laws.Append
import Derived.OrdersHeld
import Derived.Deep.RegionHeld3
namespace Go.Proofs.YtpjpegmjcgkonaaDoor
open Go.RowKit Vi Go.WideMaps Go.Maps

def intD (v : Option Int) (z : DataW Nat) : DataW Nat := match v with
  | some i => .lit (.int .i64 i)
  | none => z
theorem intD_zero (v : Option Int) : intD v (.lit (.int .i64 0)) = .lit (.int .i64 (v.getD 0)) := by cases v <;> rfl
/-- block B holds at most k texts; at text s stands what f says -/
def MapI (w : World) (B k : Nat) (f : ByteArray → Option Int) : Prop := ∃ n D, w.ownsMap Tryd.prog 9 (plainElem Tryd.prog 3) B n D ∧ n ≤ k ∧ IsMap D ∧ ∀ s : ByteArray, s.size ≤ maxLen → has D (.string s.data.toList) = (f s).isSome ∧ ∀ z : DataW Nat, D.atKey (.string s.data.toList) z = intD (f s) z
theorem MapI.made (w : World) : MapI (w.alloc (.map #[] 0)) w.heap.size 0 (fun _ => none) :=
  ⟨0, .map [], World.ownsMap_made w _ _ _, Nat.le_refl _, isMap_empty, fun _ _ => ⟨rfl, fun _ => rfl⟩⟩
theorem MapI.kept {w w' : World} {B k : Nat} {f : ByteArray → Option Int} (h : MapI w B k f) (hb : w'.heap[B]? = w.heap[B]?) : MapI w' B k f := by
  obtain ⟨n, D, ⟨es, cl, h1, h2⟩, h3⟩ := h
  exact ⟨n, D, ⟨es, cl, hb.trans h1, h2⟩, h3⟩
theorem MapI.lt {w : World} {B k : Nat} {f : ByteArray → Option Int} (h : MapI w B k f) : B < w.heap.size := by
  obtain ⟨n, D, h1, _⟩ := h
  exact h1.lt
theorem MapI.of {w : World} {B k : Nat} {f g : ByteArray → Option Int} (h : MapI w B k f) (e : ∀ s, f s = g s) : MapI w B k g := by
  have : f = g := funext e
  subst this
  exact h
theorem ba_eq {s x : ByteArray} : (x.toList == s.toList) = true ↔ x = s := by
  constructor
  · intro h
    have h1 : x.toList = s.toList := by simpa using h
    rw [Lib.toList_data, Lib.toList_data] at h1
    exact ByteArray.ext (Array.ext' h1)
  · rintro rfl; simp
def updF (f : ByteArray → Option Int) (x : ByteArray) (i : Int) (s : ByteArray) : Option Int := if (x.toList == s.toList) = true then some i else f s
def delF (f : ByteArray → Option Int) (x : ByteArray) (s : ByteArray) : Option Int := if (x.toList == s.toList) = true then none else f s
theorem lit_ne {x s : ByteArray} (e : x ≠ s) : (Lit.string s.data.toList) ≠ .string x.data.toList := fun q => by
  injection q with q
  exact e (ByteArray.ext (Array.ext' q.symm))
theorem MapI.put {w : World} {B k : Nat} {f : ByteArray → Option Int} (h : MapI w B k f) (x : ByteArray) (i : Int) (hx : x.size ≤ maxLen) (hi : (Lit.int .i64 i).wf = true) (hk : k < maxLen) :
    ∃ w', (Instr.mapUpdate 52 (.map (some B)) (.string x) (.int .i64 i)).run Tryd.prog w = .ok () w' ∧ MapI w' B (k + 1) (updF f x i) ∧ w.grownBy w' (some B) := by
  obtain ⟨n, D, h1, h2, h3, h4⟩ := h
  obtain ⟨w', hrun, hown, hg⟩ := h1.update (string_keyed Tryd.underlying9) Tryd.underlying52 (by omega) (key := .string x) (val := .int .i64 i) (keyOf_string_mk Tryd.underlying9 hx) (plainElem_int Tryd.underlying3 hi)
  refine ⟨w', hrun, ⟨n + 1, _, hown, by omega, h3.put _ _, fun s hs => ?_⟩, hg⟩
  unfold updF
  by_cases e : x = s
  · subst e
    rw [has_put_same (k := .string x.data.toList) h3 trivial, if_pos (by simp)]
    exact ⟨rfl, fun z => by rw [atKey_put_same (k := .string x.data.toList) h3 trivial]; rfl⟩
  · have hf : ¬ (x.toList == s.toList) = true := fun q => e (ba_eq.1 q)
    rw [has_put_other (lit_ne e), if_neg hf]
    exact ⟨(h4 s hs).1, fun z => by rw [atKey_put_other (lit_ne e)]; exact (h4 s hs).2 z⟩
theorem zero_intM (w : World) : (zeroValue 3).run Tryd.prog w = .ok (.int .i64 0) w := by
  simp [go_sem]
set_option maxRecDepth 100000 in
theorem MapI.look2 {w : World} {B k : Nat} {f : ByteArray → Option Int} (h : MapI w B k f) (s : ByteArray) (hs : s.size ≤ maxLen) :
    (Instr.lookup 52 (.map (some B)) (.string s) true).run Tryd.prog w = .ok (.tuple #[.int .i64 ((f s).getD 0), .bool (f s).isSome]) w := by
  obtain ⟨n, D, h1, h2, h3, h4⟩ := h
  obtain ⟨v, ps, hrun, hv⟩ := h1.look_ok (string_keyed Tryd.underlying9) Tryd.underlying52 (zero_intM w) (plainElem_int Tryd.underlying3 (by decide : (Lit.int .i64 0).wf = true)) (keyOf_string_mk Tryd.underlying9 hs)
  rw [(h4 s hs).2, intD_zero] at hv
  obtain ⟨a, rfl, hz, _⟩ := plainElem_int_inv Tryd.underlying3 hv
  injection hz with hz _
  injection hz with hz
  injection hz with _ hz
  rw [hrun, (h4 s hs).1, hz]
set_option maxRecDepth 100000 in
theorem MapI.look1 {w : World} {B k : Nat} {f : ByteArray → Option Int} (h : MapI w B k f) (s : ByteArray) (hs : s.size ≤ maxLen) :
    (Instr.lookup 52 (.map (some B)) (.string s) false).run Tryd.prog w = .ok (.int .i64 ((f s).getD 0)) w := by
  obtain ⟨n, D, h1, h2, h3, h4⟩ := h
  obtain ⟨c, hrun, hv, _⟩ := h1.lookup_int (string_keyed Tryd.underlying9) Tryd.underlying52 Tryd.underlying3 (zero_intM w) (keyOf_string_mk Tryd.underlying9 hs)
  rw [(h4 s hs).2, intD_zero] at hv
  injection hv with hv
  injection hv with _ hv
  rw [hrun, hv]
end Go.Proofs.YtpjpegmjcgkonaaDoor

namespace Go.Proofs.YtpjpegmjcgkonaaDoor
open Go.RowKit

def flat {α : Type} (f : α → List Value) (l : List α) : List Value := l.flatMap f
theorem flat_app {α : Type} (f : α → List Value) (l m : List α) : flat f (l ++ m) = flat f l ++ flat f m := by unfold flat; exact List.flatMap_append
theorem flat_one {α : Type} (f : α → List Value) (x : α) : flat f [x] = f x := by unfold flat; simp
theorem flat_len {α : Type} {f : α → List Value} {s : Nat} (hf : ∀ x, (f x).length = s) : ∀ l : List α, (flat f l).length = l.length * s
  | [] => by simp [flat]
  | x :: l => by
    have := flat_len hf l
    unfold flat at this ⊢
    rw [List.flatMap_cons, List.length_append, hf, this, List.length_cons, Nat.add_mul]; omega
theorem flat_get {α : Type} {f : α → List Value} {s : Nat} (hf : ∀ x, (f x).length = s) : ∀ (l : List α) (k j : Nat) (x : α) (u : Value), l[k]? = some x → (f x)[j]? = some u → (flat f l)[k * s + j]? = some u
  | [], k, j, x, u, h, _ => by simp at h
  | y :: l, 0, j, x, u, h, hu => by
    obtain rfl : y = x := by simpa using h
    have hj := (List.getElem?_eq_some_iff.1 hu).1
    unfold flat
    rw [List.flatMap_cons, Nat.zero_mul, Nat.zero_add, List.getElem?_append_left hj]
    exact hu
  | y :: l, k + 1, j, x, u, h, hu => by
    have := flat_get hf l k j x u (by simpa using h) hu
    unfold flat at this ⊢
    rw [List.flatMap_cons, List.getElem?_append_right (by rw [hf, Nat.add_mul]; omega), hf]
    rw [← this]
    congr 1
    rw [Nat.add_mul]; omega
/-- a slice that reads as a list -/
def RdX {α : Type} (f : α → List Value) (s : Nat) (w : World) (A : Option Addr) (n : Nat) (l : List α) : Prop :=
  l.length = n ∧ (0 < n → ∃ b off, A = some ⟨b, off, none⟩ ∧ b < w.heap.size ∧ ∀ k x j u, l[k]? = some x → (f x)[j]? = some u → w.cell? ⟨b, off + k * s + j, none⟩ = some u)
section
variable {α : Type} {f : α → List Value} {s : Nat} {w w' : World} {A : Option Addr} {n : Nat} {l : List α}
theorem RdX.below (h : RdX f s w A n l) (hb : Below w.heap.size w w') : RdX f s w' A n l :=
  ⟨h.1, fun hn => by
    obtain ⟨b, off, e, hlt, hc⟩ := h.2 hn
    exact ⟨b, off, e, Nat.lt_of_lt_of_le hlt hb.size, fun k x j u h1 h2 => (hb.cell (p := ⟨b, _, none⟩) hlt).trans (hc k x j u h1 h2)⟩⟩
theorem RdX.alloc (h : RdX f s w A n l) (o : Obj) : RdX f s (w.alloc o) A n l := h.below ((Below.refl _ _).alloc (Nat.le_refl _) _)
theorem RdX.drew (h : RdX f s w A n l) : RdX f s w.drew A n l := h
theorem RdX.at (h : RdX f s w A n l) {k : Nat} (hk : k < n) : ∃ b off, ∃ hl : k < l.length, A = some ⟨b, off, none⟩ ∧ b < w.heap.size ∧ ∀ j u, (f l[k])[j]? = some u → w.cell? ⟨b, off + k * s + j, none⟩ = some u := by
  obtain ⟨b, off, e, hlt, hc⟩ := h.2 (by omega)
  have hl : k < l.length := by rw [h.1]; exact hk
  exact ⟨b, off, hl, e, hlt, fun j u hu => hc k _ j u (List.getElem?_eq_getElem hl) hu⟩
theorem RdX.nil : RdX f s w A 0 [] := ⟨rfl, fun h => by omega⟩
end
/-- a row of the call's own that reads as a list -/
def OwX {α : Type} (f : α → List Value) (s : Nat) (T : TypeId) (w : World) (B : Nat) (v : Value) (l : List α) : Prop := w.ownsRow B T s v l.length (flat f l)
section
variable {α : Type} {f : α → List Value} {s : Nat} {T : TypeId} {w w' : World} {B : Nat} {v : Value} {l : List α}
theorem OwX.nil (w : World) : OwX f s T w B (.slice none 0 0) ([] : List α) := World.ownsRow_nil w B T s
theorem OwX.alloc (h : OwX f s T w B v l) (o : Obj) : OwX f s T (w.alloc o) B v l := World.ownsRow.alloc h o
theorem OwX.drew (h : OwX f s T w B v l) : OwX f s T w.drew B v l := h
theorem OwX.kept (h : OwX f s T w B v l) (hb : Below w.heap.size w w') : OwX f s T w' B v l := by
  rcases h with ⟨h1, h | ⟨g, cap, cur, h2, h3, h4, h5⟩⟩
  · exact ⟨h1, .inl h⟩
  · refine ⟨h1, .inr ⟨g, cap, cur, h2, h3, ?_, h5⟩⟩
    rw [hb.block g (by
      rcases Nat.lt_or_ge g w.heap.size with q | q
      · exact q
      · rw [Array.getElem?_eq_none q] at h4
        cases h4)]
    exact h4
theorem OwX.rd (hf : ∀ x, (f x).length = s) (h : OwX f s T w B v l) : ∃ A c, v = .slice A l.length c ∧ RdX f s w A l.length l ∧ l.length ≤ c ∧ c ≤ maxLen := by
  rcases h.2 with ⟨e, h0⟩ | ⟨g, cap, cur, e, h3, h4, h5, h6, h7, h8⟩
  · exact ⟨none, 0, by rw [h0]; exact e, ⟨rfl, fun h => by omega⟩, by omega, by decide⟩
  · refine ⟨some ⟨g, 0, none⟩, cap, e, ⟨rfl, fun hn => ⟨g, 0, rfl, ?_, fun k x j u hk hu => ?_⟩⟩, h5, h6⟩
    · rcases Nat.lt_or_ge g w.heap.size with q | q
      · exact q
      · rw [Array.getElem?_eq_none q] at h4; cases h4
    · have hg := flat_get hf l k j x u hk hu
      rw [Nat.zero_add, cell_of_row _ _ _ _ _ _ h4]
      rw [← h8, List.getElem?_take] at hg
      split at hg
      · simpa using hg
      · cases hg
theorem OwX.mono {B' : Nat} (h : OwX f s T w B v l) (hB : B' ≤ B) : OwX f s T w B' v l := by
  rcases h with ⟨h1, h | ⟨g, cap, cur, h2, h3, h4, h5⟩⟩
  · exact ⟨h1, .inl h⟩
  · exact ⟨h1, .inr ⟨g, cap, cur, h2, Nat.le_trans hB h3, h4, h5⟩⟩
end
theorem run_appX {α : Type} {f : α → List Value} {s : Nat} {w : World} {t e : TypeId} {z : Value} {bytes : Nat} (hu : Tryd.prog.underlying t = some (.slice e)) (hinfo : (Tryd.prog.info? e).map (fun i => (i.zero, i.size, i.bytes)) = some (some z, s, bytes)) (hz : z.cells.size = s) (hs0 : 0 < s) (hby : bytes ≤ 100)
    (hf : ∀ x, (f x).length = s) (h1 : ∀ x, ∀ u ∈ f x, u.oneCell' = true)
    (ty : TypeId) (base : Nat) (v : Value) (l : List α) (hown : OwX f s e w base v l) (b c : Nat) (x : α) (cs : Array Value) (T' : TypeId) (fr : Nat × Nat) (hb : w.heap[b]? = some (.cells cs T' fr)) (hcs : cs.toList = f x)
    (hm : l.length + 1 ≤ 1000000) (hbase : base ≤ w.heap.size) :
    ∃ v' w', (Builtin.append_ #[t, t] ty #[v, .slice (some ⟨b, 0, none⟩) 1 c]).run Tryd.prog w = .ok v' w' ∧ OwX f s e w' base v' (l ++ [x]) ∧ w.grownBy w' v.ownBlock := by
  obtain ⟨i0, hi, hz0, hz1, hz2⟩ := info_parts hinfo
  have hmul : (l.length + 1) * bytes ≤ 1000000 * 100 := Nat.mul_le_mul hm hby
  obtain ⟨v', w', hr, h2, h3, _, _⟩ := run_append_own_at (P := Tryd.prog) w base t ty e i0 z s bytes hu hi hz0 hz1 hz2 hz hs0 v l.length (flat f l) hown ⟨b, 0, none⟩ 1 c (f x)
    (by rw [hf]; omega) (fun j u hj => by
      rw [Addr.add_lit, Nat.zero_add, cell_of_row _ _ _ _ _ _ hb]
      rw [← hcs] at hj
      simpa using hj) (h1 x) (by unfold maxLen; omega) (by omega) hbase
  refine ⟨v', w', hr, ?_, h3⟩
  unfold OwX
  rw [List.length_append, flat_app, flat_one]
  exact h2
theorem wpList_appX {α : Type} {f : α → List Value} {s : Nat} {ops : Array Oper} {rest : List Oper} {o : Oper} {a : Act} {Q : Exit → Act → World → Prop} {w : World} (hgd : o.guard = none) (sl xo : Operand) (t e : TypeId) (z : Value) (bytes : Nat)
    (ho : o.op = .call { callee := .builtin .append, args := #[sl, xo], argTypes := #[t, t] })
    (hu : Tryd.prog.underlying t = some (.slice e)) (hinfo : (Tryd.prog.info? e).map (fun i => (i.zero, i.size, i.bytes)) = some (some z, s, bytes)) (hz : z.cells.size = s) (hs0 : 0 < s) (hby : bytes ≤ 100)
    (hf : ∀ x, (f x).length = s) (h1 : ∀ x, ∀ u ∈ f x, u.oneCell' = true)
    (B : Nat) (w0 : World) (hb : Below B w0 w) (hB : B ≤ w.heap.size) (v : Value) (l : List α) (hs : a.eval sl = v) (hown : OwX f s e w B v l)
    (bn c : Nat) (x : α) (cs : Array Value) (T' : TypeId) (fr : Nat × Nat) (hx : a.eval xo = .slice (some ⟨bn, 0, none⟩) 1 c) (hbn : w.heap[bn]? = some (.cells cs T' fr)) (hcs : cs.toList = f x) (hm : l.length + 1 ≤ 1000000)
    (h : ∀ v' w', Hid (OwX f s e w' B v' (l ++ [x])) → Hid (Below B w0 w') → Hid (B ≤ w'.heap.size) → Hid (w.grownBy w' v.ownBlock) → wpList Tryd.prog ops Q rest (a.put o.dst v') w') : wpList Tryd.prog ops Q (o :: rest) a w := by
  refine wpList_plain hgd fun K hK => ?_
  obtain ⟨v', w', hr, h2, h3⟩ := run_appX hu hinfo hz hs0 hby hf h1 o.type B v l hown bn c x cs T' fr hbn hcs hm hB
  unfold Oper.wp execOp
  simp only [ho, resolve, invoke, builtin, Sem.run_bind, Sem.run_pure, Result.andThen_ok, List.map_toArray, List.map_cons, List.map_nil, hs, hx, hr]
  exact hK _ _ (h v' w' h2 (hb.grown h3 hB (fun k hk => (World.ownsRow.lt hown k hk).1)) (Nat.le_trans hB h3.size) h3)
end Go.Proofs.YtpjpegmjcgkonaaDoor

namespace Go.Proofs.YtpjpegmjcgkonaaDoor
open Go.RowKit Vi

structure KK (l : List Nat) (w W : World) : Prop where
  os : W.os = w.os
  tape : W.tape = w.tape
  output : W.output = w.output
  size : w.heap.size ≤ W.heap.size
  block : ∀ i, i < w.heap.size → i ∉ l → W.heap[i]? = w.heap[i]?
theorem KK.refl (l : List Nat) (w : World) : KK l w w := ⟨rfl, rfl, rfl, Nat.le_refl _, fun _ _ _ => rfl⟩
theorem KK.trans {l : List Nat} {a b c : World} (h : KK l a b) (k : KK l b c) : KK l a c :=
  ⟨k.os.trans h.os, k.tape.trans h.tape, k.output.trans h.output, Nat.le_trans h.size k.size, fun i hi hn => (k.block i (Nat.lt_of_lt_of_le hi h.size) hn).trans (h.block i hi hn)⟩
theorem KK.of_below {l : List Nat} {w w' : World} (h : Below w.heap.size w w') : KK l w w' := ⟨h.os, h.tape, h.output, h.size, fun k hk _ => h.block k hk⟩
theorem KK.of_but {l : List Nat} {b : Nat} {w w' : World} (h : But b w w') (hb : b ∈ l) : KK l w w' :=
  ⟨h.os, h.tape, h.output, h.size, fun i hi hn => h.block i hi (fun e => hn (by cases e; exact hb))⟩
theorem KK.drewl {l : List Nat} {w W : World} (k : KK l w.drew W) : KK l w W := ⟨k.os, k.tape, k.output, k.size, k.block⟩
theorem KK.alloc {l : List Nat} {a w : World} (h : KK l a w) (o : Obj) : KK l a (w.alloc o) := h.trans (KK.of_below ((Below.refl _ _).alloc (Nat.le_refl _) _))
theorem KK.set {l : List Nat} {a w : World} (h : KK l a w) {b : Nat} (hb : b ∈ l) (i : Nat) (u : Value) : KK l a (w.setCell ⟨b, i, none⟩ u) :=
  h.trans (KK.of_but ((But.refl b w).set i u) hb)
theorem KK.setNew {l : List Nat} {a w : World} (h : KK l a w) {b : Nat} (hb : a.heap.size ≤ b) (i : Nat) (u : Value) : KK l a (w.setCell ⟨b, i, none⟩ u) := by
  have k : KK [b] w (w.setCell ⟨b, i, none⟩ u) := KK.of_but ((But.refl b w).set i u) (by simp)
  exact ⟨k.os.trans h.os, k.tape.trans h.tape, k.output.trans h.output, Nat.le_trans h.size k.size, fun j hj hn => (k.block j (Nat.lt_of_lt_of_le hj h.size) (by simp; omega)).trans (h.block j hj hn)⟩
theorem KK.row {l : List Nat} {a w w' : World} {b n : Nat} (h : KK l a w) (hb : b ∈ l ∨ a.heap.size ≤ b) (hbel : Below n w w') (ho : ∀ k, k ≠ b → w'.heap[k]? = w.heap[k]?) : KK l a w' :=
  ⟨hbel.os.trans h.os, hbel.tape.trans h.tape, hbel.output.trans h.output, Nat.le_trans h.size hbel.size, fun i hi hn => (ho i (fun e => by
    rcases hb with hb | hb
    · exact hn (e ▸ hb)
    · omega)).trans (h.block i hi hn)⟩
theorem KK.below {l : List Nat} {n : Nat} {w0 w W : World} (k : KK l w W) (h : Below n w0 w) (hl : ∀ b ∈ l, n ≤ b) (hs : n ≤ w.heap.size) : Below n w0 W :=
  ⟨k.os.trans h.os, k.tape.trans h.tape, k.output.trans h.output, Nat.le_trans h.size k.size, fun i hi => (k.block i (Nat.lt_of_lt_of_le hi hs) (fun e => by have := hl i e; omega)).trans (h.block i hi)⟩
theorem KK.blk {l : List Nat} {w W : World} {b : Nat} {o : Obj} (k : KK l w W) (h : w.heap[b]? = some o) (hb : b ∉ l) : W.heap[b]? = some o := (k.block b (lt_of_block h) hb).trans h
theorem OwX.kk {α : Type} {f : α → List Value} {s : Nat} {T : TypeId} {w W : World} {B : Nat} {v : Value} {l : List α} {m : List Nat} (h : OwX f s T w B v l) (k : KK m w W) (hm : ∀ b ∈ m, b < B) : OwX f s T W B v l := by
  rcases h with ⟨h1, h | ⟨g, cap, cur, h2, h3, h4, h5⟩⟩
  · exact ⟨h1, .inl h⟩
  · exact ⟨h1, .inr ⟨g, cap, cur, h2, h3, k.blk h4 (fun e => by have := hm g e; omega), h5⟩⟩
/-- a row of another kind stays when one is appended to -/
theorem OwX.other {α β : Type} {f : α → List Value} {g : β → List Value} {s s' : Nat} {T T' : TypeId} {w w' : World} {B B' : Nat} {v v2 : Value} {l : List α} {l2 : List β} (h : OwX f s T w B v l) (k : OwX g s' T' w B' v2 l2) (hT : T ≠ T') (hg : w.grownBy w' v2.ownBlock) : OwX f s T w' B v l := by
  rcases h with ⟨h1, h | ⟨b, cap, cur, h2, h3, h4, h5⟩⟩
  · exact ⟨h1, .inl h⟩
  · refine ⟨h1, .inr ⟨b, cap, cur, h2, h3, ?_, h5⟩⟩
    rw [hg.block b (lt_of_block h4) (fun e => by
      rcases k.2 with ⟨hv, _⟩ | ⟨b2, cap2, cur2, hv, _, h6, _⟩
      · rw [hv] at e; simp [Value.ownBlock] at e
      · rw [hv] at e
        simp [Value.ownBlock] at e
        subst e
        rw [h6] at h4
        cases h4
        exact hT rfl)]
    exact h4
/-- a box of another kind stays, too -/
theorem OwX.box {β : Type} {g : β → List Value} {s' : Nat} {T' : TypeId} {w w' : World} {B' : Nat} {v2 : Value} {l2 : List β} (k : OwX g s' T' w B' v2 l2) (hg : w.grownBy w' v2.ownBlock) {b : Nat} {cs : Array Value} {T : TypeId} {fr : Nat × Nat} (h : w.heap[b]? = some (.cells cs T fr)) (hT : T ≠ T' ∨ b < B') : w'.heap[b]? = some (.cells cs T fr) := by
  rw [hg.block b (lt_of_block h) (fun e => by
    rcases k.2 with ⟨hv, _⟩ | ⟨b2, cap2, cur2, hv, hB, h6, _⟩
    · rw [hv] at e; simp [Value.ownBlock] at e
    · rw [hv] at e
      simp [Value.ownBlock] at e
      subst e
      rw [h6] at h
      cases h
      rcases hT with hT | hT
      · exact hT rfl
      · omega)]
  exact h
def slLen : Value → Nat
  | .slice _ n _ => n
  | _ => 0
theorem OwX.lenL {α : Type} {f : α → List Value} {s : Nat} {T : TypeId} {w : World} {B : Nat} {v : Value} {l : List α} (h : OwX f s T w B v l) : slLen v = l.length := by
  rcases h.2 with ⟨e, h0⟩ | ⟨g, cap, cur, e, _⟩
  · rw [e, h0]; rfl
  · rw [e]; rfl
theorem OwX.sl {α : Type} {f : α → List Value} {s : Nat} {T : TypeId} {w : World} {B : Nat} {v : Value} {l : List α} (h : OwX f s T w B v l) : ∃ A c, v = .slice A l.length c := by
  rcases h.2 with ⟨e, h0⟩ | ⟨g, cap, cur, e, _⟩
  · exact ⟨none, 0, by rw [e, h0]⟩
  · exact ⟨_, _, e⟩
theorem OwX.sl3 {α : Type} {f : α → List Value} {s : Nat} {T : TypeId} {w : World} {B : Nat} {v : Value} {l : List α} (h : OwX f s T w B v l) : ∃ A n c, v = .slice A n c := by
  obtain ⟨A, c, e⟩ := h.sl; exact ⟨A, _, c, e⟩
theorem OwX.one {α : Type} {f : α → List Value} {s : Nat} {T : TypeId} {w : World} {B : Nat} {v : Value} {l : List α} (h : OwX f s T w B v l) : v.oneCell' = true := by
  obtain ⟨A, c, rfl⟩ := h.sl; rfl
theorem step_appX {α : Type} {f : α → List Value} {s : Nat} {ops : Array Oper} {o : Oper} {a : Act} {K : Act → World → Prop} {Q : Exit → Act → World → Prop} {E : Prop} {w : World} (hgd : o.guard = none) (sl xo : Operand) (t e : TypeId) (z : Value) (bytes : Nat)
    (ho : o.op = .call { callee := .builtin .append, args := #[sl, xo], argTypes := #[t, t] })
    (hu : Tryd.prog.underlying t = some (.slice e)) (hinfo : (Tryd.prog.info? e).map (fun i => (i.zero, i.size, i.bytes)) = some (some z, s, bytes)) (hz : z.cells.size = s) (hs0 : 0 < s) (hby : bytes ≤ 100)
    (hf : ∀ x, (f x).length = s) (h1 : ∀ x, ∀ u ∈ f x, u.oneCell' = true)
    (B : Nat) (w0 : World) (hb : Below B w0 w) (hB : B ≤ w.heap.size) (v : Value) (l : List α) (hs : a.eval sl = v) (hown : OwX f s e w B v l)
    (bn c : Nat) (x : α) (cs : Array Value) (T' : TypeId) (fr : Nat × Nat) (hx : a.eval xo = .slice (some ⟨bn, 0, none⟩) 1 c) (hbn : w.heap[bn]? = some (.cells cs T' fr)) (hcs : cs.toList = f x) (hm : l.length + 1 ≤ 1000000)
    (h : ∀ v' w', Hid (OwX f s e w' B v' (l ++ [x])) → Hid (Below B w0 w') → Hid (B ≤ w'.heap.size) → Hid (w.grownBy w' v.ownBlock) → K (a.put o.dst v') w') :
    if Region.wanted o (yielded ops a.tmps) = true then Oper.wp Tryd.prog o a w K Q else E := by
  have hw : Region.wanted o (yielded ops a.tmps) = true := by simp [Region.wanted, hgd]
  rw [if_pos hw]
  obtain ⟨v', w', hr, h2, h3⟩ := run_appX hu hinfo hz hs0 hby hf h1 o.type B v l hown bn c x cs T' fr hbn hcs hm hB
  unfold Oper.wp execOp
  simp only [ho, resolve, invoke, builtin, Sem.run_bind, Sem.run_pure, Result.andThen_ok, List.map_toArray, List.map_cons, List.map_nil, hs, hx, hr]
  exact h v' w' h2 (hb.grown h3 hB (fun k hk => (World.ownsRow.lt hown k hk).1)) (Nat.le_trans hB h3.size) h3
end Go.Proofs.YtpjpegmjcgkonaaDoor

namespace Go.Proofs.YtpjpegmjcgkonaaDoor
open Go.RowKit Vi

theorem RdX.cellAt {α : Type} {f : α → List Value} {s : Nat} {w : World} {n b off k : Nat} {l : List α} {x : α} (h : RdX f s w (some ⟨b, off, none⟩) n l) (hx : l[k]? = some x) (hk : k < n) (j : Nat) (u : Value) (hu : (f x)[j]? = some u) : w.cell? ⟨b, off + k * s + j, none⟩ = some u := by
  obtain ⟨b2, off2, e, _, hc⟩ := h.2 (by omega)
  cases e
  exact hc k x j u hx hu
theorem of_same {P : Program} {f : FuncId} {args : Array Value} {W : World} {v : Value} (h : Calls P f args W fun e w' => e = .returned v ∧ W = w') : Calls P f args W fun e w' => e = .returned v ∧ Below W.heap.size W w' :=
  h.mono fun _ _ ⟨h1, h2⟩ => ⟨h1, h2 ▸ Below.refl _ _⟩
theorem of_drew {P : Program} {f : FuncId} {args : Array Value} {W : World} {v : Value} (h : Calls P f args W fun e w' => e = .returned v ∧ ∃ q, w' = W.drewN q) : Calls P f args W fun e w' => e = .returned v ∧ Below W.heap.size W w' :=
  h.mono fun _ _ ⟨h1, q, h2⟩ => ⟨h1, by subst h2; exact ⟨rfl, rfl, rfl, Nat.le_refl _, fun _ _ => rfl⟩⟩
def stC (s : ByteArray) : List Value := [.string s]
theorem stC_len (s : ByteArray) : (stC s).length = 1 := rfl
theorem stC_one (p : ByteArray) : ∀ u ∈ stC p, u.oneCell' = true := by
  intro u hu
  simp [stC] at hu
  subst hu; rfl
theorem info_stA : (Tryd.prog.info? 9).map (fun i => (i.zero, i.size, i.bytes)) = some (some (.string ⟨#[]⟩), 1, 16) := by kernel_rfl
end Go.Proofs.YtpjpegmjcgkonaaDoor

namespace Go.Proofs.YtpjpegmjcgkonaaDoor
open Go.RowKit

theorem run_appPo {α : Type} {f : α → List Value} {s : Nat} {w : World} {t e : TypeId} {z : Value} {bytes : Nat} (hu : Tryd.prog.underlying t = some (.slice e)) (hinfo : (Tryd.prog.info? e).map (fun i => (i.zero, i.size, i.bytes)) = some (some z, s, bytes)) (hz : z.cells.size = s) (hs0 : 0 < s) (hby : bytes ≤ 100)
    (hf : ∀ x, (f x).length = s) (h1 : ∀ x, ∀ u ∈ f x, u.oneCell' = true)
    (ty : TypeId) (base : Nat) (v : Value) (l : List α) (hown : OwX f s e w base v l) (b c : Nat) (x : α) (cs : Array Value) (T' : TypeId) (fr : Nat × Nat) (hb : w.heap[b]? = some (.cells cs T' fr)) (hcs : cs.toList = f x)
    (hm : l.length + 1 ≤ 1000000) (hbase : base ≤ w.heap.size) :
    ∃ v' w', (Builtin.append_ #[t, t] ty #[v, .slice (some ⟨b, 0, none⟩) 1 c]).run Tryd.prog w = .ok v' w' ∧ OwX f s e w' base v' (l ++ [x]) ∧ w.grownBy w' v.ownBlock ∧ (v'.ownBlock = v.ownBlock ∨ v'.ownBlock = some w.heap.size) := by
  obtain ⟨i0, hi, hz0, hz1, hz2⟩ := info_parts hinfo
  have hmul : (l.length + 1) * bytes ≤ 1000000 * 100 := Nat.mul_le_mul hm hby
  obtain ⟨v', w', hr, h2, h3, _, h5⟩ := run_append_own_at (P := Tryd.prog) w base t ty e i0 z s bytes hu hi hz0 hz1 hz2 hz hs0 v l.length (flat f l) hown ⟨b, 0, none⟩ 1 c (f x)
    (by rw [hf]; omega) (fun j u hj => by
      rw [Addr.add_lit, Nat.zero_add, cell_of_row _ _ _ _ _ _ hb]
      rw [← hcs] at hj
      simpa using hj) (h1 x) (by unfold maxLen; omega) (by omega) hbase
  refine ⟨v', w', hr, ?_, h3, h5⟩
  unfold OwX
  rw [List.length_append, flat_app, flat_one]
  exact h2
theorem step_appPo {α : Type} {f : α → List Value} {s : Nat} {ops : Array Oper} {o : Oper} {a : Act} {K : Act → World → Prop} {Q : Exit → Act → World → Prop} {E : Prop} {w : World} (hgd : o.guard = none) (sl xo : Operand) (t e : TypeId) (z : Value) (bytes : Nat)
    (ho : o.op = .call { callee := .builtin .append, args := #[sl, xo], argTypes := #[t, t] })
    (hu : Tryd.prog.underlying t = some (.slice e)) (hinfo : (Tryd.prog.info? e).map (fun i => (i.zero, i.size, i.bytes)) = some (some z, s, bytes)) (hz : z.cells.size = s) (hs0 : 0 < s) (hby : bytes ≤ 100)
    (hf : ∀ x, (f x).length = s) (h1 : ∀ x, ∀ u ∈ f x, u.oneCell' = true)
    (B : Nat) (w0 : World) (hb : Below B w0 w) (hB : B ≤ w.heap.size) (v : Value) (l : List α) (hs : a.eval sl = v) (hown : OwX f s e w B v l)
    (bn c : Nat) (x : α) (cs : Array Value) (T' : TypeId) (fr : Nat × Nat) (hx : a.eval xo = .slice (some ⟨bn, 0, none⟩) 1 c) (hbn : w.heap[bn]? = some (.cells cs T' fr)) (hcs : cs.toList = f x) (hm : l.length + 1 ≤ 1000000)
    (h : ∀ v' w', Hid (OwX f s e w' B v' (l ++ [x])) → Hid (Below B w0 w') → Hid (w.grownBy w' v.ownBlock) → Hid (v'.ownBlock = v.ownBlock ∨ v'.ownBlock = some w.heap.size) → K (a.put o.dst v') w') :
    if Region.wanted o (yielded ops a.tmps) = true then Oper.wp Tryd.prog o a w K Q else E := by
  have hw : Region.wanted o (yielded ops a.tmps) = true := by simp [Region.wanted, hgd]
  rw [if_pos hw]
  obtain ⟨v', w', hr, h2, h3, h5⟩ := run_appPo hu hinfo hz hs0 hby hf h1 o.type B v l hown bn c x cs T' fr hbn hcs hm hB
  unfold Oper.wp execOp
  simp only [ho, resolve, invoke, builtin, Sem.run_bind, Sem.run_pure, Result.andThen_ok, List.map_toArray, List.map_cons, List.map_nil, hs, hx, hr]
  exact h v' w' h2 (hb.grown h3 hB (fun k hk => (World.ownsRow.lt hown k hk).1)) h3 h5
end Go.Proofs.YtpjpegmjcgkonaaDoor

namespace Go.Proofs.YtpjpegmjcgkonaaDoor
open Go.RowKit

/-- a row that was cut: its length is its capacity -/
def Full {α : Type} (f : α → List Value) (s : Nat) (T : TypeId) (w : World) (v : Value) (l : List α) : Prop :=
  ∃ g cur, v = .slice (some ⟨g, 0, none⟩) l.length l.length ∧ w.heap[g]? = some (.cells cur T (0, 0)) ∧ l.length ≤ maxLen ∧ cur.toList.take (l.length * s) = flat f l
/-- a row of one's own, or one that was cut -/
def OwG {α : Type} (f : α → List Value) (s : Nat) (T : TypeId) (w : World) (v : Value) (l : List α) : Prop := OwX f s T w 0 v l ∨ Full f s T w v l
section
variable {α : Type} {f : α → List Value} {s : Nat} {T : TypeId} {w w' : World} {v : Value} {l : List α}
theorem OwG.nil (w : World) : OwG f s T w (.slice none 0 0) ([] : List α) := .inl (OwX.nil w)
theorem Full.blk (h : Full f s T w v l) (hb : ∀ g, v.ownBlock = some g → g < w.heap.size → w'.heap[g]? = w.heap[g]?) : Full f s T w' v l := by
  obtain ⟨g, cur, rfl, h1, h2, h3⟩ := h
  have hl : g < w.heap.size := by
    rcases Nat.lt_or_ge g w.heap.size with q | q
    · exact q
    · rw [Array.getElem?_eq_none q] at h1; cases h1
  exact ⟨g, cur, rfl, (hb g rfl hl).trans h1, h2, h3⟩
theorem OwG.kept (h : OwG f s T w v l) (hb : Below w.heap.size w w') : OwG f s T w' v l := by
  rcases h with h | h
  · exact .inl (h.kept hb)
  · exact .inr (h.blk fun g _ hl => hb.block g hl)
theorem OwG.alloc (h : OwG f s T w v l) (o : Obj) : OwG f s T (w.alloc o) v l := h.kept ((Below.refl _ _).alloc (Nat.le_refl _) _)
theorem OwG.drew (h : OwG f s T w v l) : OwG f s T w.drew v l := h
theorem Full.rd (hf : ∀ x, (f x).length = s) (h : Full f s T w v l) : ∃ A c, v = .slice A l.length c ∧ RdX f s w A l.length l ∧ l.length ≤ c ∧ c ≤ maxLen := by
  obtain ⟨g, cur, rfl, h4, h5, h8⟩ := h
  refine ⟨some ⟨g, 0, none⟩, l.length, rfl, ⟨rfl, fun hn => ⟨g, 0, rfl, ?_, fun k x j u hk hu => ?_⟩⟩, Nat.le_refl _, h5⟩
  · rcases Nat.lt_or_ge g w.heap.size with q | q
    · exact q
    · rw [Array.getElem?_eq_none q] at h4; cases h4
  · have hg := flat_get hf l k j x u hk hu
    rw [Nat.zero_add, cell_of_row _ _ _ _ _ _ h4]
    rw [← h8, List.getElem?_take] at hg
    split at hg
    · simpa using hg
    · cases hg
theorem OwG.rd (hf : ∀ x, (f x).length = s) (h : OwG f s T w v l) : ∃ A c, v = .slice A l.length c ∧ RdX f s w A l.length l ∧ l.length ≤ c ∧ c ≤ maxLen := by
  rcases h with h | h
  · exact h.rd hf
  · exact h.rd hf
theorem OwG.own (h : OwG f s T w v l) {g : Nat} (e : v.ownBlock = some g) : g < w.heap.size ∧ ∃ cur, w.heap[g]? = some (.cells cur T (0, 0)) := by
  rcases h with h | ⟨g', cur, rfl, h1, _, _⟩
  · rcases h.2 with ⟨q, _⟩ | ⟨g', _, cur, q, _, h4, _⟩
    · rw [q] at e; simp [Value.ownBlock] at e
    · rw [q] at e
      simp [Value.ownBlock] at e
      subst e
      exact ⟨lt_of_block h4, cur, h4⟩
  · simp [Value.ownBlock] at e
    subst e
    exact ⟨lt_of_block h1, cur, h1⟩
theorem OwG.blk (h : OwG f s T w v l) (hb : ∀ g, v.ownBlock = some g → g < w.heap.size → w'.heap[g]? = w.heap[g]?) : OwG f s T w' v l := by
  rcases h with h | h
  · rcases h with ⟨h1, h | ⟨b, cap, cur, h2, h3, h4, h5⟩⟩
    · exact .inl ⟨h1, .inl h⟩
    · exact .inl ⟨h1, .inr ⟨b, cap, cur, h2, h3, (hb b (by rw [h2]; rfl) (lt_of_block h4)).trans h4, h5⟩⟩
  · exact .inr (h.blk hb)
theorem OwG.form (h : OwG f s T w v l) : (v = .slice none 0 0 ∧ l = []) ∨ ∃ g c, v = .slice (some ⟨g, 0, none⟩) l.length c := by
  rcases h with h | ⟨g, cur, rfl, _⟩
  · rcases h.2 with ⟨q, q2⟩ | ⟨g', c, _, q, _⟩
    · exact .inl ⟨q, List.eq_nil_of_length_eq_zero q2⟩
    · exact .inr ⟨g', c, q⟩
  · exact .inr ⟨g, _, rfl⟩
theorem OwG.box (k : OwG f s T w v l) (hg : w.grownBy w' v.ownBlock) {b : Nat} {cs : Array Value} {T2 : TypeId} {fr : Nat × Nat} (h : w.heap[b]? = some (.cells cs T2 fr)) (hT : T2 ≠ T) : w'.heap[b]? = some (.cells cs T2 fr) :=
  (hg.block b (lt_of_block h) (fun e => by
    obtain ⟨_, cur, q⟩ := k.own e.symm
    rw [h] at q
    cases q
    exact hT rfl)).trans h
theorem OwG.sl3 (h : OwG f s T w v l) : ∃ A n c, v = .slice A n c := by
  rcases h.form with ⟨q, _⟩ | ⟨g, c, q⟩
  · exact ⟨_, _, _, q⟩
  · exact ⟨_, _, _, q⟩
theorem OwG.one (h : OwG f s T w v l) : v.oneCell' = true := by
  obtain ⟨A, n, c, rfl⟩ := h.sl3
  rfl
theorem OwG.sl0 {A : Option Addr} {n c : Nat} (h : OwG f s T w (.slice A n c) l) : ∀ b o, A = some ⟨b, o, none⟩ → (Value.slice A n c).ownBlock = some b := by
  intro b o e
  subst e
  rfl
/-- cut to its first k -/
theorem OwG.cut (hf : ∀ x, (f x).length = s) (h : OwG f s T w v l) (k : Nat) (hk : k ≤ l.length) : (v = .slice none 0 0 ∧ k = 0 ∧ l = []) ∨ ∃ g c, v = .slice (some ⟨g, 0, none⟩) l.length c ∧ k ≤ c ∧ c ≤ maxLen ∧ l.length ≤ c ∧ OwG f s T w (.slice (some ⟨g, 0, none⟩) k k) (l.take k) := by
  have hfl : ∀ cur : Array Value, cur.toList.take (l.length * s) = flat f l → cur.toList.take ((l.take k).length * s) = flat f (l.take k) := fun cur hc => by
    rw [List.length_take, Nat.min_eq_left hk]
    have e1 : flat f l = flat f (l.take k) ++ flat f (l.drop k) := by rw [← flat_app, List.take_append_drop]
    have e2 : (flat f (l.take k)).length = k * s := by rw [flat_len hf, List.length_take, Nat.min_eq_left hk]
    have e3 : cur.toList.take (k * s) = (cur.toList.take (l.length * s)).take (k * s) := by rw [List.take_take, Nat.min_eq_left (Nat.mul_le_mul_right s hk)]
    rw [e3, hc, e1, ← e2, List.take_left']
    rfl
  rcases h with h | ⟨g, cur, rfl, h1, h2, h3⟩
  · rcases h.2 with ⟨q, q2⟩ | ⟨g, c, cur, q, _, h4, h5, h6, h7, h8⟩
    · have := List.eq_nil_of_length_eq_zero q2
      subst this
      exact .inl ⟨q, by simpa using hk, rfl⟩
    · refine .inr ⟨g, c, q, by omega, h6, h5, .inr ⟨g, cur, ?_, h4, by rw [List.length_take]; omega, hfl cur h8⟩⟩
      rw [List.length_take, Nat.min_eq_left hk]
  · refine .inr ⟨g, _, rfl, hk, h2, Nat.le_refl _, .inr ⟨g, cur, ?_, h1, by rw [List.length_take]; omega, hfl cur h3⟩⟩
    rw [List.length_take, Nat.min_eq_left hk]
end
theorem grown_drew (w : World) (o : Obj) (r : Option Nat) : w.grownBy (w.drew.alloc o) r := by
  have h := World.grownBy_alloc w.drew o r
  exact ⟨h.os, h.tape, h.output, h.size, h.block⟩
theorem run_appPoG {α : Type} {f : α → List Value} {s : Nat} {w : World} {t e : TypeId} {z : Value} {bytes : Nat} (hu : Tryd.prog.underlying t = some (.slice e)) (hinfo : (Tryd.prog.info? e).map (fun i => (i.zero, i.size, i.bytes)) = some (some z, s, bytes)) (hz : z.cells.size = s) (hs0 : 0 < s) (hby : bytes ≤ 100)
    (hf : ∀ x, (f x).length = s) (h1 : ∀ x, ∀ u ∈ f x, u.oneCell' = true)
    (ty : TypeId) (v : Value) (l : List α) (hown : OwG f s e w v l) (b c : Nat) (x : α) (cs : Array Value) (T' : TypeId) (fr : Nat × Nat) (hb : w.heap[b]? = some (.cells cs T' fr)) (hcs : cs.toList = f x)
    (hm : l.length + 1 ≤ 1000000) :
    ∃ v' w', (Builtin.append_ #[t, t] ty #[v, .slice (some ⟨b, 0, none⟩) 1 c]).run Tryd.prog w = .ok v' w' ∧ OwG f s e w' v' (l ++ [x]) ∧ w.grownBy w' v.ownBlock ∧ (v'.ownBlock = v.ownBlock ∨ v'.ownBlock = some w.heap.size) := by
  rcases hown with hown | ⟨g, cur, rfl, h4, h5, h8⟩
  · obtain ⟨v', w', q1, q2, q3, q4⟩ := run_appPo hu hinfo hz hs0 hby hf h1 ty 0 v l hown b c x cs T' fr hb hcs hm (Nat.zero_le _)
    exact ⟨v', w', q1, .inl q2, q3, q4⟩
  obtain ⟨i, hi, hz0, hz1, hz2⟩ := info_parts hinfo
  have hmul : (l.length + 1) * bytes ≤ 1000000 * 100 := Nat.mul_le_mul hm hby
  have hmul2 : l.length * bytes ≤ 1000000 * 100 := Nat.mul_le_mul (by omega) hby
  have hlen : (flat f l).length = l.length * s := flat_len hf l
  have hr := run_append_grow (P := Tryd.prog) w t ty e i z hu hi hz0 ⟨g, 0, none⟩ l.length l.length (flat f l) (by rw [hlen, hz1]) (fun j u hj => by
      rw [Addr.add_lit, Nat.zero_add, cell_of_row _ _ _ _ _ _ h4]
      rw [← h8, List.getElem?_take] at hj
      split at hj
      · simpa using hj
      · cases hj) ⟨b, 0, none⟩ 1 c (f x) (by rw [hf, hz1]; omega) (fun j u hj => by
      rw [Addr.add_lit, Nat.zero_add, cell_of_row _ _ _ _ _ _ hb]
      rw [← hcs] at hj
      simpa using hj) (by omega) (by omega) (growslice_fits_succ (by rw [hz2]; omega) (by rw [hz2]; omega))
  have hge := grownCap_ge w (l.length + 1) l.length e
  have hle := grownCap_le_maxLen w (l.length + 1) l.length e (by unfold maxLen; omega)
  generalize grownCap w (l.length + 1) l.length e = C at hr hge hle
  refine ⟨_, _, hr, .inl ?_, grown_drew _ _ _, .inr rfl⟩
  unfold OwX
  refine ⟨by rw [flat_app, flat_one, List.length_append, List.length_append, hlen, hf]; simp [Nat.add_mul], .inr ⟨w.heap.size, C, _, by simp, Nat.zero_le _, heap_alloc_new w.drew _, by simp; omega, hle, ?_, ?_⟩⟩
  · rw [Array.size_append, Array.size_append, size_zeroCells, hz, List.size_toArray, List.size_toArray, hlen, hf, Nat.sub_mul, Nat.add_mul, Nat.one_mul]
    have : l.length * s + s ≤ C * s := by have := Nat.mul_le_mul_right s hge; rwa [Nat.add_mul, Nat.one_mul] at this
    omega
  · rw [Array.toList_append, Array.toList_append, flat_app, flat_one, List.take_left']
    rw [List.length_append]
    simp [hlen, hf, Nat.add_mul]
theorem step_appPoG {α : Type} {f : α → List Value} {s : Nat} {ops : Array Oper} {o : Oper} {a : Act} {K : Act → World → Prop} {Q : Exit → Act → World → Prop} {E : Prop} {w : World} (hgd : o.guard = none) (sl xo : Operand) (t e : TypeId) (z : Value) (bytes : Nat)
    (ho : o.op = .call { callee := .builtin .append, args := #[sl, xo], argTypes := #[t, t] })
    (hu : Tryd.prog.underlying t = some (.slice e)) (hinfo : (Tryd.prog.info? e).map (fun i => (i.zero, i.size, i.bytes)) = some (some z, s, bytes)) (hz : z.cells.size = s) (hs0 : 0 < s) (hby : bytes ≤ 100)
    (hf : ∀ x, (f x).length = s) (h1 : ∀ x, ∀ u ∈ f x, u.oneCell' = true)
    (w0 : World) (hb : Below 0 w0 w) (v : Value) (l : List α) (hs : a.eval sl = v) (hown : OwG f s e w v l)
    (bn c : Nat) (x : α) (cs : Array Value) (T' : TypeId) (fr : Nat × Nat) (hx : a.eval xo = .slice (some ⟨bn, 0, none⟩) 1 c) (hbn : w.heap[bn]? = some (.cells cs T' fr)) (hcs : cs.toList = f x) (hm : l.length + 1 ≤ 1000000)
    (h : ∀ v' w', Hid (OwG f s e w' v' (l ++ [x])) → Hid (Below 0 w0 w') → Hid (w.grownBy w' v.ownBlock) → Hid (v'.ownBlock = v.ownBlock ∨ v'.ownBlock = some w.heap.size) → K (a.put o.dst v') w') :
    if Region.wanted o (yielded ops a.tmps) = true then Oper.wp Tryd.prog o a w K Q else E := by
  have hw : Region.wanted o (yielded ops a.tmps) = true := by simp [Region.wanted, hgd]
  rw [if_pos hw]
  obtain ⟨v', w', hr, h2, h3, h5⟩ := run_appPoG hu hinfo hz hs0 hby hf h1 o.type v l hown bn c x cs T' fr hbn hcs hm
  unfold Oper.wp execOp
  simp only [ho, resolve, invoke, builtin, Sem.run_bind, Sem.run_pure, Result.andThen_ok, List.map_toArray, List.map_cons, List.map_nil, hs, hx, hr]
  exact h v' w' h2 (hb.grown h3 (Nat.zero_le _) (fun k _ => Nat.zero_le _)) h3 h5
end Go.Proofs.YtpjpegmjcgkonaaDoor

namespace Go.Proofs.YtpjpegmjcgkonaaDoor
open Go

section
variable {P : Program} {ops : Array Oper} {Q : Exit → Act → World → Prop} {md : Region.Mode} {S : Array Bool → World → Prop}

/-- what has come up has not come up ahead of what it waits for -/
def ShutL (md : Region.Mode) (ops : Array Oper) (L : Array Bool) : Prop := ∀ k ok, ops[k]? = some ok → L.getD k false = true → ∀ e ∈ ok.after, Region.binds md e = true → L.getD e.on false = true
/-- whichever order is picked from here on; S of what has come up holds behind each -/
def wpAnyL (P : Program) (md : Region.Mode) (ops : Array Oper) (Q : Exit → Act → World → Prop) (S : Array Bool → World → Prop) : Nat → Array Bool → Act → World → Prop
  | 0, L, a, w => Region.ready md ops L = [] ∧ Q .normal a w
  | f + 1, L, a, w => (Region.ready md ops L = [] → Q .normal a w) ∧
      ∀ i ∈ Region.ready md ops L, wpOp P ops Q i (fun a' w' => S (L.setIfInBounds i true) w' ∧ wpAnyL P md ops Q S f (L.setIfInBounds i true) a' w') a w
theorem wpAny_of_L : ∀ (f : Nat) (L : Array Bool) (a : Act) (w : World), wpAnyL P md ops Q S f L a w → wpAny P md ops Q f L a w
  | 0, _, _, _, h => h
  | f + 1, _, _, _, h => ⟨h.1, fun i hi => wpOp_mono (fun a' w' h' => wpAny_of_L f _ a' w' h'.2) (h.2 i hi)⟩
/-- the worlds in which an operation that has not come up may come up -/
def SI (md : Region.Mode) (ops : Array Oper) (S : Array Bool → World → Prop) (i : Nat) (w : World) : Prop := ∃ L, ShutL md ops L ∧ L.getD i true = false ∧ S L w
theorem getD_set (L : Array Bool) (j k : Nat) (hne : j ≠ k) : (L.setIfInBounds j true).getD k true = L.getD k true := by
  simp [Array.getD_eq_getD_getElem?, hne]
theorem getF_set (L : Array Bool) (j k : Nat) (hne : j ≠ k) : (L.setIfInBounds j true).getD k false = L.getD k false := by
  simp [Array.getD_eq_getD_getElem?, hne]
theorem getF_on (L : Array Bool) (j : Nat) (h : j < L.size) : (L.setIfInBounds j true).getD j false = true := by
  simp [Array.getD_eq_getD_getElem?, h]
theorem ShutL.set {L : Array Bool} (h : ShutL md ops L) {j : Nat} (hj : j ∈ Region.ready md ops L) : ShutL md ops (L.setIfInBounds j true) := by
  intro k ok hk hl e he hb
  obtain ⟨hun, oj, hoj, hall⟩ := mem_ready.1 hj
  have hjs : j < L.size := by
    rcases Nat.lt_or_ge j L.size with h' | h'
    · exact h'
    · simp [Array.getElem?_eq_none h'] at hun
  have step : ∀ m, L.getD m false = true → (L.setIfInBounds j true).getD m false = true := fun m hm => by
    by_cases hjm : j = m
    · subst hjm; exact getF_on L j hjs
    · rw [getF_set L j m hjm]; exact hm
  by_cases hjk : j = k
  · subst hjk
    rw [hoj] at hk
    injection hk with hk
    subst hk
    apply step
    simpa using hall e he hb
  · rw [getF_set L j k hjk] at hl
    exact step _ (h k ok hk hl e he hb)
theorem ShutL.none (n : Nat) : ShutL md ops (Array.replicate n false) := by
  intro k ok _ hl
  simp only [Array.getD_eq_getD_getElem?, Array.getElem?_replicate] at hl
  split at hl <;> cases hl
theorem wpAnyL_first {i : Nat} {oi : Oper} {v : Value} (hi : ops[i]? = some oi) (hsel : ∀ (j : Nat) (o : Oper) cs b, ops[j]? = some o → o.op ≠ .select cs b)
    (hQ : ∀ c a w, Q (.panic c) (a.put oi.dst v) w → Q (.panic c) a w) (hSi : ∀ L w, S (L.setIfInBounds i true) w ↔ S L w) :
    ∀ (f : Nat) (L : Array Bool) (a : Act) (w : World),
      (∀ j oj, ops[j]? = some oj → j ≠ i → L.getD j true = false → (∀ e ∈ oj.after, Region.binds md e = true → e.on ≠ i) → oi.apart ops oj = true) →
      i ∈ Region.ready md ops L → ShutL md ops L → YieldsIf P ops (SI md ops S i) oi v a → S L w →
      wpAnyL P md ops Q S f (L.setIfInBounds i true) (a.put oi.dst v) w → wpAnyL P md ops Q S (f + 1) L a w := by
  intro f
  induction f with
  | zero =>
    intro L a w _ hr hc hy hS H
    refine ⟨fun h => (by rw [h] at hr; cases hr), fun j hj => ?_⟩
    by_cases hji : j = i
    · subst hji; exact hy.wpOp hi ⟨L, hc, (mem_ready.1 hr).1, hS⟩ ⟨(hSi L w).2 hS, H⟩
    · have := ready_mono hj hji
      rw [H.1] at this
      cases this
  | succ f ih =>
    intro L a w hfree hr hc hy hS H
    refine ⟨fun h => (by rw [h] at hr; cases hr), fun j hj => ?_⟩
    by_cases hji : j = i
    · subst hji; exact hy.wpOp hi ⟨L, hc, (mem_ready.1 hr).1, hS⟩ ⟨(hSi L w).2 hS, H⟩
    · have h1 := H.2 j (ready_mono hj hji)
      obtain ⟨hjun, oj, hoj, hall⟩ := mem_ready.1 hj
      have hnot : ∀ e ∈ oj.after, Region.binds md e = true → e.on ≠ i := fun e he hb heq => by
        have h1 := hall e he hb
        have h0 := (mem_ready.1 hr).1
        rw [heq] at h1
        rcases Nat.lt_or_ge i L.size with h' | h'
        · simp [h'] at h0 h1; rw [h0] at h1; cases h1
        · simp [Array.getElem?_eq_none h'] at h1
      have h2 := wpOp_putIf hoj (hfree j oj hoj hji hjun hnot) (fun cs b => hsel i oi cs b hi) (fun cs b => hsel j oj cs b hoj) hQ hy h1
      refine wpOp_mono (fun a' w' h3 => ?_) h2
      have hs3 : S (L.setIfInBounds j true) w' := by
        have q := h3.2.1
        rw [Array.setIfInBounds_comm _ _ (Ne.symm hji)] at q
        exact (hSi _ _).1 q
      refine ⟨hs3, ih (L.setIfInBounds j true) a' w' (fun k ok hk hki hun hno => ?_) (ready_mono hr (Ne.symm hji)) (hc.set hj) h3.1 hs3 ?_⟩
      · refine hfree k ok hk hki ?_ hno
        by_cases hjk : j = k
        · subst hjk; exact hjun
        · rw [getD_set L j k hjk] at hun; exact hun
      · rw [Array.setIfInBounds_comm _ _ hji]
        exact h3.2.2
/-- take number i first -/
theorem wpAnyL_take {i : Nat} {oi : Oper} {v : Value} {f : Nat} {L : Array Bool} {a : Act} {w : World} (hi : ops[i]? = some oi)
    (hs : Region.noSelect ops = true) (hf : Region.free md ops L i = true) (hr : (Region.ready md ops L).contains i = true)
    (hQ : ∀ c a w, Q (.panic c) (a.put oi.dst v) w → Q (.panic c) a w) (hSi : ∀ L w, S (L.setIfInBounds i true) w ↔ S L w) (hc : ShutL md ops L) (hy : YieldsIf P ops (SI md ops S i) oi v a) (hS : S L w)
    (h : ShutL md ops (L.setIfInBounds i true) → S (L.setIfInBounds i true) w → wpAnyL P md ops Q S f (L.setIfInBounds i true) (a.put oi.dst v) w) : wpAnyL P md ops Q S (f + 1) L a w :=
  wpAnyL_first hi (Region.noSelect_spec hs) hQ hSi f L a w (Region.free_spec hi hf) (by simpa using hr) hc hy hS (h (hc.set (by simpa using hr)) ((hSi _ _).2 hS))
/-- whichever of those that may come up comes up -/
theorem wpAnyL_all {rs : List Nat} {f : Nat} {L : Array Bool} {a : Act} {w : World} (hr : Region.ready md ops L = rs) (hne : rs ≠ []) (hc : ShutL md ops L)
    (h : ∀ i ∈ rs, wpOp P ops Q i (fun a' w' => S (L.setIfInBounds i true) w' ∧ (ShutL md ops (L.setIfInBounds i true) → wpAnyL P md ops Q S f (L.setIfInBounds i true) a' w')) a w) : wpAnyL P md ops Q S (f + 1) L a w :=
  ⟨fun h0 => absurd (hr ▸ h0) hne, fun i hi => wpOp_mono (fun _ _ q => ⟨q.1, q.2 (hc.set hi)⟩) (h i (hr ▸ hi))⟩
theorem wpAnyL_done {L : Array Bool} {a : Act} {w : World} (hr : Region.ready md ops L = []) (h : Q .normal a w) : ∀ f, wpAnyL P md ops Q S f L a w
  | 0 => ⟨hr, h⟩
  | _ + 1 => ⟨fun _ => h, by rw [hr]; simp⟩
theorem wp_region_L {id : Nat} {a : Act} {w : World} (hm : P.follows .mixedOrders = true)
    (h : wpAnyL P .any ops Q S ops.size (Array.replicate ops.size false) a { w with drawn := w.drawn + 1 }) : (Code.region id ops true).wp P Q a w :=
  wp_region_any hm (wpAny_of_L _ _ _ _ h)
end
end Go.Proofs.YtpjpegmjcgkonaaDoor

namespace Go.Proofs.YtpjpegmjcgkonaaDoor
open Go

section
variable {P : Program} {ops : Array Oper} {Q : Exit → Act → World → Prop} {md : Region.Mode} {S : Array Bool → World → Prop}
def AllReadyL (P : Program) (md : Region.Mode) (ops : Array Oper) (Q : Exit → Act → World → Prop) (S : Array Bool → World → Prop) (fuel : Nat) (L : Array Bool) (a : Act) (w : World) (rs : List Nat) : Prop :=
  ∀ i ∈ rs, wpOp P ops Q i (fun a' w' => S (L.setIfInBounds i true) w' ∧ (ShutL md ops (L.setIfInBounds i true) → wpAnyL P md ops Q S fuel (L.setIfInBounds i true) a' w')) a w
theorem AllReadyL.nil {fuel : Nat} {L : Array Bool} {a : Act} {w : World} : AllReadyL P md ops Q S fuel L a w [] := fun _ h => by cases h
theorem AllReadyL.cons {fuel : Nat} {L : Array Bool} {a : Act} {w : World} {i : Nat} {o : Oper} {rs : List Nat} (ho : ops[i]? = some o)
    (h : ∀ K' : Act → World → Prop, Shut (∀ a w, S (L.setIfInBounds i true) w → (ShutL md ops (L.setIfInBounds i true) → wpAnyL P md ops Q S fuel (L.setIfInBounds i true) a w) → K' a w) → if Region.wanted o (yielded ops a.tmps) = true then Oper.wp P o a w K' Q else K' (a.put o.dst undef) w)
    (hs : AllReadyL P md ops Q S fuel L a w rs) : AllReadyL P md ops Q S fuel L a w (i :: rs) := fun j hj => by
  rcases List.mem_cons.1 hj with rfl | hj
  · exact wpOp_step ho (fun K' hK => h K' (fun a w hS hW => hK a w ⟨hS, hW⟩))
  · exact hs j hj
theorem wpAnyL_ready {rs : List Nat} {fuel : Nat} {L : Array Bool} {a : Act} {w : World} (hr : Region.ready md ops L = rs) (hne : rs ≠ []) (hc : ShutL md ops L)
    (h : AllReadyL P md ops Q S fuel L a w rs) : wpAnyL P md ops Q S (fuel + 1) L a w := wpAnyL_all hr hne hc h
theorem wp_region_L_drew {id : Nat} {a : Act} {w : World} (hm : P.follows .mixedOrders = true) (hS : S (Array.replicate ops.size false) w.drew)
    (h : S (Array.replicate ops.size false) w.drew → ShutL .any ops (Array.replicate ops.size false) → wpAnyL P .any ops Q S ops.size (Array.replicate ops.size false) a w.drew) : (Code.region id ops true).wp P Q a w :=
  wp_region_L hm (h hS (ShutL.none _))
/-- k waits for i, in so many steps -/
def waits (md : Region.Mode) (ops : Array Oper) : Nat → Nat → Nat → Bool
  | 0, _, _ => false
  | f + 1, k, i => match ops[k]? with
    | some o => o.after.toList.any fun e => Region.binds md e && (e.on == i || waits md ops f e.on i)
    | none => false
theorem shut_of {L : Array Bool} (hs : ShutL md ops L) {i : Nat} (hi : L.getD i true = false) : ∀ (f k : Nat), waits md ops f k i = true → L.getD k false = false
  | 0, k, h => by simp [waits] at h
  | f + 1, k, h => by
    cases hk : L.getD k false with
    | false => rfl
    | true =>
      exfalso
      unfold waits at h
      split at h
      · next o ho =>
        obtain ⟨e, he, hb⟩ := List.any_eq_true.1 h
        rw [Bool.and_eq_true, Bool.or_eq_true] at hb
        have h1 := hs k o ho hk e (by simpa using he) hb.1
        rcases hb.2 with q | q
        · have : e.on = i := by simpa using q
          rw [this] at h1
          rw [Array.getD_eq_getD_getElem?] at h1 hi
          cases hq : L[i]? with
          | none => rw [hq] at hi; simp at hi
          | some b => rw [hq] at h1 hi; simp at h1 hi; rw [h1] at hi; cases hi
        · rw [shut_of hs hi f e.on q] at h1; cases h1
      · cases h
end
/-- two cells hold what they hold as long as the stores k1, k2 have not come up -/
structure SO (g1 o1 g2 o2 : Nat) (x1 x2 : Value) (k1 k2 : Nat) (L : Array Bool) (w : World) : Prop where
  one : L.getD k1 false = false → w.cell? ⟨g1, o1, none⟩ = some x1
  two : L.getD k2 false = false → w.cell? ⟨g2, o2, none⟩ = some x2
theorem SO.set {g1 o1 g2 o2 : Nat} {x1 x2 : Value} {k1 k2 i : Nat} (h1 : i ≠ k1) (h2 : i ≠ k2) (L : Array Bool) (w : World) : SO g1 o1 g2 o2 x1 x2 k1 k2 (L.setIfInBounds i true) w ↔ SO g1 o1 g2 o2 x1 x2 k1 k2 L w :=
  ⟨fun h => ⟨fun q => h.one (by rw [getF_set L i k1 h1]; exact q), fun q => h.two (by rw [getF_set L i k2 h2]; exact q)⟩,
   fun h => ⟨fun q => h.one (by rw [getF_set L i k1 h1] at q; exact q), fun q => h.two (by rw [getF_set L i k2 h2] at q; exact q)⟩⟩
end Go.Proofs.YtpjpegmjcgkonaaDoor
