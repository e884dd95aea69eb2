/- A map from texts to integers, as a function from texts. Conditions: texts that are no longer than a text may be. -/
import Derived.Test.YtpjpegmjcgkonaaDoorQShelfNobodyZb
import Derived.Maps.Own
import Derived.Maps.OwnSet
import Derived.Maps.Views
import Derived.StringKeys
namespace Go.Proofs.YtpjpegmjcgkonaaDoor
open Go.RowKit Vi Go.WideMaps Go.Maps

def intD (v : Option Int) (z : DataW Nat) : DataW Nat := match v with
  | some i => .lit (.int .i64 i)
  | none => z
theorem intD_zero (v : Option Int) : intD v (.lit (.int .i64 0)) = .lit (.int .i64 (v.getD 0)) := by cases v <;> rfl
/-- block B holds at most k texts; at text s stands what f says -/
def MapI (w : World) (B k : Nat) (f : ByteArray → Option Int) : Prop := ∃ n D, w.ownsMap Tryd.prog 9 (plainElem Tryd.prog 3) B n D ∧ n ≤ k ∧ IsMap D ∧ ∀ s : ByteArray, s.size ≤ maxLen → has D (.string s.data.toList) = (f s).isSome ∧ ∀ z : DataW Nat, D.atKey (.string s.data.toList) z = intD (f s) z
theorem MapI.made (w : World) : MapI (w.alloc (.map #[] 0)) w.heap.size 0 (fun _ => none) :=
  ⟨0, .map [], World.ownsMap_made w _ _ _, Nat.le_refl _, isMap_empty, fun _ _ => ⟨rfl, fun _ => rfl⟩⟩
theorem MapI.kept {w w' : World} {B k : Nat} {f : ByteArray → Option Int} (h : MapI w B k f) (hb : w'.heap[B]? = w.heap[B]?) : MapI w' B k f := by
  obtain ⟨n, D, ⟨es, cl, h1, h2⟩, h3⟩ := h
  exact ⟨n, D, ⟨es, cl, hb.trans h1, h2⟩, h3⟩
theorem MapI.lt {w : World} {B k : Nat} {f : ByteArray → Option Int} (h : MapI w B k f) : B < w.heap.size := by
  obtain ⟨n, D, h1, _⟩ := h
  exact h1.lt
theorem MapI.of {w : World} {B k : Nat} {f g : ByteArray → Option Int} (h : MapI w B k f) (e : ∀ s, f s = g s) : MapI w B k g := by
  have : f = g := funext e
  subst this
  exact h
theorem ba_eq {s x : ByteArray} : (x.toList == s.toList) = true ↔ x = s := by
  constructor
  · intro h
    have h1 : x.toList = s.toList := by simpa using h
    rw [Lib.toList_data, Lib.toList_data] at h1
    exact ByteArray.ext (Array.ext' h1)
  · rintro rfl; simp
def updF (f : ByteArray → Option Int) (x : ByteArray) (i : Int) (s : ByteArray) : Option Int := if (x.toList == s.toList) = true then some i else f s
def delF (f : ByteArray → Option Int) (x : ByteArray) (s : ByteArray) : Option Int := if (x.toList == s.toList) = true then none else f s
theorem lit_ne {x s : ByteArray} (e : x ≠ s) : (Lit.string s.data.toList) ≠ .string x.data.toList := fun q => by
  injection q with q
  exact e (ByteArray.ext (Array.ext' q.symm))
theorem MapI.put {w : World} {B k : Nat} {f : ByteArray → Option Int} (h : MapI w B k f) (x : ByteArray) (i : Int) (hx : x.size ≤ maxLen) (hi : (Lit.int .i64 i).wf = true) (hk : k < maxLen) :
    ∃ w', (Instr.mapUpdate 52 (.map (some B)) (.string x) (.int .i64 i)).run Tryd.prog w = .ok () w' ∧ MapI w' B (k + 1) (updF f x i) ∧ w.grownBy w' (some B) := by
  obtain ⟨n, D, h1, h2, h3, h4⟩ := h
  obtain ⟨w', hrun, hown, hg⟩ := h1.update (string_keyed Tryd.underlying9) Tryd.underlying52 (by omega) (key := .string x) (val := .int .i64 i) (keyOf_string_mk Tryd.underlying9 hx) (plainElem_int Tryd.underlying3 hi)
  refine ⟨w', hrun, ⟨n + 1, _, hown, by omega, h3.put _ _, fun s hs => ?_⟩, hg⟩
  unfold updF
  by_cases e : x = s
  · subst e
    rw [has_put_same (k := .string x.data.toList) h3 trivial, if_pos (by simp)]
    exact ⟨rfl, fun z => by rw [atKey_put_same (k := .string x.data.toList) h3 trivial]; rfl⟩
  · have hf : ¬ (x.toList == s.toList) = true := fun q => e (ba_eq.1 q)
    rw [has_put_other (lit_ne e), if_neg hf]
    exact ⟨(h4 s hs).1, fun z => by rw [atKey_put_other (lit_ne e)]; exact (h4 s hs).2 z⟩
theorem zero_intM (w : World) : (zeroValue 3).run Tryd.prog w = .ok (.int .i64 0) w := by
  simp [go_sem]
set_option maxRecDepth 100000 in
theorem MapI.look2 {w : World} {B k : Nat} {f : ByteArray → Option Int} (h : MapI w B k f) (s : ByteArray) (hs : s.size ≤ maxLen) :
    (Instr.lookup 52 (.map (some B)) (.string s) true).run Tryd.prog w = .ok (.tuple #[.int .i64 ((f s).getD 0), .bool (f s).isSome]) w := by
  obtain ⟨n, D, h1, h2, h3, h4⟩ := h
  obtain ⟨v, ps, hrun, hv⟩ := h1.look_ok (string_keyed Tryd.underlying9) Tryd.underlying52 (zero_intM w) (plainElem_int Tryd.underlying3 (by decide : (Lit.int .i64 0).wf = true)) (keyOf_string_mk Tryd.underlying9 hs)
  rw [(h4 s hs).2, intD_zero] at hv
  obtain ⟨a, rfl, hz, _⟩ := plainElem_int_inv Tryd.underlying3 hv
  injection hz with hz _
  injection hz with hz
  injection hz with _ hz
  rw [hrun, (h4 s hs).1, hz]
set_option maxRecDepth 100000 in
theorem MapI.look1 {w : World} {B k : Nat} {f : ByteArray → Option Int} (h : MapI w B k f) (s : ByteArray) (hs : s.size ≤ maxLen) :
    (Instr.lookup 52 (.map (some B)) (.string s) false).run Tryd.prog w = .ok (.int .i64 ((f s).getD 0)) w := by
  obtain ⟨n, D, h1, h2, h3, h4⟩ := h
  obtain ⟨c, hrun, hv, _⟩ := h1.lookup_int (string_keyed Tryd.underlying9) Tryd.underlying52 Tryd.underlying3 (zero_intM w) (keyOf_string_mk Tryd.underlying9 hs)
  rw [(h4 s hs).2, intD_zero] at hv
  injection hv with hv
  injection hv with _ hv
  rw [hrun, hv]
end Go.Proofs.YtpjpegmjcgkonaaDoor
