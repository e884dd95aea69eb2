/- Several texts of one family, merged for a claim. Conditions as in its parts. -/
import Derived.Test.YtiflieaemgamkaaDoorZb
import Derived.Maps.Own
import Derived.Maps.OwnSet
import Derived.Maps.Views
import Derived.StringKeys
import Derived.Test.YtiflieaemgamkaaDoorPo
import Derived.Laws.Append
import Derived.WalkSpells
import Derived.Test.YtiflieaemgamkaaDoorStB
import Derived.Test.YtiflieaemgamkaaDoorOLb
namespace Go.Proofs.YtiflieaemgamkaaDoor
open Go.RowKit Vi Go.WideMaps Go.Maps

def intD (v : Option Int) (z : DataW Nat) : DataW Nat := match v with
  | some i => .lit (.int .i64 i)
  | none => z
theorem intD_zero (v : Option Int) : intD v (.lit (.int .i64 0)) = .lit (.int .i64 (v.getD 0)) := by cases v <;> rfl
/-- block B holds at most k texts; at text s stands what f says -/
def MapI (w : World) (B k : Nat) (f : ByteArray → Option Int) : Prop := ∃ n D, w.ownsMap Tryd.prog 9 (plainElem Tryd.prog 3) B n D ∧ n ≤ k ∧ IsMap D ∧ ∀ s : ByteArray, s.size ≤ maxLen → has D (.string s.data.toList) = (f s).isSome ∧ ∀ z : DataW Nat, D.atKey (.string s.data.toList) z = intD (f s) z
theorem MapI.made (w : World) : MapI (w.alloc (.map #[] 0)) w.heap.size 0 (fun _ => none) :=
  ⟨0, .map [], World.ownsMap_made w _ _ _, Nat.le_refl _, isMap_empty, fun _ _ => ⟨rfl, fun _ => rfl⟩⟩
theorem MapI.kept {w w' : World} {B k : Nat} {f : ByteArray → Option Int} (h : MapI w B k f) (hb : w'.heap[B]? = w.heap[B]?) : MapI w' B k f := by
  obtain ⟨n, D, ⟨es, cl, h1, h2⟩, h3⟩ := h
  exact ⟨n, D, ⟨es, cl, hb.trans h1, h2⟩, h3⟩
theorem MapI.lt {w : World} {B k : Nat} {f : ByteArray → Option Int} (h : MapI w B k f) : B < w.heap.size := by
  obtain ⟨n, D, h1, _⟩ := h
  exact h1.lt
theorem MapI.of {w : World} {B k : Nat} {f g : ByteArray → Option Int} (h : MapI w B k f) (e : ∀ s, f s = g s) : MapI w B k g := by
  have : f = g := funext e
  subst this
  exact h
theorem ba_eq {s x : ByteArray} : (x.toList == s.toList) = true ↔ x = s := by
  constructor
  · intro h
    have h1 : x.toList = s.toList := by simpa using h
    rw [Lib.toList_data, Lib.toList_data] at h1
    exact ByteArray.ext (Array.ext' h1)
  · rintro rfl; simp
def updF (f : ByteArray → Option Int) (x : ByteArray) (i : Int) (s : ByteArray) : Option Int := if (x.toList == s.toList) = true then some i else f s
def delF (f : ByteArray → Option Int) (x : ByteArray) (s : ByteArray) : Option Int := if (x.toList == s.toList) = true then none else f s
theorem lit_ne {x s : ByteArray} (e : x ≠ s) : (Lit.string s.data.toList) ≠ .string x.data.toList := fun q => by
  injection q with q
  exact e (ByteArray.ext (Array.ext' q.symm))
theorem MapI.put {w : World} {B k : Nat} {f : ByteArray → Option Int} (h : MapI w B k f) (x : ByteArray) (i : Int) (hx : x.size ≤ maxLen) (hi : (Lit.int .i64 i).wf = true) (hk : k < maxLen) :
    ∃ w', (Instr.mapUpdate 44 (.map (some B)) (.string x) (.int .i64 i)).run Tryd.prog w = .ok () w' ∧ MapI w' B (k + 1) (updF f x i) ∧ w.grownBy w' (some B) := by
  obtain ⟨n, D, h1, h2, h3, h4⟩ := h
  obtain ⟨w', hrun, hown, hg⟩ := h1.update (string_keyed Tryd.underlying9) Tryd.underlying44 (by omega) (key := .string x) (val := .int .i64 i) (keyOf_string_mk Tryd.underlying9 hx) (plainElem_int Tryd.underlying3 hi)
  refine ⟨w', hrun, ⟨n + 1, _, hown, by omega, h3.put _ _, fun s hs => ?_⟩, hg⟩
  unfold updF
  by_cases e : x = s
  · subst e
    rw [has_put_same (k := .string x.data.toList) h3 trivial, if_pos (by simp)]
    exact ⟨rfl, fun z => by rw [atKey_put_same (k := .string x.data.toList) h3 trivial]; rfl⟩
  · have hf : ¬ (x.toList == s.toList) = true := fun q => e (ba_eq.1 q)
    rw [has_put_other (lit_ne e), if_neg hf]
    exact ⟨(h4 s hs).1, fun z => by rw [atKey_put_other (lit_ne e)]; exact (h4 s hs).2 z⟩
theorem zero_intM (w : World) : (zeroValue 3).run Tryd.prog w = .ok (.int .i64 0) w := by
  simp [go_sem]
set_option maxRecDepth 100000 in
theorem MapI.look2 {w : World} {B k : Nat} {f : ByteArray → Option Int} (h : MapI w B k f) (s : ByteArray) (hs : s.size ≤ maxLen) :
    (Instr.lookup 44 (.map (some B)) (.string s) true).run Tryd.prog w = .ok (.tuple #[.int .i64 ((f s).getD 0), .bool (f s).isSome]) w := by
  obtain ⟨n, D, h1, h2, h3, h4⟩ := h
  obtain ⟨v, ps, hrun, hv⟩ := h1.look_ok (string_keyed Tryd.underlying9) Tryd.underlying44 (zero_intM w) (plainElem_int Tryd.underlying3 (by decide : (Lit.int .i64 0).wf = true)) (keyOf_string_mk Tryd.underlying9 hs)
  rw [(h4 s hs).2, intD_zero] at hv
  obtain ⟨a, rfl, hz, _⟩ := plainElem_int_inv Tryd.underlying3 hv
  injection hz with hz _
  injection hz with hz
  injection hz with _ hz
  rw [hrun, (h4 s hs).1, hz]
set_option maxRecDepth 100000 in
theorem MapI.look1 {w : World} {B k : Nat} {f : ByteArray → Option Int} (h : MapI w B k f) (s : ByteArray) (hs : s.size ≤ maxLen) :
    (Instr.lookup 44 (.map (some B)) (.string s) false).run Tryd.prog w = .ok (.int .i64 ((f s).getD 0)) w := by
  obtain ⟨n, D, h1, h2, h3, h4⟩ := h
  obtain ⟨c, hrun, hv, _⟩ := h1.lookup_int (string_keyed Tryd.underlying9) Tryd.underlying44 Tryd.underlying3 (zero_intM w) (keyOf_string_mk Tryd.underlying9 hs)
  rw [(h4 s hs).2, intD_zero] at hv
  injection hv with hv
  injection hv with _ hv
  rw [hrun, hv]
end Go.Proofs.YtiflieaemgamkaaDoor

namespace Go.Proofs.YtiflieaemgamkaaDoor
open Go.RowKit

/-- a row that was cut: its length is its capacity -/
def Full {α : Type} (f : α → List Value) (s : Nat) (T : TypeId) (w : World) (v : Value) (l : List α) : Prop :=
  ∃ g cur, v = .slice (some ⟨g, 0, none⟩) l.length l.length ∧ w.heap[g]? = some (.cells cur T (0, 0)) ∧ l.length ≤ maxLen ∧ cur.toList.take (l.length * s) = flat f l
/-- a row of one's own, or one that was cut -/
def OwG {α : Type} (f : α → List Value) (s : Nat) (T : TypeId) (w : World) (v : Value) (l : List α) : Prop := OwX f s T w 0 v l ∨ Full f s T w v l
section
variable {α : Type} {f : α → List Value} {s : Nat} {T : TypeId} {w w' : World} {v : Value} {l : List α}
theorem OwG.nil (w : World) : OwG f s T w (.slice none 0 0) ([] : List α) := .inl (OwX.nil w)
theorem Full.blk (h : Full f s T w v l) (hb : ∀ g, v.ownBlock = some g → g < w.heap.size → w'.heap[g]? = w.heap[g]?) : Full f s T w' v l := by
  obtain ⟨g, cur, rfl, h1, h2, h3⟩ := h
  have hl : g < w.heap.size := by
    rcases Nat.lt_or_ge g w.heap.size with q | q
    · exact q
    · rw [Array.getElem?_eq_none q] at h1; cases h1
  exact ⟨g, cur, rfl, (hb g rfl hl).trans h1, h2, h3⟩
theorem OwG.kept (h : OwG f s T w v l) (hb : Below w.heap.size w w') : OwG f s T w' v l := by
  rcases h with h | h
  · exact .inl (h.kept hb)
  · exact .inr (h.blk fun g _ hl => hb.block g hl)
theorem OwG.alloc (h : OwG f s T w v l) (o : Obj) : OwG f s T (w.alloc o) v l := h.kept ((Below.refl _ _).alloc (Nat.le_refl _) _)
theorem OwG.drew (h : OwG f s T w v l) : OwG f s T w.drew v l := h
theorem Full.rd (hf : ∀ x, (f x).length = s) (h : Full f s T w v l) : ∃ A c, v = .slice A l.length c ∧ RdX f s w A l.length l ∧ l.length ≤ c ∧ c ≤ maxLen := by
  obtain ⟨g, cur, rfl, h4, h5, h8⟩ := h
  refine ⟨some ⟨g, 0, none⟩, l.length, rfl, ⟨rfl, fun hn => ⟨g, 0, rfl, ?_, fun k x j u hk hu => ?_⟩⟩, Nat.le_refl _, h5⟩
  · rcases Nat.lt_or_ge g w.heap.size with q | q
    · exact q
    · rw [Array.getElem?_eq_none q] at h4; cases h4
  · have hg := flat_get hf l k j x u hk hu
    rw [Nat.zero_add, cell_of_row _ _ _ _ _ _ h4]
    rw [← h8, List.getElem?_take] at hg
    split at hg
    · simpa using hg
    · cases hg
theorem OwG.rd (hf : ∀ x, (f x).length = s) (h : OwG f s T w v l) : ∃ A c, v = .slice A l.length c ∧ RdX f s w A l.length l ∧ l.length ≤ c ∧ c ≤ maxLen := by
  rcases h with h | h
  · exact h.rd hf
  · exact h.rd hf
theorem OwG.own (h : OwG f s T w v l) {g : Nat} (e : v.ownBlock = some g) : g < w.heap.size ∧ ∃ cur, w.heap[g]? = some (.cells cur T (0, 0)) := by
  rcases h with h | ⟨g', cur, rfl, h1, _, _⟩
  · rcases h.2 with ⟨q, _⟩ | ⟨g', _, cur, q, _, h4, _⟩
    · rw [q] at e; simp [Value.ownBlock] at e
    · rw [q] at e
      simp [Value.ownBlock] at e
      subst e
      exact ⟨lt_of_block h4, cur, h4⟩
  · simp [Value.ownBlock] at e
    subst e
    exact ⟨lt_of_block h1, cur, h1⟩
theorem OwG.blk (h : OwG f s T w v l) (hb : ∀ g, v.ownBlock = some g → g < w.heap.size → w'.heap[g]? = w.heap[g]?) : OwG f s T w' v l := by
  rcases h with h | h
  · rcases h with ⟨h1, h | ⟨b, cap, cur, h2, h3, h4, h5⟩⟩
    · exact .inl ⟨h1, .inl h⟩
    · exact .inl ⟨h1, .inr ⟨b, cap, cur, h2, h3, (hb b (by rw [h2]; rfl) (lt_of_block h4)).trans h4, h5⟩⟩
  · exact .inr (h.blk hb)
theorem OwG.form (h : OwG f s T w v l) : (v = .slice none 0 0 ∧ l = []) ∨ ∃ g c, v = .slice (some ⟨g, 0, none⟩) l.length c := by
  rcases h with h | ⟨g, cur, rfl, _⟩
  · rcases h.2 with ⟨q, q2⟩ | ⟨g', c, _, q, _⟩
    · exact .inl ⟨q, List.eq_nil_of_length_eq_zero q2⟩
    · exact .inr ⟨g', c, q⟩
  · exact .inr ⟨g, _, rfl⟩
theorem OwG.box (k : OwG f s T w v l) (hg : w.grownBy w' v.ownBlock) {b : Nat} {cs : Array Value} {T2 : TypeId} {fr : Nat × Nat} (h : w.heap[b]? = some (.cells cs T2 fr)) (hT : T2 ≠ T) : w'.heap[b]? = some (.cells cs T2 fr) :=
  (hg.block b (lt_of_block h) (fun e => by
    obtain ⟨_, cur, q⟩ := k.own e.symm
    rw [h] at q
    cases q
    exact hT rfl)).trans h
theorem OwG.sl3 (h : OwG f s T w v l) : ∃ A n c, v = .slice A n c := by
  rcases h.form with ⟨q, _⟩ | ⟨g, c, q⟩
  · exact ⟨_, _, _, q⟩
  · exact ⟨_, _, _, q⟩
theorem OwG.one (h : OwG f s T w v l) : v.oneCell' = true := by
  obtain ⟨A, n, c, rfl⟩ := h.sl3
  rfl
theorem OwG.sl0 {A : Option Addr} {n c : Nat} (h : OwG f s T w (.slice A n c) l) : ∀ b o, A = some ⟨b, o, none⟩ → (Value.slice A n c).ownBlock = some b := by
  intro b o e
  subst e
  rfl
/-- cut to its first k -/
theorem OwG.cut (hf : ∀ x, (f x).length = s) (h : OwG f s T w v l) (k : Nat) (hk : k ≤ l.length) : (v = .slice none 0 0 ∧ k = 0 ∧ l = []) ∨ ∃ g c, v = .slice (some ⟨g, 0, none⟩) l.length c ∧ k ≤ c ∧ c ≤ maxLen ∧ l.length ≤ c ∧ OwG f s T w (.slice (some ⟨g, 0, none⟩) k k) (l.take k) := by
  have hfl : ∀ cur : Array Value, cur.toList.take (l.length * s) = flat f l → cur.toList.take ((l.take k).length * s) = flat f (l.take k) := fun cur hc => by
    rw [List.length_take, Nat.min_eq_left hk]
    have e1 : flat f l = flat f (l.take k) ++ flat f (l.drop k) := by rw [← flat_app, List.take_append_drop]
    have e2 : (flat f (l.take k)).length = k * s := by rw [flat_len hf, List.length_take, Nat.min_eq_left hk]
    have e3 : cur.toList.take (k * s) = (cur.toList.take (l.length * s)).take (k * s) := by rw [List.take_take, Nat.min_eq_left (Nat.mul_le_mul_right s hk)]
    rw [e3, hc, e1, ← e2, List.take_left']
    rfl
  rcases h with h | ⟨g, cur, rfl, h1, h2, h3⟩
  · rcases h.2 with ⟨q, q2⟩ | ⟨g, c, cur, q, _, h4, h5, h6, h7, h8⟩
    · have := List.eq_nil_of_length_eq_zero q2
      subst this
      exact .inl ⟨q, by simpa using hk, rfl⟩
    · refine .inr ⟨g, c, q, by omega, h6, h5, .inr ⟨g, cur, ?_, h4, by rw [List.length_take]; omega, hfl cur h8⟩⟩
      rw [List.length_take, Nat.min_eq_left hk]
  · refine .inr ⟨g, _, rfl, hk, h2, Nat.le_refl _, .inr ⟨g, cur, ?_, h1, by rw [List.length_take]; omega, hfl cur h3⟩⟩
    rw [List.length_take, Nat.min_eq_left hk]
end
theorem grown_drew (w : World) (o : Obj) (r : Option Nat) : w.grownBy (w.drew.alloc o) r := by
  have h := World.grownBy_alloc w.drew o r
  exact ⟨h.os, h.tape, h.output, h.size, h.block⟩
theorem run_appPoG {α : Type} {f : α → List Value} {s : Nat} {w : World} {t e : TypeId} {z : Value} {bytes : Nat} (hu : Tryd.prog.underlying t = some (.slice e)) (hinfo : (Tryd.prog.info? e).map (fun i => (i.zero, i.size, i.bytes)) = some (some z, s, bytes)) (hz : z.cells.size = s) (hs0 : 0 < s) (hby : bytes ≤ 100)
    (hf : ∀ x, (f x).length = s) (h1 : ∀ x, ∀ u ∈ f x, u.oneCell' = true)
    (ty : TypeId) (v : Value) (l : List α) (hown : OwG f s e w v l) (b c : Nat) (x : α) (cs : Array Value) (T' : TypeId) (fr : Nat × Nat) (hb : w.heap[b]? = some (.cells cs T' fr)) (hcs : cs.toList = f x)
    (hm : l.length + 1 ≤ 1000000) :
    ∃ v' w', (Builtin.append_ #[t, t] ty #[v, .slice (some ⟨b, 0, none⟩) 1 c]).run Tryd.prog w = .ok v' w' ∧ OwG f s e w' v' (l ++ [x]) ∧ w.grownBy w' v.ownBlock ∧ (v'.ownBlock = v.ownBlock ∨ v'.ownBlock = some w.heap.size) := by
  rcases hown with hown | ⟨g, cur, rfl, h4, h5, h8⟩
  · obtain ⟨v', w', q1, q2, q3, q4⟩ := run_appPo hu hinfo hz hs0 hby hf h1 ty 0 v l hown b c x cs T' fr hb hcs hm (Nat.zero_le _)
    exact ⟨v', w', q1, .inl q2, q3, q4⟩
  obtain ⟨i, hi, hz0, hz1, hz2⟩ := info_parts hinfo
  have hmul : (l.length + 1) * bytes ≤ 1000000 * 100 := Nat.mul_le_mul hm hby
  have hmul2 : l.length * bytes ≤ 1000000 * 100 := Nat.mul_le_mul (by omega) hby
  have hlen : (flat f l).length = l.length * s := flat_len hf l
  have hr := run_append_grow (P := Tryd.prog) w t ty e i z hu hi hz0 ⟨g, 0, none⟩ l.length l.length (flat f l) (by rw [hlen, hz1]) (fun j u hj => by
      rw [Addr.add_lit, Nat.zero_add, cell_of_row _ _ _ _ _ _ h4]
      rw [← h8, List.getElem?_take] at hj
      split at hj
      · simpa using hj
      · cases hj) ⟨b, 0, none⟩ 1 c (f x) (by rw [hf, hz1]; omega) (fun j u hj => by
      rw [Addr.add_lit, Nat.zero_add, cell_of_row _ _ _ _ _ _ hb]
      rw [← hcs] at hj
      simpa using hj) (by omega) (by omega) (growslice_fits_succ (by rw [hz2]; omega) (by rw [hz2]; omega))
  have hge := grownCap_ge w (l.length + 1) l.length e
  have hle := grownCap_le_maxLen w (l.length + 1) l.length e (by unfold maxLen; omega)
  generalize grownCap w (l.length + 1) l.length e = C at hr hge hle
  refine ⟨_, _, hr, .inl ?_, grown_drew _ _ _, .inr rfl⟩
  unfold OwX
  refine ⟨by rw [flat_app, flat_one, List.length_append, List.length_append, hlen, hf]; simp [Nat.add_mul], .inr ⟨w.heap.size, C, _, by simp, Nat.zero_le _, heap_alloc_new w.drew _, by simp; omega, hle, ?_, ?_⟩⟩
  · rw [Array.size_append, Array.size_append, size_zeroCells, hz, List.size_toArray, List.size_toArray, hlen, hf, Nat.sub_mul, Nat.add_mul, Nat.one_mul]
    have : l.length * s + s ≤ C * s := by have := Nat.mul_le_mul_right s hge; rwa [Nat.add_mul, Nat.one_mul] at this
    omega
  · rw [Array.toList_append, Array.toList_append, flat_app, flat_one, List.take_left']
    rw [List.length_append]
    simp [hlen, hf, Nat.add_mul]
theorem step_appPoG {α : Type} {f : α → List Value} {s : Nat} {ops : Array Oper} {o : Oper} {a : Act} {K : Act → World → Prop} {Q : Exit → Act → World → Prop} {E : Prop} {w : World} (hgd : o.guard = none) (sl xo : Operand) (t e : TypeId) (z : Value) (bytes : Nat)
    (ho : o.op = .call { callee := .builtin .append, args := #[sl, xo], argTypes := #[t, t] })
    (hu : Tryd.prog.underlying t = some (.slice e)) (hinfo : (Tryd.prog.info? e).map (fun i => (i.zero, i.size, i.bytes)) = some (some z, s, bytes)) (hz : z.cells.size = s) (hs0 : 0 < s) (hby : bytes ≤ 100)
    (hf : ∀ x, (f x).length = s) (h1 : ∀ x, ∀ u ∈ f x, u.oneCell' = true)
    (w0 : World) (hb : Below 0 w0 w) (v : Value) (l : List α) (hs : a.eval sl = v) (hown : OwG f s e w v l)
    (bn c : Nat) (x : α) (cs : Array Value) (T' : TypeId) (fr : Nat × Nat) (hx : a.eval xo = .slice (some ⟨bn, 0, none⟩) 1 c) (hbn : w.heap[bn]? = some (.cells cs T' fr)) (hcs : cs.toList = f x) (hm : l.length + 1 ≤ 1000000)
    (h : ∀ v' w', Hid (OwG f s e w' v' (l ++ [x])) → Hid (Below 0 w0 w') → Hid (w.grownBy w' v.ownBlock) → Hid (v'.ownBlock = v.ownBlock ∨ v'.ownBlock = some w.heap.size) → K (a.put o.dst v') w') :
    if Region.wanted o (yielded ops a.tmps) = true then Oper.wp Tryd.prog o a w K Q else E := by
  have hw : Region.wanted o (yielded ops a.tmps) = true := by simp [Region.wanted, hgd]
  rw [if_pos hw]
  obtain ⟨v', w', hr, h2, h3, h5⟩ := run_appPoG hu hinfo hz hs0 hby hf h1 o.type v l hown bn c x cs T' fr hbn hcs hm
  unfold Oper.wp execOp
  simp only [ho, resolve, invoke, builtin, Sem.run_bind, Sem.run_pure, Result.andThen_ok, List.map_toArray, List.map_cons, List.map_nil, hs, hx, hr]
  exact h v' w' h2 (hb.grown h3 (Nat.zero_le _) (fun k _ => Nat.zero_le _)) h3 h5
end Go.Proofs.YtiflieaemgamkaaDoor

namespace Go.Proofs.YtiflieaemgamkaaDoor
open Go.RowKit Vi

abbrev Ob := ByteArray × ByteArray
def obC (x : Ob) : List Value := [.string x.1, .string x.2]
theorem obC_len (x : Ob) : (obC x).length = 2 := rfl
theorem obC_one (x : Ob) : ∀ u ∈ obC x, u.oneCell' = true := by
  intro u hu
  simp [obC] at hu
  rcases hu with rfl | rfl <;> rfl
/-- a shelf's box -/
def shO (oa : Option Addr) (on oc : Nat) (pm : Option Nat) (c0 c1 : ByteArray) : Obj := .cells #[.slice oa on oc, .map pm, .string c0, .string c1] 48 (0, 0)
/-- where a name stands -/
def posO (L : List Ob) (s : ByteArray) : Option Int := Option.map (fun k : Nat => (Int.ofNat k : Int)) (L.findIdx? fun x => x.1.toList == s.toList)
section
variable {D : Nat} {oa : Option Addr} {on oc : Nat} {pm : Option Nat} {c0 c1 : ByteArray} {w : World}
theorem sh_cells (h : w.heap[D]? = some (shO oa on oc pm c0 c1)) : w.cell? ⟨D, 0, none⟩ = some (.slice oa on oc) ∧ w.cell? ⟨D, 1, none⟩ = some (.map pm) ∧ w.cell? ⟨D, 2, none⟩ = some (.string c0) ∧ w.cell? ⟨D, 3, none⟩ = some (.string c1) :=
  ⟨(cell_of_row _ _ _ _ _ _ h).trans rfl, (cell_of_row _ _ _ _ _ _ h).trans rfl, (cell_of_row _ _ _ _ _ _ h).trans rfl, (cell_of_row _ _ _ _ _ _ h).trans rfl⟩
end
/-- a shelf that is there -/
structure SK (D : Nat) (L : List Ob) (c0 c1 : ByteArray) (k : Nat) (w : World) : Prop where
  box : ∃ (oa : Option Addr) (on oc B : Nat), w.heap[D]? = some (shO oa on oc (some B) c0 c1) ∧ OwG obC 2 54 w (.slice oa on oc) L ∧ MapI w B k (posO L)
theorem SK.lt {D : Nat} {L : List Ob} {c0 c1 : ByteArray} {k : Nat} {w : World} (h : SK D L c0 c1 k w) : D < w.heap.size := by
  obtain ⟨oa, on, oc, B, h1, h2, h3⟩ := h
  exact lt_of_block h1
theorem SK.kept {D : Nat} {L : List Ob} {c0 c1 : ByteArray} {k : Nat} {w w' : World} (h : SK D L c0 c1 k w) (hb : Below w.heap.size w w') : SK D L c0 c1 k w' := by
  obtain ⟨oa, on, oc, B, h1, h2, h3⟩ := h
  exact ⟨oa, on, oc, B, (hb.block D (lt_of_block h1)).trans h1, h2.kept hb, h3.kept (hb.block B h3.lt)⟩
set_option maxRecDepth 100000 in
theorem smade_nil (w : World) : Calls Tryd.prog 15 #[.pointer none] w fun e w' => e = .returned (.bool false) ∧ w = w' := by
  go_enter Tryd.func15, Tryd.ntmps15
  go_wp2_with fail
  go_ret
  exact ⟨rfl, rfl⟩
theorem run_map_ne (w : World) (pm : Option Nat) : (binOp .neq 44 (.map pm) (.map none)).run Tryd.prog w = .ok (.bool pm.isSome) w := by
  rw [run_neq_map_nil w _ _ _ pm Tryd.underlying44]
  cases pm <;> rfl
set_option maxRecDepth 100000 in
theorem smade_any (D : Nat) (oa : Option Addr) (on oc : Nat) (pm : Option Nat) (c0 c1 : ByteArray) (w : World) (h : w.heap[D]? = some (shO oa on oc pm c0 c1)) : Calls Tryd.prog 15 #[.pointer (some ⟨D, 0, none⟩)] w fun e w' => e = .returned (.bool pm.isSome) ∧ w = w' := by
  obtain ⟨x0, x1, x2, x3⟩ := sh_cells h
  clear h x0 x2 x3
  cases pm with
  | none =>
    have hn := run_map_ne w none
    go_enter Tryd.func15, Tryd.ntmps15
    go_wp2_with fail
    go_ret
    exact ⟨rfl, rfl⟩
  | some B =>
    have hn := run_map_ne w (some B)
    go_enter Tryd.func15, Tryd.ntmps15
    go_wp2_with fail
    go_ret
    exact ⟨rfl, rfl⟩
set_option maxRecDepth 100000 in
theorem shas_any (D : Nat) (L : List Ob) (c0 c1 : ByteArray) (k : Nat) (s : ByteArray) (w : World) (h : SK D L c0 c1 k w) (hs : s.size ≤ maxLen) : Calls Tryd.prog 35 #[.pointer (some ⟨D, 0, none⟩), .string s] w fun e w' => e = .returned (.bool (posO L s).isSome) ∧ w = w' := by
  obtain ⟨oa, on, oc, B, h1, h2, h3⟩ := h
  have HM := Lib.hid (smade_any D oa on oc (some B) c0 c1 w h1)
  have hl := h3.look2 s hs
  obtain ⟨x0, x1, x2, x3⟩ := sh_cells h1
  clear h1 h2 h3 x0 x2 x3
  generalize posO L s = p at hl ⊢
  go_enter Tryd.func35, Tryd.ntmps35
  go_wp2_with fail
  refine HM.out.mono ?_
  rintro e w' ⟨rfl, rfl⟩
  go_wp2_with fail
  go_ret
  exact ⟨rfl, rfl⟩
/-- the text with a name -/
def getO (L : List Ob) (s : ByteArray) : Option ByteArray := (L.find? fun x => x.1.toList == s.toList).map (·.2)
theorem pos_none {L : List Ob} {s : ByteArray} (h : posO L s = none) : getO L s = none := by
  unfold posO at h
  unfold getO
  rw [Option.map_eq_none_iff] at h ⊢
  rw [List.findIdx?_eq_none_iff] at h
  rw [List.find?_eq_none]
  intro x hx
  have := h x hx
  simp [this]
theorem pos_some {L : List Ob} {s : ByteArray} {i : Int} (h : posO L s = some i) : ∃ (k : Nat) (hk : k < L.length), i = (k : Int) ∧ getO L s = some L[k].2 ∧ L[k].1 = s := by
  unfold posO at h
  obtain ⟨k, hk, rfl⟩ := Option.map_eq_some_iff.1 h
  rw [List.findIdx?_eq_some_iff_getElem] at hk
  obtain ⟨hlt, h1, h2⟩ := hk
  refine ⟨k, hlt, rfl, ?_, ba_eq.1 h1⟩
  unfold getO
  rw [show (L.find? fun x => x.1.toList == s.toList) = some L[k] from by
    rw [List.find?_eq_some_iff_getElem]
    exact ⟨h1, k, hlt, rfl, fun j hj => by simpa using h2 j hj⟩]
  rfl
set_option maxRecDepth 100000 in
set_option maxHeartbeats 2000000 in
theorem sget_any (D : Nat) (L : List Ob) (c0 c1 : ByteArray) (k : Nat) (s : ByteArray) (w : World) (h : SK D L c0 c1 k w) (hs : s.size ≤ maxLen) : Calls Tryd.prog 21 #[.pointer (some ⟨D, 0, none⟩), .string s] w fun e w' => e = .returned (.tuple #[.string ((getO L s).getD ⟨#[]⟩), .bool (getO L s).isSome]) ∧ Below w.heap.size w w' := by
  have HH := shas_any D L c0 c1 k s w h hs
  obtain ⟨oa, on, oc, B, h1, h2, h3⟩ := h
  have hl := h3.look1 s hs
  obtain ⟨x0, x1, x2, x3⟩ := sh_cells h1
  obtain ⟨p, hp⟩ : ∃ p, p = posO L s := ⟨_, rfl⟩
  rw [← hp] at HH hl
  have HH := Lib.hid HH
  cases p with
  | none =>
    have HG := Lib.hid (pos_none hp.symm)
    clear h1 h2 h3 x0 x1 x2 x3 hl hp
    go_enter Tryd.func21, Tryd.ntmps21
    go_wp2_with fail
    refine HH.out.mono ?_
    rintro e w' ⟨rfl, rfl⟩
    go_wp2_with fail
    go_ret2
    exact ⟨by rw [HG.out]; rfl, Below.refl _ _⟩
  | some i =>
    obtain ⟨j, hj, rfl, hg, _⟩ := pos_some hp.symm
    have HG := Lib.hid hg
    obtain ⟨A', c', e, hr, _, _⟩ := h2.rd obC_len
    injection e with e1 e2 e3
    subst e1 e2 e3
    obtain ⟨b, off, hl2, rfl, hbb, hcell⟩ := hr.at hj
    have c9 := hcell 1 (.string L[j].2) rfl
    obtain ⟨t, ht⟩ : ∃ t, t = L[j].2 := ⟨_, rfl⟩
    rw [← ht] at c9 HG
    have hd1 : decide ((j : Int) < (L.length : Int)) = true := decide_eq_true (by omega)
    have hi0 : (0 : Int) ≤ (j : Int) := by omega
    have hi1 : (j : Int) < (L.length : Int) := by omega
    have hl : (Instr.lookup 44 (.map (some B)) (.string s) false).run Tryd.prog w = .ok (.int .i64 (j : Int)) w := hl
    have HL := Lib.hid (fun W : World => fun (hb : Below w.heap.size w W) => (h3.kept (hb.block B h3.lt)).look1 s hs)
    rw [← hp] at HL
    clear h1 h2 h3 x2 x3 hp ht hcell hr hbb hg
    go_enter Tryd.func21, Tryd.ntmps21
    go_wp2_with fail
    refine HH.out.mono ?_
    rintro e w' ⟨rfl, rfl⟩
    go_upto_region 3 with (fail)
    have r0 := fun d os => cell_regrown x0 d os
    have r1 := fun d os => cell_regrown x1 d os
    have r2 := fun d os => cell_regrown c9 d os
    have r3 : ∀ d os, (Instr.lookup 44 (.map (some B)) (.string s) false).run Tryd.prog (Sort.grow (redrawn w d) os) = .ok (.int .i64 (j : Int)) (Sort.grow (redrawn w d) os) := fun d os => HL.out (Sort.grow (redrawn w d) os) (below_regrown w d os)
    refine wp_region_quiet_below (by kernel_rfl) (by kernel_rfl) ?_
    repeat (any_goals (first | go_big_quiet_step (fail) | quiet_step (fail)))
    refine wpQuiet_nil ?_
    intro w2 hw2
    have hb2 := below_anyY hw2
    clear hw2 r0 r1 r2 r3 x0 x1 c9 hl
    go_wp2_with fail
    go_ret2
    exact ⟨by rw [HG.out]; rfl, hb2⟩
end Go.Proofs.YtiflieaemgamkaaDoor

namespace Go.Proofs.YtiflieaemgamkaaDoor
open Go.RowKit Vi

/-- a block is a shelf's own: its box, its row of objects, its map -/
def InS (D : Nat) (w : World) (b : Nat) : Prop := b = D ∨ (∃ o n c, w.cell? ⟨D, 0, none⟩ = some (.slice (some ⟨b, o, none⟩) n c)) ∨ w.cell? ⟨D, 1, none⟩ = some (.map (some b))
/-- only a shelf's own blocks have turned, and no other old one has become its own -/
structure Ks (D : Nat) (w w' : World) : Prop where
  os : w'.os = w.os
  tape : w'.tape = w.tape
  output : w'.output = w.output
  size : w.heap.size ≤ w'.heap.size
  block : ∀ b, b < w.heap.size → ¬ InS D w b → w'.heap[b]? = w.heap[b]?
  ind : ∀ b, b < w.heap.size → InS D w' b → InS D w b
theorem Ks.refl (D : Nat) (w : World) : Ks D w w := ⟨rfl, rfl, rfl, Nat.le_refl _, fun _ _ _ => rfl, fun _ _ h => h⟩
theorem Ks.trans {D : Nat} {a b c : World} (h : Ks D a b) (k : Ks D b c) : Ks D a c :=
  ⟨k.os.trans h.os, k.tape.trans h.tape, k.output.trans h.output, Nat.le_trans h.size k.size, fun i hi hn => (k.block i (Nat.lt_of_lt_of_le hi h.size) (fun q => hn (h.ind i hi q))).trans (h.block i hi hn), fun i hi q => h.ind i hi (k.ind i (Nat.lt_of_lt_of_le hi h.size) q)⟩
theorem Ks.of_below {D : Nat} {w w' : World} (hb : Below w.heap.size w w') (hD : D < w.heap.size) : Ks D w w' :=
  ⟨hb.os, hb.tape, hb.output, hb.size, fun b hb' _ => hb.block b hb', fun b _ q => by
    rcases q with q | ⟨o, n, c, q⟩ | q
    · exact .inl q
    · exact .inr (.inl ⟨o, n, c, by rw [← hb.cell (p := ⟨D, 0, none⟩) hD]; exact q⟩)
    · exact .inr (.inr (by rw [← hb.cell (p := ⟨D, 1, none⟩) hD]; exact q))⟩
section
variable {D : Nat} {oa : Option Addr} {on oc : Nat} {pm : Option Nat} {c0 c1 : ByteArray} {w : World}
theorem InS.row {g o : Nat} (h : w.heap[D]? = some (shO (some ⟨g, o, none⟩) on oc pm c0 c1)) : InS D w g := .inr (.inl ⟨o, on, oc, (sh_cells h).1⟩)
theorem InS.map {B : Nat} (h : w.heap[D]? = some (shO oa on oc (some B) c0 c1)) : InS D w B := .inr (.inr (sh_cells h).2.1)
theorem InS.cases {b : Nat} (h : w.heap[D]? = some (shO oa on oc pm c0 c1)) (q : InS D w b) : b = D ∨ (∃ o, oa = some ⟨b, o, none⟩) ∨ pm = some b := by
  rcases q with q | ⟨o, n, c, q⟩ | q
  · exact .inl q
  · rw [(sh_cells h).1] at q
    cases q
    exact .inr (.inl ⟨o, rfl⟩)
  · rw [(sh_cells h).2.1] at q
    cases q
    exact .inr (.inr rfl)
end
theorem own_ltS {α : Type} {f : α → List Value} {s : Nat} {T : TypeId} {w : World} {g o n c : Nat} {l : List α} (h : OwG f s T w (.slice (some ⟨g, o, none⟩) n c) l) : g < w.heap.size := (h.own rfl).1
/-- what is new is none of a shelf's own -/
theorem SK.new {D : Nat} {L : List Ob} {c0 c1 : ByteArray} {k : Nat} {w : World} (h : SK D L c0 c1 k w) {b : Nat} (q : InS D w b) : b < w.heap.size := by
  obtain ⟨oa, on, oc, B, h1, h2, h3⟩ := h
  rcases q.cases h1 with q | ⟨o, q⟩ | q
  · subst q; exact lt_of_block h1
  · subst q; exact own_ltS h2
  · cases q; exact h3.lt
theorem pos_snoc {L : List Ob} {o : Ob} (h : posO L o.1 = none) (s : ByteArray) : updF (posO L) o.1 (L.length : Int) s = posO (L ++ [o]) s := by
  unfold updF
  by_cases e : o.1 = s
  · subst e
    rw [if_pos (by simp)]
    unfold posO at h ⊢
    rw [Option.map_eq_none_iff] at h
    rw [List.findIdx?_append, h]
    simp
  · have hf : (o.1.toList == s.toList) = false := by
      cases q : (o.1.toList == s.toList) with
      | false => rfl
      | true => exact absurd (ba_eq.1 q) e
    rw [if_neg (by rw [hf]; simp)]
    unfold posO
    rw [List.findIdx?_append]
    cases L.findIdx? (fun x => x.1.toList == s.toList) with
    | some i => simp
    | none => simp [hf]
theorem OwG.kkD {α : Type} {f : α → List Value} {s : Nat} {T : TypeId} {w W : World} {g : Nat} {v : Value} {l : List α} {cs : Array Value} {T' : TypeId} {fr : Nat × Nat} (h : OwG f s T w v l) (k : KK [g] w W) (hg : w.heap[g]? = some (.cells cs T' fr)) (hT : T ≠ T') : OwG f s T W v l :=
  h.blk fun b e hl => k.block b hl (fun q => by
    have e1 : b = g := by simpa using q
    subst e1
    obtain ⟨_, cur, h4⟩ := h.own e
    rw [hg] at h4
    cases h4
    exact hT rfl)
theorem MapI.notRow {α : Type} {f : α → List Value} {s : Nat} {T : TypeId} {w w' : World} {B k : Nat} {v : Value} {l : List α} {g : ByteArray → Option Int} (m : MapI w B k g) (h : OwG f s T w v l) (hg : w.grownBy w' v.ownBlock) : MapI w' B k g := by
  refine m.kept (hg.block B m.lt (fun e => ?_))
  obtain ⟨n, D, ⟨es, cl, q, _⟩, _⟩ := m
  obtain ⟨_, cur, h4⟩ := h.own e.symm
  rw [q] at h4
  cases h4
theorem info_ob : (Tryd.prog.info? 54).map (fun i => (i.zero, i.size, i.bytes)) = some (some (.agg #[.string ⟨#[]⟩, .string ⟨#[]⟩]), 2, 32) := by kernel_rfl
/-- w to W: below n all as it was but block B, which may have turned -/
structure KB (n B : Nat) (w W : World) : Prop where
  os : W.os = w.os
  tape : W.tape = w.tape
  output : W.output = w.output
  size : w.heap.size ≤ W.heap.size
  block : ∀ b, b < n → b ≠ B → W.heap[b]? = w.heap[b]?
theorem kk_grown {w v W : World} {B n : Nat} (h : Below n w v) (g : v.grownBy W (some B)) (hn : n ≤ v.heap.size) : KB n B w W :=
  ⟨g.os.trans h.os, g.tape.trans h.tape, g.output.trans h.output, Nat.le_trans h.size g.size, fun b hb hne => (g.block b (Nat.lt_of_lt_of_le hb hn) (fun e => hne (by injection e with e))).trans (h.block b hb)⟩
theorem KB.drew2 {w W : World} {B n : Nat} (h : KB n B w W) : KB n B w W.drew := ⟨h.os, h.tape, h.output, h.size, h.block⟩
theorem KB.allocK {w W : World} {B n : Nat} (h : KB n B w W) (o : Obj) (hn : n ≤ W.heap.size) : KB n B w (W.alloc o) :=
  ⟨h.os, h.tape, h.output, Nat.le_trans h.size (by show _ ≤ (W.heap.push o).size; simp), fun b hb hne => ((Below.heap_alloc W o b (Nat.lt_of_lt_of_le hb hn))).trans (h.block b hb hne)⟩
theorem ks_app {D B : Nat} {oa : Option Addr} {on oc : Nat} {c0 c1 : ByteArray} {A : Option Addr} {n c : Nat} {d0 d1 : ByteArray} {w v w7 w8 : World} (hD : D < w.heap.size)
    (h : w.heap[D]? = some (shO oa on oc (some B) c0 c1)) (h8 : w8.heap[D]? = some (shO A n c (some B) d0 d1)) (hb : KB w.heap.size B w v) (hg : v.grownBy w7 (Value.slice oa on oc).ownBlock) (hk : KK [D] w7 w8)
    (how : ∀ g, (Value.slice oa on oc).ownBlock = some g → g < w.heap.size ∧ InS D w g) (ha : (Value.slice A n c).ownBlock = (Value.slice oa on oc).ownBlock ∨ (Value.slice A n c).ownBlock = some v.heap.size) (hs : ∀ b o, A = some ⟨b, o, none⟩ → (Value.slice A n c).ownBlock = some b) : Ks D w w8 := by
  have hv := hb.size
  refine ⟨hk.os.trans (hg.os.trans hb.os), hk.tape.trans (hg.tape.trans hb.tape), hk.output.trans (hg.output.trans hb.output), Nat.le_trans hv (Nat.le_trans hg.size hk.size), fun b hbl hn => ?_, fun b hbl q => ?_⟩
  · rw [hk.block b (Nat.lt_of_lt_of_le hbl (Nat.le_trans hv hg.size)) (fun e => hn (by obtain rfl : b = D := (by simpa using e); exact .inl rfl))]
    rw [hg.block b (Nat.lt_of_lt_of_le hbl hv) (fun e => hn (how b (by first | exact e | exact e.symm)).2)]
    exact hb.block b hbl (fun e => hn (by subst e; exact InS.map h))
  · rcases q.cases h8 with q | ⟨o, q⟩ | q
    · subst q; exact .inl rfl
    · have e := hs b o q
      rcases ha with ha | ha
      · rw [e] at ha
        exact (how b ha.symm).2
      · rw [e] at ha
        injection ha with ha
        omega
    · cases q
      exact InS.map h
theorem OwG.notMap {α : Type} {f : α → List Value} {s : Nat} {T : TypeId} {w w' : World} {B k : Nat} {v : Value} {l : List α} {g : ByteArray → Option Int} (h : OwG f s T w v l) (m : MapI w B k g) (hg : w.grownBy w' (some B)) : OwG f s T w' v l :=
  h.blk fun b e hl => hg.block b hl (fun q => by
    have e1 : b = B := Option.some.inj q
    subst e1
    obtain ⟨_, cur, h4⟩ := h.own e
    obtain ⟨n, D, ⟨es, cl, q2, _⟩, _⟩ := m
    rw [q2] at h4
    cases h4)
structure SD (D X : Nat) (cs os : Array Value) (k : Nat) (L : Array Bool) (W : World) : Prop where
  x : W.heap[X]? = some (.cells os 54 (0, 0))
  d : L.getD k false = false → W.heap[D]? = some (.cells cs 48 (0, 0))
theorem SD.set {D X : Nat} {cs os : Array Value} {k j : Nat} (h1 : j ≠ k) (L : Array Bool) (w : World) : SD D X cs os k (L.setIfInBounds j true) w ↔ SD D X cs os k L w :=
  ⟨fun h => ⟨h.x, fun q => h.d (by rw [getF_set L j k h1]; exact q)⟩, fun h => ⟨h.x, fun q => h.d (by rw [getF_set L j k h1] at q; exact q)⟩⟩
theorem SD.dOf {md : Region.Mode} {ops : Array Oper} {D X : Nat} {cs os : Array Value} {k j : Nat} {w : World} (h : SI md ops (SD D X cs os k) j w) (f : Nat) (hw : waits md ops f k j = true) : w.heap[D]? = some (.cells cs 48 (0, 0)) := by
  obtain ⟨L, hs, hi, hS⟩ := h
  exact hS.d (shut_of hs hi f k hw)
theorem SD.xOf {md : Region.Mode} {ops : Array Oper} {D X : Nat} {cs os : Array Value} {k j : Nat} {w : World} (h : SI md ops (SD D X cs os k) j w) : w.heap[X]? = some (.cells os 54 (0, 0)) := by
  obtain ⟨L, _, _, hS⟩ := h
  exact hS.x
set_option linter.unusedSimpArgs false in
set_option maxRecDepth 100000 in
set_option maxHeartbeats 4000000 in
theorem sadd_any (D : Nat) (L : List Ob) (c0 c1 : ByteArray) (k : Nat) (s t : ByteArray) (w : World) (h : SK D L c0 c1 k w) (hp : posO L s = none) (hs : s.size ≤ maxLen) (hk : k < 1000000) (hl : L.length < 1000000) :
    Calls Tryd.prog 24 #[.pointer (some ⟨D, 0, none⟩), .agg #[.string s, .string t]] w fun e w' => e = .returned (.tuple #[]) ∧ SK D (L ++ [(s, t)]) c0 c1 (k + 1) w' ∧ Ks D w w' := by
  have HBn := Lib.hid ((Below.refl w.heap.size w).alloc (Nat.le_refl _) (.cells #[.string s, .string t] 54 (0, 0)))
  have HLT := Lib.hid h.lt
  have HNEW := Lib.hid (fun (b : Nat) (q : InS D w b) => h.new q)
  obtain ⟨oa, on, oc, B, h1, h2, h3⟩ := h
  have HW1 := Lib.hid h1
  have HX0 := Lib.hid (blk_new w (.cells #[.string s, .string t] 54 (0, 0)))
  have HD0 := Lib.hid (blk_alloc h1 (.cells #[.string s, .string t] 54 (0, 0)))
  have HO0 := Lib.hid (h2.alloc (.cells #[.string s, .string t] 54 (0, 0)))
  have HM0 := Lib.hid (h3.kept (w' := w.alloc (.cells #[.string s, .string t] 54 (0, 0))) (HBn.out.block B h3.lt))
  have hon : L.length = on := by
    obtain ⟨_, _, e, hr, _, _⟩ := h2.rd obC_len
    injection e with _ e _
    exact e.symm
  have HP := Lib.hid hp
  have HOB := Lib.hid (fun (g : Nat) (e : (Value.slice oa on oc).ownBlock = some g) => show g < w.heap.size ∧ InS D w g from by
    obtain ⟨q1, _⟩ := h2.own e
    refine ⟨q1, ?_⟩
    cases oa with
    | none => simp [Value.ownBlock] at e
    | some a =>
      rcases h2.form with ⟨q, _⟩ | ⟨g2, c2, q⟩
      · cases q
      · injection q with q _ _
        injection q with q
        subst q
        simp [Value.ownBlock] at e
        subst e
        exact InS.row h1)
  have hBl := h3.lt
  have hDB : D ≠ B := fun e => by
    obtain ⟨n, Dm, ⟨es, cl, q, _⟩, _⟩ := h3
    rw [← e, h1] at q
    cases q
  clear h1 h2 h3 hp
  obtain ⟨v, hv⟩ : ∃ v, v = w.alloc (.cells #[.string s, .string t] 54 (0, 0)) := ⟨_, rfl⟩
  have HV := Lib.hid hv
  rw [← hv] at HBn HX0 HD0 HO0 HM0
  clear hv
  go_enter Tryd.func24, Tryd.ntmps24
  go_upto_region 1 with (fail)
  rw [← HV.out]
  clear HV
  have HBn := Lib.hid HBn.out.drew
  have HX0 := Lib.hid (show v.drew.heap[w.heap.size]? = some (.cells #[.string s, .string t] 54 (0, 0)) from HX0.out)
  have HD0 := Lib.hid (show v.drew.heap[D]? = some (shO oa on oc (some B) c0 c1) from HD0.out)
  have HO0 := Lib.hid HO0.out.drew
  have HM0 := Lib.hid (HM0.out.kept (w' := v.drew) rfl)
  refine wp_region_L_drew (S := fun _ W => W.heap[w.heap.size]? = some (.cells #[.string s, .string t] 54 (0, 0)) ∧ W.heap[D]? = some (shO oa on oc (some B) c0 c1)) (by kernel_rfl) ⟨HX0.out, HD0.out⟩ (fun hS hC => ?_)
  generalize v.drew = v0 at *
  have hwf : (Lit.int .i64 (on : Int)).wf = true := by simp [Lit.wf, IntKind.min, IntKind.max, IntKind.bits, IntKind.signed]; omega
  obtain ⟨v1, hrun, hm1, hg1⟩ := HM0.out.put s (on : Int) hs hwf (Nat.lt_of_lt_of_le hk (by decide))
  refine wpAnyL_take (i := 0) (oi := { dst := some 4, op := .move (.tmp 0), type := _, pos := _, after := _, guard := none }) (v := ?_) rfl (by kernel_rfl) (by kernel_rfl) (by kernel_rfl) (fun _ _ _ h => h) (fun _ _ => Iff.rfl) hC (Or.inl ⟨by rfl, ?_⟩) hS (fun hC hS => ?_)
  rotate_left
  · intro W9 hSw; skip; go_simp; try (with_reducible rfl)
  try simp only [Act.put, List.setIfInBounds_toArray, List.set_cons_zero, List.set_cons_succ]
  refine wpAnyL_take (i := 1) (oi := { dst := some 5, op := .nilCheck (.tmp 4), type := _, pos := _, after := _, guard := none }) (v := ?_) rfl (by kernel_rfl) (by kernel_rfl) (by kernel_rfl) (fun _ _ _ h => h) (fun _ _ => Iff.rfl) hC (Or.inl ⟨by rfl, ?_⟩) hS (fun hC hS => ?_)
  rotate_left
  · intro W9 hSw; skip; go_simp; try (with_reducible rfl)
  try simp only [Act.put, List.setIfInBounds_toArray, List.set_cons_zero, List.set_cons_succ]
  refine wpAnyL_take (i := 2) (oi := { dst := some 6, op := .fieldAddr 48 (.tmp 5) 1, type := _, pos := _, after := _, guard := none }) (v := ?_) rfl (by kernel_rfl) (by kernel_rfl) (by kernel_rfl) (fun _ _ _ h => h) (fun _ _ => Iff.rfl) hC (Or.inl ⟨by rfl, ?_⟩) hS (fun hC hS => ?_)
  rotate_left
  · intro W9 hSw; skip; go_simp; try (with_reducible rfl)
  try simp only [Act.put, List.setIfInBounds_toArray, List.set_cons_zero, List.set_cons_succ]
  refine wpAnyL_take (i := 3) (oi := { dst := some 7, op := .load 44 (.tmp 6), type := _, pos := _, after := _, guard := none }) (v := ?_) rfl (by kernel_rfl) (by kernel_rfl) (by kernel_rfl) (fun _ _ _ h => h) (fun _ _ => Iff.rfl) hC (Or.inl ⟨by rfl, ?_⟩) hS (fun hC hS => ?_)
  rotate_left
  · intro W9 hSw; have q1 := (cell_of_row _ _ 1 _ _ _ (hSw.choose_spec.2.2.2)).trans rfl; go_simp; try (with_reducible rfl)
  try simp only [Act.put, List.setIfInBounds_toArray, List.set_cons_zero, List.set_cons_succ]
  refine wpAnyL_take (i := 4) (oi := { dst := some 8, op := .fieldAddr 54 (.tmp 3) 0, type := _, pos := _, after := _, guard := none }) (v := ?_) rfl (by kernel_rfl) (by kernel_rfl) (by kernel_rfl) (fun _ _ _ h => h) (fun _ _ => Iff.rfl) hC (Or.inl ⟨by rfl, ?_⟩) hS (fun hC hS => ?_)
  rotate_left
  · intro W9 hSw; skip; go_simp; try (with_reducible rfl)
  try simp only [Act.put, List.setIfInBounds_toArray, List.set_cons_zero, List.set_cons_succ]
  refine wpAnyL_take (i := 5) (oi := { dst := some 9, op := .load 9 (.tmp 8), type := _, pos := _, after := _, guard := none }) (v := ?_) rfl (by kernel_rfl) (by kernel_rfl) (by kernel_rfl) (fun _ _ _ h => h) (fun _ _ => Iff.rfl) hC (Or.inl ⟨by rfl, ?_⟩) hS (fun hC hS => ?_)
  rotate_left
  · intro W9 hSw; have q0 := (cell_of_row _ _ 0 _ _ _ (hSw.choose_spec.2.2.1)).trans rfl; go_simp; try (with_reducible rfl)
  try simp only [Act.put, List.setIfInBounds_toArray, List.set_cons_zero, List.set_cons_succ]
  refine wpAnyL_take (i := 6) (oi := { dst := some 10, op := .move (.tmp 0), type := _, pos := _, after := _, guard := none }) (v := ?_) rfl (by kernel_rfl) (by kernel_rfl) (by kernel_rfl) (fun _ _ _ h => h) (fun _ _ => Iff.rfl) hC (Or.inl ⟨by rfl, ?_⟩) hS (fun hC hS => ?_)
  rotate_left
  · intro W9 hSw; skip; go_simp; try (with_reducible rfl)
  try simp only [Act.put, List.setIfInBounds_toArray, List.set_cons_zero, List.set_cons_succ]
  refine wpAnyL_take (i := 7) (oi := { dst := some 11, op := .nilCheck (.tmp 10), type := _, pos := _, after := _, guard := none }) (v := ?_) rfl (by kernel_rfl) (by kernel_rfl) (by kernel_rfl) (fun _ _ _ h => h) (fun _ _ => Iff.rfl) hC (Or.inl ⟨by rfl, ?_⟩) hS (fun hC hS => ?_)
  rotate_left
  · intro W9 hSw; skip; go_simp; try (with_reducible rfl)
  try simp only [Act.put, List.setIfInBounds_toArray, List.set_cons_zero, List.set_cons_succ]
  refine wpAnyL_take (i := 8) (oi := { dst := some 12, op := .fieldAddr 48 (.tmp 11) 0, type := _, pos := _, after := _, guard := none }) (v := ?_) rfl (by kernel_rfl) (by kernel_rfl) (by kernel_rfl) (fun _ _ _ h => h) (fun _ _ => Iff.rfl) hC (Or.inl ⟨by rfl, ?_⟩) hS (fun hC hS => ?_)
  rotate_left
  · intro W9 hSw; skip; go_simp; try (with_reducible rfl)
  try simp only [Act.put, List.setIfInBounds_toArray, List.set_cons_zero, List.set_cons_succ]
  refine wpAnyL_take (i := 9) (oi := { dst := some 13, op := .load 45 (.tmp 12), type := _, pos := _, after := _, guard := none }) (v := ?_) rfl (by kernel_rfl) (by kernel_rfl) (by kernel_rfl) (fun _ _ _ h => h) (fun _ _ => Iff.rfl) hC (Or.inl ⟨by rfl, ?_⟩) hS (fun hC hS => ?_)
  rotate_left
  · intro W9 hSw; have q0 := (cell_of_row _ _ 0 _ _ _ (hSw.choose_spec.2.2.2)).trans rfl; go_simp; try (with_reducible rfl)
  try simp only [Act.put, List.setIfInBounds_toArray, List.set_cons_zero, List.set_cons_succ]
  refine wpAnyL_take (i := 10) (oi := { dst := some 14, op := .call { callee := .builtin .len, args := #[.tmp 13], argTypes := #[45] }, type := _, pos := _, after := _, guard := none }) (v := ?_) rfl (by kernel_rfl) (by kernel_rfl) (by kernel_rfl) (fun _ _ _ h => h) (fun _ _ => Iff.rfl) hC (Or.inl ⟨by rfl, ?_⟩) hS (fun hC hS => ?_)
  rotate_left
  · intro W9 hSw; skip; go_simp; try (with_reducible rfl)
  try simp only [Act.put, List.setIfInBounds_toArray, List.set_cons_zero, List.set_cons_succ]
  refine wpAnyL_ready (rs := [11]) (by kernel_rfl) (by simp) hC ?_
  refine AllReadyL.cons (o := { dst := none, op := .mapUpdate 44 (.tmp 7) (.tmp 9) (.tmp 14), type := _, pos := _, after := _, guard := none }) rfl (fun K9 hK => ?_) ?_
  · skip
    go_simp
    have HBv := Lib.hid (kk_grown HBn.out hg1 HBn.out.size)
    have HX1 := Lib.hid ((hg1.block _ (lt_of_block HX0.out) (fun e => by have e := Option.some.inj e; omega)).trans HX0.out)
    have HD1 := Lib.hid ((hg1.block _ (lt_of_block HD0.out) (fun e => hDB (Option.some.inj e))).trans HD0.out)
    have HO1 := Lib.hid (HO0.out.notMap HM0.out hg1)
    have HM1 := Lib.hid (hm1.of (g := posO (L ++ [(s, t)])) (fun z => by rw [← hon]; exact pos_snoc (o := (s, t)) HP.out z))
    clear hm1 hrun HX0 HD0 HO0
    refine hK _ _ ⟨HX1.out, HD1.out⟩ (fun hC => ?_)
    clear hK K9
    try simp only [Act.put, List.setIfInBounds_toArray, List.set_cons_zero, List.set_cons_succ]
    refine wpAnyL_done (by kernel_rfl) ?_ _
    clear hS hC
    go_upto_region 2 with (fail)
    have HX1 := Lib.hid (show v1.drew.heap[w.heap.size]? = some (.cells #[.string s, .string t] 54 (0, 0)) from HX1.out)
    have HD1 := Lib.hid (show v1.drew.heap[D]? = some (shO oa on oc (some B) c0 c1) from HD1.out)
    have HO1 := Lib.hid HO1.out.drew
    have HM1 := Lib.hid (HM1.out.kept (w' := v1.drew) rfl)
    have HBv := Lib.hid HBv.out.drew2
    refine wp_region_L_drew (S := SD D w.heap.size #[.slice oa on oc, .map (some B), .string c0, .string c1] #[.string s, .string t] 10) (by kernel_rfl) ⟨HX1.out, fun _ => HD1.out⟩ (fun hS hC => ?_)
    generalize v1.drew = u0 at *
    have HX2 := Lib.hid (blk_alloc HX1.out (.cells #[.string s, .string t] 54 (0, 0)))
    have HD2 := Lib.hid (blk_alloc HD1.out (.cells #[.string s, .string t] 54 (0, 0)))
    have HO2 := Lib.hid (HO1.out.alloc (.cells #[.string s, .string t] 54 (0, 0)))
    have HM2 := Lib.hid (HM1.out.kept (w' := u0.alloc (.cells #[.string s, .string t] 54 (0, 0))) (Below.heap_alloc u0 (.cells #[.string s, .string t] 54 (0, 0)) B HM1.out.lt))
    have HB2 := Lib.hid (HBv.out.allocK (.cells #[.string s, .string t] 54 (0, 0)) HBv.out.size)
    have HN2 := Lib.hid (blk_new u0 (.cells #[.string s, .string t] 54 (0, 0)))
    refine wpAnyL_take (i := 0) (oi := { dst := some 15, op := .move (.tmp 0), type := _, pos := _, after := _, guard := none }) (v := ?_) rfl (by kernel_rfl) (by kernel_rfl) (by kernel_rfl) (fun _ _ _ h => h) (SD.set (by decide)) hC (Or.inl ⟨by rfl, ?_⟩) hS (fun hC hS => ?_)
    rotate_left
    · intro W9 hSw; skip; go_simp; try (with_reducible rfl)
    try simp only [Act.put, List.setIfInBounds_toArray, List.set_cons_zero, List.set_cons_succ]
    refine wpAnyL_take (i := 1) (oi := { dst := some 16, op := .move (.tmp 0), type := _, pos := _, after := _, guard := none }) (v := ?_) rfl (by kernel_rfl) (by kernel_rfl) (by kernel_rfl) (fun _ _ _ h => h) (SD.set (by decide)) hC (Or.inl ⟨by rfl, ?_⟩) hS (fun hC hS => ?_)
    rotate_left
    · intro W9 hSw; skip; go_simp; try (with_reducible rfl)
    try simp only [Act.put, List.setIfInBounds_toArray, List.set_cons_zero, List.set_cons_succ]
    refine wpAnyL_take (i := 2) (oi := { dst := some 17, op := .nilCheck (.tmp 16), type := _, pos := _, after := _, guard := none }) (v := ?_) rfl (by kernel_rfl) (by kernel_rfl) (by kernel_rfl) (fun _ _ _ h => h) (SD.set (by decide)) hC (Or.inl ⟨by rfl, ?_⟩) hS (fun hC hS => ?_)
    rotate_left
    · intro W9 hSw; skip; go_simp; try (with_reducible rfl)
    try simp only [Act.put, List.setIfInBounds_toArray, List.set_cons_zero, List.set_cons_succ]
    refine wpAnyL_take (i := 3) (oi := { dst := some 18, op := .fieldAddr 48 (.tmp 17) 0, type := _, pos := _, after := _, guard := none }) (v := ?_) rfl (by kernel_rfl) (by kernel_rfl) (by kernel_rfl) (fun _ _ _ h => h) (SD.set (by decide)) hC (Or.inl ⟨by rfl, ?_⟩) hS (fun hC hS => ?_)
    rotate_left
    · intro W9 hSw; skip; go_simp; try (with_reducible rfl)
    try simp only [Act.put, List.setIfInBounds_toArray, List.set_cons_zero, List.set_cons_succ]
    refine wpAnyL_take (i := 4) (oi := { dst := some 19, op := .load 45 (.tmp 18), type := _, pos := _, after := _, guard := none }) (v := ?_) rfl (by kernel_rfl) (by kernel_rfl) (by kernel_rfl) (fun _ _ _ h => h) (SD.set (by decide)) hC (Or.inl ⟨by rfl, ?_⟩) hS (fun hC hS => ?_)
    rotate_left
    · intro W9 hSw; have q0 := (cell_of_row _ _ 0 _ _ _ (SD.dOf hSw 12 (by kernel_rfl))).trans rfl; go_simp; try (with_reducible rfl)
    try simp only [Act.put, List.setIfInBounds_toArray, List.set_cons_zero, List.set_cons_succ]
    refine wpAnyL_take (i := 5) (oi := { dst := some 20, op := .load 54 (.tmp 3), type := _, pos := _, after := _, guard := none }) (v := ?_) rfl (by kernel_rfl) (by kernel_rfl) (by kernel_rfl) (fun _ _ _ h => h) (SD.set (by decide)) hC (Or.inl ⟨by rfl, ?_⟩) hS (fun hC hS => ?_)
    rotate_left
    · intro W9 hSw; have q0 := (cell_of_row _ _ 0 _ _ _ (SD.xOf hSw)).trans rfl; have q1 := (cell_of_row _ _ 1 _ _ _ (SD.xOf hSw)).trans rfl; go_simp; try (with_reducible rfl)
    try simp only [Act.put, List.setIfInBounds_toArray, List.set_cons_zero, List.set_cons_succ]
    refine wpAnyL_ready (rs := [6]) (by kernel_rfl) (by simp) hC ?_
    refine AllReadyL.cons (o := { dst := some 21, op := .buildSlice 45 1 #[(0, .tmp 20)], type := _, pos := _, after := _, guard := none }) rfl (fun K9 hK => ?_) ?_
    · skip
      go_simp
      refine hK _ _ ⟨HX2.out, fun _ => HD2.out⟩ (fun hC => ?_)
      clear hK K9
      try simp only [Act.put, List.setIfInBounds_toArray, List.set_cons_zero, List.set_cons_succ]
      refine wpAnyL_ready (rs := [7]) (by kernel_rfl) (by simp) hC ?_
      refine AllReadyL.cons (o := { dst := some 22, op := .call { callee := .builtin .append, args := #[.tmp 19, .tmp 21], argTypes := #[45, 45] }, type := _, pos := _, after := _, guard := none }) rfl (fun K9 hK => ?_) ?_
      · skip
        refine step_appPoG rfl (.tmp 19) (.tmp 21) 45 54 _ 32 rfl Tryd.underlying45 info_ob rfl (by omega) (by omega) obC_len obC_one (u0.alloc (.cells #[.string s, .string t] 54 (0, 0))) (Below.refl _ _) (.slice oa on oc) L rfl HO2.out u0.heap.size 1 (s, t) #[.string s, .string t] 54 (0, 0) rfl HN2.out rfl (by omega) ?_
        intro v7 w7 HO7 HB7 HG7 HA7
        have HX7 := Lib.hid ((HG7.out.block _ (lt_of_block HX2.out) (fun e => by have := (HOB.out _ e.symm).1; omega)).trans HX2.out)
        have HD7 := Lib.hid (HO2.out.box HG7.out HD2.out (by decide))
        have HM7 := Lib.hid (HM2.out.notRow HO2.out HG7.out)
        have z7 : w7.frozen? ⟨D, 0, none⟩ = false := frozen_of_row _ _ _ _ _ HD7.out
        have q7 : w7.cell? ⟨D, 0, none⟩ = some (.slice oa on oc) := (cell_of_row _ _ 0 _ _ _ HD7.out).trans rfl
        obtain ⟨A7, n7, c7, rfl⟩ := HO7.out.sl3
        refine hK _ _ ⟨HX7.out, fun _ => HD7.out⟩ (fun hC => ?_)
        clear hK K9
        try simp only [Act.put, List.setIfInBounds_toArray, List.set_cons_zero, List.set_cons_succ]
        refine wpAnyL_take (i := 8) (oi := { dst := some 23, op := .nilCheck (.tmp 15), type := _, pos := _, after := _, guard := none }) (v := ?_) rfl (by kernel_rfl) (by kernel_rfl) (by kernel_rfl) (fun _ _ _ h => h) (SD.set (by decide)) hC (Or.inl ⟨by rfl, ?_⟩) ⟨HX7.out, fun _ => HD7.out⟩ (fun hC hS => ?_)
        rotate_left
        · intro W9 hSw; skip; go_simp; try (with_reducible rfl)
        try simp only [Act.put, List.setIfInBounds_toArray, List.set_cons_zero, List.set_cons_succ]
        refine wpAnyL_take (i := 9) (oi := { dst := some 24, op := .fieldAddr 48 (.tmp 23) 0, type := _, pos := _, after := _, guard := none }) (v := ?_) rfl (by kernel_rfl) (by kernel_rfl) (by kernel_rfl) (fun _ _ _ h => h) (SD.set (by decide)) hC (Or.inl ⟨by rfl, ?_⟩) ⟨HX7.out, fun _ => HD7.out⟩ (fun hC hS => ?_)
        rotate_left
        · intro W9 hSw; skip; go_simp; try (with_reducible rfl)
        try simp only [Act.put, List.setIfInBounds_toArray, List.set_cons_zero, List.set_cons_succ]
        refine wpAnyL_ready (rs := [10]) (by kernel_rfl) (by simp) hC ?_
        refine AllReadyL.cons (o := { dst := none, op := .store 45 (.tmp 24) (.tmp 22), type := _, pos := _, after := _, guard := none }) rfl (fun K9 hK => ?_) ?_
        · skip
          go_simp
          have HK := Lib.hid ((KK.refl [D] w7).set (b := D) (by simp) 0 (.slice A7 n7 c7))
          have HD8 := Lib.hid (show (w7.setCell ⟨D, 0, none⟩ (.slice A7 n7 c7)).heap[D]? = some (shO A7 n7 c7 (some B) c0 c1) from heap_setCell_at (i := 0) (u := .slice A7 n7 c7) HD7.out)
          have HX8 := Lib.hid (HK.out.blk HX7.out (by have := HLT.out; simp; omega))
          have HO8 := Lib.hid (HO7.out.kkD HK.out HD7.out (by decide))
          have HM8 := Lib.hid (HM7.out.kept (HK.out.block B HM7.out.lt (by simpa using fun e => hDB e.symm)))
          refine hK _ _ ⟨HX8.out, fun q => absurd q (by decide)⟩ (fun hC => ?_)
          clear hK K9
          try simp only [Act.put, List.setIfInBounds_toArray, List.set_cons_zero, List.set_cons_succ]
          refine wpAnyL_done (by kernel_rfl) ?_ _
          clear hS hC
          refine bodyPost_end (results_none rfl _ _ _) rfl ?_
          exact ⟨rfl, ⟨A7, n7, c7, B, HD8.out, HO8.out, HM8.out⟩, ks_app HLT.out HW1.out HD8.out HB2.out HG7.out HK.out HOB.out HA7.out HO7.out.sl0⟩
        exact AllReadyL.nil
      exact AllReadyL.nil
    exact AllReadyL.nil
  exact AllReadyL.nil
end Go.Proofs.YtiflieaemgamkaaDoor

namespace Go.Proofs.YtiflieaemgamkaaDoor
open Go.RowKit Vi

/-- a shelf that is new -/
def NewS (w : World) (e : Ending) (w' : World) : Prop := ∃ D, e = .returned (.pointer (some ⟨D, 0, none⟩)) ∧ SK D [] ⟨#[]⟩ ⟨#[]⟩ 0 w' ∧ (∀ b, InS D w' b → w.heap.size ≤ b) ∧ Below w.heap.size w w'
set_option maxRecDepth 100000 in
theorem snew_any (w : World) : Calls Tryd.prog 6 #[] w (NewS w) := by
  have HB1 := Lib.hid ((Below.refl w.heap.size w).alloc (Nat.le_refl _) (.map #[] 0))
  have HB2 := Lib.hid (HB1.out.alloc (by simp) (.cells #[.slice none 0 0, .map (some w.heap.size), .string ⟨#[]⟩, .string ⟨#[]⟩] 48 (0, 0)))
  have HD := Lib.hid (show ((w.alloc (.map #[] 0)).alloc (.cells #[.slice none 0 0, .map (some w.heap.size), .string ⟨#[]⟩, .string ⟨#[]⟩] 48 (0, 0))).heap[w.heap.size + 1]? = some (shO none 0 0 (some w.heap.size) ⟨#[]⟩ ⟨#[]⟩) by
    have q := blk_new (w.alloc (.map #[] 0)) (.cells #[.slice none 0 0, .map (some w.heap.size), .string ⟨#[]⟩, .string ⟨#[]⟩] 48 (0, 0)); simpa [shO] using q)
  have HM := Lib.hid (((MapI.made w).of (g := posO []) (fun _ => rfl)).kept (w' := (w.alloc (.map #[] 0)).alloc (.cells #[.slice none 0 0, .map (some w.heap.size), .string ⟨#[]⟩, .string ⟨#[]⟩] 48 (0, 0))) (Below.heap_alloc _ _ _ (by simp)))
  have hmm := fun W : World => run_makeMap (P := Tryd.prog) 44 W
  go_enter Tryd.func6, Tryd.ntmps6
  go_wp2_with fail
  go_ret
  refine ⟨_, rfl, ⟨none, 0, 0, w.heap.size, HD.out, OwG.nil _, HM.out⟩, fun b q => ?_, HB2.out⟩
  rcases q.cases HD.out with q | ⟨o, q⟩ | q
  · subst q; simp
  · cases q
  · cases q; exact Nat.le_refl _
theorem ba_beq {a b : ByteArray} (h : (a == b) = true) : a = b := by
  have q : (a.data == b.data) = true := h
  exact ByteArray.ext (by simpa using q)
theorem results_t3 {fn : Func} {p t u : Tmp} (h : fn.results = #[.tmp p, .tmp t, .tmp u]) (tmps : Array Value) (w : World) :
    (results fn tmps).run Tryd.prog w = .ok (.tuple #[tmps.getD p undef, tmps.getD t undef, tmps.getD u undef]) w := by
  simp [results, h]
theorem run_eqS (d : Nat) (a b : ByteArray) (w : World) : (Op.equalIn (d + 1) 9 (.string a) (.string b)).run Tryd.prog w = .ok (a == b) w := by
  simp [Op.equalIn, run_underlying Tryd.underlying9]
theorem run_eqA (d : Nat) (c0 c1 : ByteArray) (w : World) : (Op.equalIn (d + 2) 46 (.agg #[.string c0, .string c1]) (.agg #[.string ⟨#[]⟩, .string ⟨#[]⟩])).run Tryd.prog w = .ok (c0 == ⟨#[]⟩ && c1 == ⟨#[]⟩) w := by
  obtain ⟨i0, hi, _, hz, _⟩ := info_parts info_stA
  have hc : Tryd.prog.cellsOf 9 = 1 := by kernel_rfl
  rw [run_equalIn_array w (d + 1) _ _ Tryd.underlying46 hi, hc]
  rw [show List.range 2 = [0, 1] from rfl]
  have hp : ∀ (xs : Array Value) (k : Nat) (v : Value), xs[k]? = some v → (part 9 xs k).run Tryd.prog w = .ok v w := fun xs k v h => by
    simp [part, h]
  have a0 := hp #[.string c0, .string c1] 0 _ rfl
  have a1 := hp #[.string c0, .string c1] 1 _ rfl
  have b0 := hp #[.string ⟨#[]⟩, .string ⟨#[]⟩] 0 _ rfl
  have b1 := hp #[.string ⟨#[]⟩, .string ⟨#[]⟩] 1 _ rfl
  simp only [Op.eqItems, Sem.run_bind, Nat.zero_mul, Nat.one_mul, a0, b0, Result.andThen_ok]
  cases hx : (c0 == (⟨#[]⟩ : ByteArray)) with
  | false => simp [run_eqS, hx]
  | true =>
    cases hy : (c1 == (⟨#[]⟩ : ByteArray)) <;> simp [a1, b1, run_eqS, hx, hy]
/-- has it two unlike texts? -/
def metO (c0 c1 : ByteArray) : Bool := !(c0 == (⟨#[]⟩ : ByteArray) && c1 == (⟨#[]⟩ : ByteArray))
set_option maxRecDepth 100000 in
theorem sclash_any (D : Nat) (L : List Ob) (c0 c1 : ByteArray) (k : Nat) (w : World) (h : SK D L c0 c1 k w) : Calls Tryd.prog 42 #[.pointer (some ⟨D, 0, none⟩)] w fun e w' => e = .returned (.tuple #[.string c0, .string c1, .bool (metO c0 c1)]) ∧ Below w.heap.size w w' := by
  obtain ⟨oa, on, oc, B, h1, h2, h3⟩ := h
  have HM := Lib.hid (smade_any D oa on oc (some B) c0 c1 w h1)
  obtain ⟨x0, x1, x2, x3⟩ := sh_cells h1
  clear h1 h2 h3 x0 x1
  have heq : (Op.equalIn 10000 46 (.agg #[.string c0, .string c1]) (.agg #[.string ⟨#[]⟩, .string ⟨#[]⟩])).run Tryd.prog w = .ok (c0 == ⟨#[]⟩ && c1 == ⟨#[]⟩) w := run_eqA 9998 c0 c1 w
  have HME := Lib.hid (show metO c0 c1 = !(c0 == (⟨#[]⟩ : ByteArray) && c1 == (⟨#[]⟩ : ByteArray)) from rfl)
  cases hb : (c0 == (⟨#[]⟩ : ByteArray) && c1 == (⟨#[]⟩ : ByteArray)) with
  | true =>
    rw [hb] at heq HME
    have he : c0 = ⟨#[]⟩ ∧ c1 = ⟨#[]⟩ := by
      rw [Bool.and_eq_true] at hb
      exact ⟨ba_beq hb.1, ba_beq hb.2⟩
    have HE := Lib.hid he
    clear hb he
    go_enter Tryd.func42, Tryd.ntmps42
    go_wp2_with fail
    refine HM.out.mono ?_
    rintro e w' ⟨rfl, rfl⟩
    go_wp2_with fail
    refine bodyPost_ret (results_t3 rfl _ _) rfl ?_
    exact ⟨by rw [HME.out, HE.out.1, HE.out.2]; rfl, Below.refl _ _⟩
  | false =>
    rw [hb] at heq HME
    clear hb
    go_enter Tryd.func42, Tryd.ntmps42
    go_wp2_with fail
    refine HM.out.mono ?_
    rintro e w' ⟨rfl, rfl⟩
    go_upto_region 3 with (fail)
    have r2 := fun d os => cell_regrown x2 d os
    have r3 := fun d os => cell_regrown x3 d os
    refine wp_region_quiet_below (by kernel_rfl) (by kernel_rfl) ?_
    repeat (any_goals (first | go_big_quiet_step (fail) | quiet_step (fail)))
    refine wpQuiet_nil ?_
    intro w2 hw2
    have hb2 := below_anyY hw2
    clear hw2 r2 r3 x2 x3 heq
    go_wp2_with fail
    refine bodyPost_ret (results_t3 rfl _ _) rfl ?_
    exact ⟨by rw [HME.out]; rfl, hb2⟩
end Go.Proofs.YtiflieaemgamkaaDoor

namespace Go.Proofs.YtiflieaemgamkaaDoor
open Go.RowKit Vi

theorem Ks.of_box {D : Nat} {oa : Option Addr} {on oc : Nat} {pm : Option Nat} {c0 c1 d0 d1 : ByteArray} {w v w' : World} (hb : Below w.heap.size w v) (k : KK [D] v w') (h : w.heap[D]? = some (shO oa on oc pm c0 c1)) (h' : w'.heap[D]? = some (shO oa on oc pm d0 d1)) : Ks D w w' := by
  refine ⟨k.os.trans hb.os, k.tape.trans hb.tape, k.output.trans hb.output, Nat.le_trans hb.size k.size, fun b hbl hn => (k.block b (Nat.lt_of_lt_of_le hbl hb.size) (fun e => hn (by obtain rfl : b = D := (by simpa using e); exact .inl rfl))).trans (hb.block b hbl), fun b hbl q => ?_⟩
  rcases q.cases h' with q | ⟨o, q⟩ | q
  · exact .inl q
  · subst q; exact InS.row h
  · subst q; exact InS.map h
/-- the two unlike texts then -/
def mtA (c0 c1 t0 : ByteArray) : ByteArray := if metO c0 c1 = true then c0 else t0
def mtB (c0 c1 t1 : ByteArray) : ByteArray := if metO c0 c1 = true then c1 else t1
set_option maxRecDepth 100000 in
set_option maxHeartbeats 2000000 in
theorem smeet_any (D : Nat) (L : List Ob) (c0 c1 : ByteArray) (k : Nat) (t0 t1 : ByteArray) (w : World) (h : SK D L c0 c1 k w) :
    Calls Tryd.prog 25 #[.pointer (some ⟨D, 0, none⟩), .agg #[.string t0, .string t1]] w fun e w' => e = .returned (.tuple #[]) ∧ SK D L (mtA c0 c1 t0) (mtB c0 c1 t1) k w' ∧ Ks D w w' := by
  have HLT := Lib.hid h.lt
  have HB0 := Lib.hid ((Below.refl w.heap.size w).alloc (Nat.le_refl _) (.cells #[.string t0, .string t1] 46 (0, 0)))
  have HX0 := Lib.hid (blk_new w (.cells #[.string t0, .string t1] 46 (0, 0)))
  have HS0 := Lib.hid (h.kept HB0.out)
  have HDW := Lib.hid h.box
  clear h
  obtain ⟨v, hv⟩ : ∃ v, v = w.alloc (.cells #[.string t0, .string t1] 46 (0, 0)) := ⟨_, rfl⟩
  have HV := Lib.hid hv
  rw [← hv] at HB0 HX0 HS0
  clear hv
  have HC := Lib.hid (sclash_any D L c0 c1 k v HS0.out)
  obtain ⟨b, hb⟩ : ∃ b, b = metO c0 c1 := ⟨_, rfl⟩
  have HMB := Lib.hid hb
  rw [← hb] at HC
  clear hb
  cases b with
  | true =>
    go_enter Tryd.func25, Tryd.ntmps25
    go_upto_region 1 with (fail)
    rw [← HV.out]
    go_wp2_with fail
    refine HC.out.mono ?_
    rintro e w2 ⟨rfl, hb2⟩
    have HS2 := Lib.hid (HS0.out.kept hb2)
    have HB2 := Lib.hid (HB0.out.trans (hb2.mono HB0.out.size))
    clear hb2
    go_wp2_with fail
    refine bodyPost_end (results_none rfl _ _ _) rfl ?_
    refine ⟨rfl, ?_, Ks.of_below HB2.out HLT.out⟩
    unfold mtA mtB
    rw [← HMB.out]
    exact HS2.out
  | false =>
    go_enter Tryd.func25, Tryd.ntmps25
    go_upto_region 1 with (fail)
    rw [← HV.out]
    go_wp2_with fail
    refine HC.out.mono ?_
    rintro e w2 ⟨rfl, hb2⟩
    have HS2 := Lib.hid (HS0.out.kept hb2)
    have HB2 := Lib.hid (HB0.out.trans (hb2.mono HB0.out.size))
    have HX2 := Lib.hid (blk_below HX0.out hb2)
    obtain ⟨oa, on, oc, B, g1, g2, g3⟩ := HDW.out
    have HW1 := Lib.hid g1
    have hD2 := (HB2.out.block D HLT.out).trans g1
    have HD2 := Lib.hid hD2
    have HO2 := Lib.hid (g2.kept HB2.out)
    have HM2 := Lib.hid (g3.kept (w' := w2) (HB2.out.block B g3.lt))
    have hDB : D ≠ B := fun e => by
      obtain ⟨n, Dm, ⟨es, cl, q, _⟩, _⟩ := g3
      rw [← e, g1] at q
      cases q
    clear hb2 g1 g2 g3 hD2 HS2 HDW
    have x0 : w2.cell? ⟨w.heap.size, 0, none⟩ = some (.string t0) := (cell_of_row _ _ 0 _ _ _ HX2.out).trans rfl
    have x1 : w2.cell? ⟨w.heap.size, 1, none⟩ = some (.string t1) := (cell_of_row _ _ 1 _ _ _ HX2.out).trans rfl
    have y2 : w2.cell? ⟨D, 2, none⟩ = some (.string c0) := (cell_of_row _ _ 2 _ _ _ HD2.out).trans rfl
    have y3 : w2.cell? ⟨D, 3, none⟩ = some (.string c1) := (cell_of_row _ _ 3 _ _ _ HD2.out).trans rfl
    have f2 : w2.frozen? ⟨D, 2, none⟩ = false := frozen_of_row _ _ _ _ _ HD2.out
    have f3 : w2.frozen? ⟨D, 3, none⟩ = false := frozen_of_row _ _ _ _ _ HD2.out
    go_wp2_with fail
    have HK := Lib.hid (((KK.refl [D] w2).set (b := D) (by simp) 2 (.string t0)).set (b := D) (by simp) 3 (.string t1))
    have HD8 := Lib.hid (show ((w2.setCell ⟨D, 2, none⟩ (.string t0)).setCell ⟨D, 3, none⟩ (.string t1)).heap[D]? = some (shO oa on oc (some B) t0 t1) by have q := heap_setCell_at (i := 3) (u := .string t1) (heap_setCell_at (i := 2) (u := .string t0) HD2.out); exact q)
    have HO8 := Lib.hid (HO2.out.kkD HK.out HD2.out (by decide))
    have HM8 := Lib.hid (HM2.out.kept (HK.out.block B HM2.out.lt (by simpa using fun e => hDB e.symm)))
    refine bodyPost_end (results_none rfl _ _ _) rfl ?_
    refine ⟨rfl, ?_, Ks.of_box HB2.out HK.out HW1.out HD8.out⟩
    unfold mtA mtB
    rw [← HMB.out]
    exact ⟨oa, on, oc, B, HD8.out, HO8.out, HM8.out⟩
theorem get_none {L : List Ob} {s : ByteArray} (h : getO L s = none) : posO L s = none := by
  unfold getO at h
  unfold posO
  rw [Option.map_eq_none_iff] at h ⊢
  rw [List.findIdx?_eq_none_iff]
  rw [List.find?_eq_none] at h
  intro x hx
  simpa using h x hx
end Go.Proofs.YtiflieaemgamkaaDoor

namespace Go.Proofs.YtiflieaemgamkaaDoor
open Go.RowKit Vi

theorem InS.back {D : Nat} {w w' : World} (hb : Below w.heap.size w w') (hD : D < w.heap.size) {b : Nat} (q : InS D w' b) : InS D w b := by
  rcases q with q | ⟨o, n, c, q⟩ | q
  · exact .inl q
  · exact .inr (.inl ⟨o, n, c, by rw [← hb.cell (p := ⟨D, 0, none⟩) hD]; exact q⟩)
  · exact .inr (.inr (by rw [← hb.cell (p := ⟨D, 1, none⟩) hD]; exact q))
set_option maxRecDepth 100000 in
set_option maxHeartbeats 2000000 in
theorem sput_new (D : Nat) (L : List Ob) (c0 c1 : ByteArray) (k : Nat) (s t : ByteArray) (w : World) (h : SK D L c0 c1 k w) (hs : s.size ≤ maxLen) (hg : getO L s = none) (hk : k < 1000000) (hl : L.length < 1000000) :
    Calls Tryd.prog 16 #[.pointer (some ⟨D, 0, none⟩), .agg #[.string s, .string t]] w fun e w' => e = .returned (.tuple #[.string s, .int .i64 0]) ∧ SK D (L ++ [(s, t)]) c0 c1 (k + 1) w' ∧ Ks D w w' := by
  have HB0 := Lib.hid ((Below.refl w.heap.size w).alloc (Nat.le_refl _) (.cells #[.string s, .string t] 54 (0, 0)))
  have HX0 := Lib.hid (blk_new w (.cells #[.string s, .string t] 54 (0, 0)))
  have HS0 := Lib.hid (h.kept HB0.out)
  have HLT := Lib.hid h.lt
  have HNW := Lib.hid (fun (W : World) (hb : Below w.heap.size w W) => show ¬ InS D W w.heap.size from fun q => Nat.lt_irrefl _ (h.new (q.back hb h.lt)))
  clear h
  obtain ⟨v, hv⟩ : ∃ v, v = w.alloc (.cells #[.string s, .string t] 54 (0, 0)) := ⟨_, rfl⟩
  have HV := Lib.hid hv
  rw [← hv] at HB0 HX0 HS0
  clear hv
  have HG := Lib.hid (sget_any D L c0 c1 k s v HS0.out hs)
  have hx0 : v.cell? ⟨w.heap.size, 0, none⟩ = some (.string s) := (cell_of_row _ _ 0 _ _ _ HX0.out).trans rfl
  rw [hg] at HG
  go_enter Tryd.func16, Tryd.ntmps16
  go_upto_region 1 with (fail)
  rw [← HV.out]
  go_wp2_with fail
  refine HG.out.mono ?_
  rintro e w2 ⟨rfl, hb2⟩
  have HS2 := Lib.hid (HS0.out.kept hb2)
  have HB2 := Lib.hid (HB0.out.trans (hb2.mono HB0.out.size))
  have HX2 := Lib.hid (blk_below HX0.out hb2)
  clear hb2 hx0 HG
  have x0 : w2.cell? ⟨w.heap.size, 0, none⟩ = some (.string s) := (cell_of_row _ _ 0 _ _ _ HX2.out).trans rfl
  have x1 : w2.cell? ⟨w.heap.size, 1, none⟩ = some (.string t) := (cell_of_row _ _ 1 _ _ _ HX2.out).trans rfl
  go_wp2_with fail
  refine (sadd_any D L c0 c1 k s t w2 HS2.out (get_none hg) hs hk hl).mono ?_
  rintro e w3 ⟨rfl, hs3, hk3⟩
  have HX3 := Lib.hid ((hk3.block _ (lt_of_block HX2.out) (HNW.out _ HB2.out)).trans HX2.out)
  have HS3 := Lib.hid hs3
  have HK3 := Lib.hid ((Ks.of_below HB2.out HLT.out).trans hk3)
  clear hs3 hk3 x0 x1 HX2 HS2
  have x0 : w3.cell? ⟨w.heap.size, 0, none⟩ = some (.string s) := (cell_of_row _ _ 0 _ _ _ HX3.out).trans rfl
  go_wp2_with fail
  go_ret2
  exact ⟨rfl, HS3.out, HK3.out⟩
set_option maxRecDepth 100000 in
set_option maxHeartbeats 2000000 in
theorem sput_same (D : Nat) (L : List Ob) (c0 c1 : ByteArray) (k : Nat) (s t : ByteArray) (w : World) (h : SK D L c0 c1 k w) (hs : s.size ≤ maxLen) (hg : getO L s = some t) :
    Calls Tryd.prog 16 #[.pointer (some ⟨D, 0, none⟩), .agg #[.string s, .string t]] w fun e w' => e = .returned (.tuple #[.string s, .int .i64 0]) ∧ SK D L c0 c1 k w' ∧ Ks D w w' := by
  have HB0 := Lib.hid ((Below.refl w.heap.size w).alloc (Nat.le_refl _) (.cells #[.string s, .string t] 54 (0, 0)))
  have HX0 := Lib.hid (blk_new w (.cells #[.string s, .string t] 54 (0, 0)))
  have HS0 := Lib.hid (h.kept HB0.out)
  have HLT := Lib.hid h.lt
  have HNW := Lib.hid (fun (W : World) (hb : Below w.heap.size w W) => show ¬ InS D W w.heap.size from fun q => Nat.lt_irrefl _ (h.new (q.back hb h.lt)))
  clear h
  obtain ⟨v, hv⟩ : ∃ v, v = w.alloc (.cells #[.string s, .string t] 54 (0, 0)) := ⟨_, rfl⟩
  have HV := Lib.hid hv
  rw [← hv] at HB0 HX0 HS0
  clear hv
  have HG := Lib.hid (sget_any D L c0 c1 k s v HS0.out hs)
  have hx0 : v.cell? ⟨w.heap.size, 0, none⟩ = some (.string s) := (cell_of_row _ _ 0 _ _ _ HX0.out).trans rfl
  rw [hg] at HG
  go_enter Tryd.func16, Tryd.ntmps16
  go_upto_region 1 with (fail)
  rw [← HV.out]
  go_wp2_with fail
  refine HG.out.mono ?_
  rintro e w2 ⟨rfl, hb2⟩
  have HS2 := Lib.hid (HS0.out.kept hb2)
  have HB2 := Lib.hid (HB0.out.trans (hb2.mono HB0.out.size))
  have HX2 := Lib.hid (blk_below HX0.out hb2)
  clear hb2 hx0 HG
  have x0 : w2.cell? ⟨w.heap.size, 0, none⟩ = some (.string s) := (cell_of_row _ _ 0 _ _ _ HX2.out).trans rfl
  have x1 : w2.cell? ⟨w.heap.size, 1, none⟩ = some (.string t) := (cell_of_row _ _ 1 _ _ _ HX2.out).trans rfl
  go_wp2_with fail
  go_ret2
  exact ⟨rfl, HS2.out, Ks.of_below HB2.out HLT.out⟩
set_option maxRecDepth 100000 in
set_option maxHeartbeats 2000000 in
theorem sput_clash (D : Nat) (L : List Ob) (c0 c1 : ByteArray) (k : Nat) (s t : ByteArray) (w : World) (h : SK D L c0 c1 k w) (hs : s.size ≤ maxLen) (u : ByteArray) (hg : getO L s = some u) (hu : (u.toList == t.toList) = false) :
    Calls Tryd.prog 16 #[.pointer (some ⟨D, 0, none⟩), .agg #[.string s, .string t]] w fun e w' => e = .returned (.tuple #[.string ⟨#[]⟩, .int .i64 15]) ∧ SK D L (mtA c0 c1 u) (mtB c0 c1 t) k w' ∧ Ks D w w' := by
  have HB0 := Lib.hid ((Below.refl w.heap.size w).alloc (Nat.le_refl _) (.cells #[.string s, .string t] 54 (0, 0)))
  have HX0 := Lib.hid (blk_new w (.cells #[.string s, .string t] 54 (0, 0)))
  have HS0 := Lib.hid (h.kept HB0.out)
  have HLT := Lib.hid h.lt
  have HNW := Lib.hid (fun (W : World) (hb : Below w.heap.size w W) => show ¬ InS D W w.heap.size from fun q => Nat.lt_irrefl _ (h.new (q.back hb h.lt)))
  clear h
  obtain ⟨v, hv⟩ : ∃ v, v = w.alloc (.cells #[.string s, .string t] 54 (0, 0)) := ⟨_, rfl⟩
  have HV := Lib.hid hv
  rw [← hv] at HB0 HX0 HS0
  clear hv
  have HG := Lib.hid (sget_any D L c0 c1 k s v HS0.out hs)
  have hx0 : v.cell? ⟨w.heap.size, 0, none⟩ = some (.string s) := (cell_of_row _ _ 0 _ _ _ HX0.out).trans rfl
  rw [hg] at HG
  go_enter Tryd.func16, Tryd.ntmps16
  go_upto_region 1 with (fail)
  rw [← HV.out]
  go_wp2_with fail
  refine HG.out.mono ?_
  rintro e w2 ⟨rfl, hb2⟩
  have HS2 := Lib.hid (HS0.out.kept hb2)
  have HB2 := Lib.hid (HB0.out.trans (hb2.mono HB0.out.size))
  have HX2 := Lib.hid (blk_below HX0.out hb2)
  clear hb2 hx0 HG
  have x0 : w2.cell? ⟨w.heap.size, 0, none⟩ = some (.string s) := (cell_of_row _ _ 0 _ _ _ HX2.out).trans rfl
  have x1 : w2.cell? ⟨w.heap.size, 1, none⟩ = some (.string t) := (cell_of_row _ _ 1 _ _ _ HX2.out).trans rfl
  have hu2 : (u != t) = true := by
    cases q : (u == t) with
    | true => rw [ba_beq q] at hu; simp at hu
    | false => simp [bne, q]
  go_wp2_with fail
  refine (smeet_any D L c0 c1 k u t w2 HS2.out).mono ?_
  rintro e w3 ⟨rfl, hs3, hk3⟩
  have HS3 := Lib.hid hs3
  have HK3 := Lib.hid ((Ks.of_below HB2.out HLT.out).trans hk3)
  clear hs3 hk3 x0 x1 HX2 HS2
  go_wp2_with fail
  go_ret2
  exact ⟨rfl, HS3.out, HK3.out⟩
end Go.Proofs.YtiflieaemgamkaaDoor
