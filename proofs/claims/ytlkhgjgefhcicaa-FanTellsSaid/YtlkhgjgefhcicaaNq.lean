/- Slices of texts: cut, read, and appended to rows of the call's own. -/
import Derived.Test.YtlkhgjgefhcicaaNg
import Derived.Test.YtlkhgjgefhcicaaNp
import Derived.Test.YtlkhgjgefhcicaaNw
import Derived.Maps.AppendAt
import Derived.Laws.OwnMore
import Derived.Lib.SliceRun
namespace Go.Proofs.Ytlkhgjgefhcicaa
open Go.RowKit

/-- where a slice's end lies -/
def cutA (a : Option Addr) (c k : Nat) : Option Addr := if c = k then a else a.map (·.add k)
theorem elem_ss : Try.prog.elem 22 = 9 := by kernel_rfl
theorem size_of_str (W : World) : (sizeOf 9).run Try.prog W = .ok 1 W := by
  obtain ⟨i0, hi, _, hz1, _⟩ := info_parts info_str
  simp [sizeOf, typeInfo, hi, hz1]
theorem und_ss : Try.prog.underlying 22 = some (.slice (Try.prog.elem 22)) := by rw [elem_ss]; exact Try.underlying22
theorem slice_to (a : Option Addr) (n c k : Nat) (hk : k ≤ c) (W : World) : (Instr.slice 22 (.slice a n c) none (some (.int .i64 (k : Int))) none).run Try.prog W = .ok (.slice a k c) W := by
  rw [run_slice_h W _ a n c und_ss .i64 k (by omega) (by omega), elem_ss, size_of_str]
  simp [Result.andThen, sliced, Addr.add]
theorem slice_from (a : Option Addr) (n c k : Nat) (hk : k ≤ n) (W : World) : (Instr.slice 22 (.slice a n c) (some (.int .i64 (k : Int))) none none).run Try.prog W = .ok (.slice (cutA a c k) (n - k) (c - k)) W := by
  rw [run_slice_l W _ a n c und_ss .i64 k (by omega) (by omega), elem_ss, size_of_str]
  simp [Result.andThen, sliced, cutA]
theorem slice_at (a : Option Addr) (n c k : Nat) (z : Int) (hz : z = k) (hk : k ≤ n) (W : World) : (Instr.slice 22 (.slice a n c) (some (.int .i64 z)) none none).run Try.prog W = .ok (.slice (cutA a c k) (n - k) (c - k)) W := by
  subst hz
  exact slice_from a n c k hk W
theorem SlN.cut {w : World} {a : Option Addr} {n : Nat} {ss : List ByteArray} (h : SlN w a n ss) (c k : Nat) (hk : k ≤ n) (hc : n ≤ c) : SlN w (cutA a c k) (n - k) (ss.drop k) := by
  have hl := h.1
  refine ⟨by rw [List.length_drop]; omega, fun hp => ?_⟩
  obtain ⟨b, off, rfl, hcell⟩ := h.2 (by omega)
  refine ⟨b, off + k, ?_, fun i hi => ?_⟩
  · unfold cutA
    rw [if_neg (by omega)]
    simp [Addr.add_lit]
  · have h2 : k + i < ss.length := by rw [List.length_drop] at hi; omega
    rw [Nat.add_assoc, hcell (k + i) h2]
    simp
theorem SlN.upto {w : World} {a : Option Addr} {n : Nat} {ss : List ByteArray} (h : SlN w a n ss) (k : Nat) (hk : k ≤ n) : SlN w a k (ss.take k) := by
  have hl := h.1
  refine ⟨by rw [List.length_take]; omega, fun hp => ?_⟩
  obtain ⟨b, off, rfl, hcell⟩ := h.2 (by omega)
  refine ⟨b, off, rfl, fun i hi => ?_⟩
  have h2 : i < ss.length := by rw [List.length_take] at hi; omega
  rw [hcell i h2]
  simp

/-- a value that is a slice of these texts -/
def TS (w : World) (v : Value) (L : List ByteArray) : Prop := ∃ (a : Option Addr) (c : Nat), v = .slice a L.length c ∧ SlN w a L.length L ∧ L.length ≤ c ∧ c ≤ maxLen
/-- a row of these texts that the call owns -/
def OwnS (w : World) (B : Nat) (v : Value) (L : List ByteArray) : Prop := w.ownsRow B 9 1 v L.length (L.map stv)
theorem OwnS.alloc {w : World} {B : Nat} {v : Value} {L : List ByteArray} (h : OwnS w B v L) (o : Obj) : OwnS (w.alloc o) B v L := World.ownsRow.alloc h o
theorem TS.of_own {w : World} {B : Nat} {v : Value} {L : List ByteArray} (h : OwnS w B v L) : TS w v L := by
  have h : w.ownsRow B 9 1 v L.length (L.map stv) := h
  rcases h.2 with ⟨rfl, h0⟩ | ⟨g, cap, cur, rfl, hB, hg, hn, hm, hcs, htk⟩
  · have e : L = [] := List.length_eq_zero_iff.1 h0
    subst e
    exact ⟨none, 0, rfl, ⟨rfl, fun hp => absurd hp (by simp)⟩, Nat.le_refl _, by decide⟩
  · refine ⟨some ⟨g, 0, none⟩, cap, rfl, ⟨rfl, fun _ => ⟨g, 0, rfl, fun i hi => ?_⟩⟩, hn, hm⟩
    have q := h.cells (g := g) rfl i (stv L[i]) (by simp [hi])
    simpa [Addr.add_lit, stv] using q
theorem TS.later {w w' : World} {v : Value} {L : List ByteArray} (h : TS w v L) (hb : Below w.heap.size w w') : TS w' v L := by
  obtain ⟨a, c, e, hs, h1, h2⟩ := h
  exact ⟨a, c, e, hs.later hb, h1, h2⟩
theorem SlN.ts {w : World} {a : Option Addr} {n c : Nat} {L : List ByteArray} (h : SlN w a n L) (hc : n ≤ c) (hm : c ≤ maxLen) : TS w (.slice a n c) L := by
  obtain rfl : L.length = n := h.1
  exact ⟨a, c, rfl, h, hc, hm⟩

theorem run_app_nil {w : World} (ty : TypeId) (base : Nat) (v : Value) (n : Nat) (xs : List Value) (hown : w.ownsRow base 9 1 v n xs) (c : Nat) :
    (Builtin.append_ #[22, 22] ty #[v, .slice none 0 c]).run Try.prog w = .ok v w := by
  obtain ⟨i0, hi, _, _, _⟩ := info_parts info_str
  have hu := run_underlying (P := Try.prog) Try.underlying22
  rcases hown.2 with ⟨rfl, rfl⟩ | ⟨g, cap, cur, rfl, _, _, hnc, _⟩
  · simp [Builtin.append_, hu, sizeOf, typeInfo, hi, Builtin.lenOf, Builtin.firstCells]
  · simp [Builtin.append_, hu, sizeOf, typeInfo, hi, Builtin.lenOf, Builtin.firstCells, hnc, storeCells]
theorem run_app {w : World} (ty : TypeId) (base : Nat) (v : Value) (L : List ByteArray) (hown : w.ownsRow base 9 1 v L.length (L.map stv)) (A : Option Addr) (m c : Nat) (ys : List ByteArray) (hs : SlN w A m ys)
    (hm : L.length + m ≤ 3000000) (hbase : base ≤ w.heap.size) :
    ∃ v' w', (Builtin.append_ #[22, 22] ty #[v, .slice A m c]).run Try.prog w = .ok v' w' ∧ w'.ownsRow base 9 1 v' (L ++ ys).length ((L ++ ys).map stv) ∧ w.grownBy w' v.ownBlock := by
  have hl := hs.1
  rcases A with _ | ad
  · have h0 : m = 0 := by
      rcases Nat.eq_zero_or_pos m with h0 | h0
      · exact h0
      · obtain ⟨b, off, e, _⟩ := hs.2 h0
        cases e
    subst h0
    have e : ys = [] := List.length_eq_zero_iff.1 hl
    subst e
    exact ⟨v, w, run_app_nil ty base v _ _ hown c, by rw [List.append_nil]; exact hown, World.grownBy.refl w _⟩
  · obtain ⟨i0, hi, hz0, hz1, hz2⟩ := info_parts info_str
    have hcells : ∀ j u, (ys.map stv)[j]? = some u → w.cell? (ad.add j) = some u := by
      intro j u hu
      have hj : j < ys.length := by simpa using (List.getElem?_eq_some_iff.1 hu).1
      obtain ⟨b, off, e, hc⟩ := hs.2 (by omega)
      cases e
      have hv : u = stv ys[j] := by
        rw [List.getElem?_map, List.getElem?_eq_getElem hj] at hu
        simpa using hu.symm
      rw [Addr.add_lit, hc j hj, hv]
      rfl
    obtain ⟨v', w', hr, h2, h3, _, _⟩ := run_append_own_at (P := Try.prog) w base 22 ty 9 i0 (.string ⟨#[]⟩) 1 16 Try.underlying22 hi hz0 hz1 hz2 rfl (by decide) v L.length (L.map stv) hown ad m c (ys.map stv)
      (by rw [List.length_map]; omega) hcells (fun u hu => by obtain ⟨x, _, rfl⟩ := List.mem_map.1 hu; rfl) (by unfold maxLen; omega) (by omega) hbase
    refine ⟨v', w', hr, ?_, h3⟩
    rw [List.length_append, List.map_append, hl]
    exact h2

/-- the builtin append, for the walk -/
theorem wpList_app {ops : Array Oper} {rest : List Oper} {o : Oper} {a : Act} {Q : Exit → Act → World → Prop} {w : World} (hgd : o.guard = none) (s x : Operand)
    (ho : o.op = .call { callee := .builtin .append, args := #[s, x], argTypes := #[22, 22] })
    (B : Nat) (w0 : World) (hb : Below B w0 w) (hB : B ≤ w.heap.size) (v : Value) (L : List ByteArray) (hs : a.eval s = v) (hown : OwnS w B v L)
    (A : Option Addr) (m c : Nat) (ys : List ByteArray) (hx : a.eval x = .slice A m c) (hsl : SlN w A m ys) (hm : L.length + m ≤ 3000000)
    (h : ∀ v' w', Hid (OwnS w' B v' (L ++ ys)) → Hid (Below B w0 w') → Hid (B ≤ w'.heap.size) → wpList Try.prog ops Q rest (a.put o.dst v') w') : wpList Try.prog ops Q (o :: rest) a w := by
  refine wpList_plain hgd fun K hK => ?_
  obtain ⟨v', w', hr, h2, h3⟩ := run_app o.type B v L hown A m c ys hsl hm hB
  unfold Oper.wp execOp
  simp only [ho, resolve, invoke, builtin, Sem.run_bind, Sem.run_pure, Result.andThen_ok, List.map_toArray, List.map_cons, List.map_nil, hs, hx, hr]
  exact hK _ _ (h v' w' h2 (hb.grown h3 hB (fun k hk => (World.ownsRow.lt hown k hk).1)) (Nat.le_trans hB h3.size))
theorem step_app {ops : Array Oper} {o : Oper} {a : Act} {K : Act → World → Prop} {Q : Exit → Act → World → Prop} {E : Prop} {w : World} (hgd : o.guard = none) (s x : Operand)
    (ho : o.op = .call { callee := .builtin .append, args := #[s, x], argTypes := #[22, 22] })
    (B : Nat) (w0 : World) (hb : Below B w0 w) (hB : B ≤ w.heap.size) (v : Value) (L : List ByteArray) (hs : a.eval s = v) (hown : OwnS w B v L)
    (A : Option Addr) (m c : Nat) (ys : List ByteArray) (hx : a.eval x = .slice A m c) (hsl : SlN w A m ys) (hm : L.length + m ≤ 3000000)
    (h : ∀ v' w', Hid (OwnS w' B v' (L ++ ys)) → Hid (Below B w0 w') → Hid (B ≤ w'.heap.size) → K (a.put o.dst v') w') :
    if Region.wanted o (yielded ops a.tmps) = true then Oper.wp Try.prog o a w K Q else E := by
  have hw : Region.wanted o (yielded ops a.tmps) = true := by simp [Region.wanted, hgd]
  rw [if_pos hw]
  obtain ⟨v', w', hr, h2, h3⟩ := run_app o.type B v L hown A m c ys hsl hm hB
  unfold Oper.wp execOp
  simp only [ho, resolve, invoke, builtin, Sem.run_bind, Sem.run_pure, Result.andThen_ok, List.map_toArray, List.map_cons, List.map_nil, hs, hx, hr]
  exact h v' w' h2 (hb.grown h3 hB (fun k hk => (World.ownsRow.lt hown k hk).1)) (Nat.le_trans hB h3.size)
theorem step_appg {ops : Array Oper} {o : Oper} {a : Act} {K : Act → World → Prop} {Q : Exit → Act → World → Prop} {E : Prop} {w : World} (hgd : o.guard = none) (s x : Operand)
    (ho : o.op = .call { callee := .builtin .append, args := #[s, x], argTypes := #[22, 22] })
    (B : Nat) (w0 : World) (hb : Below B w0 w) (hB : B ≤ w.heap.size) (v : Value) (L : List ByteArray) (hs : a.eval s = v) (hown : OwnS w B v L)
    (A : Option Addr) (m c : Nat) (ys : List ByteArray) (hx : a.eval x = .slice A m c) (hsl : SlN w A m ys) (hm : L.length + m ≤ 3000000)
    (h : ∀ v' w', Hid (OwnS w' B v' (L ++ ys)) → Hid (Below B w0 w') → Hid (B ≤ w'.heap.size) → Hid (w.grownBy w' v.ownBlock) → K (a.put o.dst v') w') :
    if Region.wanted o (yielded ops a.tmps) = true then Oper.wp Try.prog o a w K Q else E := by
  have hw : Region.wanted o (yielded ops a.tmps) = true := by simp [Region.wanted, hgd]
  rw [if_pos hw]
  obtain ⟨v', w', hr, h2, h3⟩ := run_app o.type B v L hown A m c ys hsl hm hB
  unfold Oper.wp execOp
  simp only [ho, resolve, invoke, builtin, Sem.run_bind, Sem.run_pure, Result.andThen_ok, List.map_toArray, List.map_cons, List.map_nil, hs, hx, hr]
  exact h v' w' h2 (hb.grown h3 hB (fun k hk => (World.ownsRow.lt hown k hk).1)) (Nat.le_trans hB h3.size) h3
theorem own_zero_at {W : World} {p B : Nat} (h : W.heap[p]? = some (.cells #[] 9 (0, 0))) (hB : B ≤ p) : OwnS W B (.slice (some ⟨p, 0, none⟩) 0 0) [] :=
  ⟨rfl, .inr ⟨p, 0, #[], rfl, hB, h, Nat.le_refl _, by decide, rfl, rfl⟩⟩
theorem sl_one_at {W : World} {p : Nat} {s : ByteArray} (h : W.heap[p]? = some (.cells #[.string s] 9 (0, 0))) : SlN W (some ⟨p, 0, none⟩) 1 [s] := SlN.of_block [s] h
theorem own_nil (w : World) (B : Nat) : OwnS w B (.slice none 0 0) [] := World.ownsRow_nil w B _ 1
theorem own_zero (w : World) : OwnS (w.alloc (.cells #[] 9)) w.heap.size (.slice (some ⟨w.heap.size, 0, none⟩) 0 0) [] :=
  World.ownsRow_made w #[] 0 (Nat.le_refl _) (Nat.zero_le _) rfl
/-- one text, laid to be appended -/
theorem sl_one (w : World) (s : ByteArray) : SlN (w.alloc (.cells #[.string s] 9)) (some ⟨w.heap.size, 0, none⟩) 1 [s] :=
  SlN.of_block [s] (MapKept.heap_alloc w (.cells #[.string s] 9)).1
/-- a call that answers with a slice of these texts; and with a bool behind it -/
def RetTS (w : World) (L : List ByteArray) (e : Ending) (w' : World) : Prop := ∃ v, e = .returned v ∧ TS w' v L ∧ Below w.heap.size w w'
def RetTS2 (w : World) (L : List ByteArray) (b : Bool) (e : Ending) (w' : World) : Prop := ∃ v, e = .returned (.tuple #[v, .bool b]) ∧ TS w' v L ∧ Below w.heap.size w w'
def RetOwn (w : World) (L : List ByteArray) (e : Ending) (w' : World) : Prop := ∃ v, e = .returned v ∧ OwnS w' w.heap.size v L ∧ Below w.heap.size w w'
theorem join_ts (a : Option Addr) (la ca : Nat) (xs : List ByteArray) (s : ByteArray) (b : Option Addr) (lb cb : Nat) (ys : List ByteArray) (w : World) (ha : SlN w a la xs) (hb : SlN w b lb ys) (h1 : la ≤ 1000000) (h2 : lb ≤ 1000000) :
    Calls Try.prog 47 #[.slice a la ca, .string s, .slice b lb cb] w (RetTS w (xs ++ s :: ys)) :=
  (join_any a la ca xs s b lb cb ys w ha hb h1 h2).mono fun e w' ⟨he, hg, hbb⟩ => by
    have hl : (xs ++ s :: ys).length = la + 1 + lb := by simp only [List.length_append, List.length_cons, ha.1, hb.1]; omega
    refine ⟨_, he, ?_, hbb⟩
    rw [← hl]
    exact (SlN.of_block _ hg).ts (Nat.le_refl _) (by unfold maxLen; omega)
end Go.Proofs.Ytlkhgjgefhcicaa
