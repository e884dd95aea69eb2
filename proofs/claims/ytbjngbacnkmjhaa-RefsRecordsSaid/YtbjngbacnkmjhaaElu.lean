/- What layer 25 takes of layer 13: XNq, XNr, XNs, XNt, XNu, XNv in one (a claim holds 60 files) -/
import Derived.Test.YtbjngbacnkmjhaaNg
import Derived.Test.YtbjngbacnkmjhaaNp
import Derived.Test.YtbjngbacnkmjhaaNw
import Derived.Maps.AppendAt
import Derived.Laws.OwnMore
import Derived.Lib.SliceRun
import Derived.Lib.AppendZerosOnto
import Derived.Lib.MinMaxS
import Derived.Deep.RegionLaw
import Derived.Test.YtbjngbacnkmjhaaNy
namespace Go.Proofs.Ytbjngbacnkmjhaa
open Go.RowKit

/-- where a slice's end lies -/
def cutA (a : Option Addr) (c k : Nat) : Option Addr := if c = k then a else a.map (·.add k)
theorem elem_ss : Try.prog.elem 29 = 9 := by kernel_rfl
theorem size_of_str (W : World) : (sizeOf 9).run Try.prog W = .ok 1 W := by
  obtain ⟨i0, hi, _, hz1, _⟩ := info_parts info_str
  simp [sizeOf, typeInfo, hi, hz1]
theorem und_ss : Try.prog.underlying 29 = some (.slice (Try.prog.elem 29)) := by rw [elem_ss]; exact Try.underlying29
theorem slice_to (a : Option Addr) (n c k : Nat) (hk : k ≤ c) (W : World) : (Instr.slice 29 (.slice a n c) none (some (.int .i64 (k : Int))) none).run Try.prog W = .ok (.slice a k c) W := by
  rw [run_slice_h W _ a n c und_ss .i64 k (by omega) (by omega), elem_ss, size_of_str]
  simp [Result.andThen, sliced, Addr.add]
theorem slice_from (a : Option Addr) (n c k : Nat) (hk : k ≤ n) (W : World) : (Instr.slice 29 (.slice a n c) (some (.int .i64 (k : Int))) none none).run Try.prog W = .ok (.slice (cutA a c k) (n - k) (c - k)) W := by
  rw [run_slice_l W _ a n c und_ss .i64 k (by omega) (by omega), elem_ss, size_of_str]
  simp [Result.andThen, sliced, cutA]
theorem slice_at (a : Option Addr) (n c k : Nat) (z : Int) (hz : z = k) (hk : k ≤ n) (W : World) : (Instr.slice 29 (.slice a n c) (some (.int .i64 z)) none none).run Try.prog W = .ok (.slice (cutA a c k) (n - k) (c - k)) W := by
  subst hz
  exact slice_from a n c k hk W
theorem SlN.cut {w : World} {a : Option Addr} {n : Nat} {ss : List ByteArray} (h : SlN w a n ss) (c k : Nat) (hk : k ≤ n) (hc : n ≤ c) : SlN w (cutA a c k) (n - k) (ss.drop k) := by
  have hl := h.1
  refine ⟨by rw [List.length_drop]; omega, fun hp => ?_⟩
  obtain ⟨b, off, rfl, hcell⟩ := h.2 (by omega)
  refine ⟨b, off + k, ?_, fun i hi => ?_⟩
  · unfold cutA
    rw [if_neg (by omega)]
    simp [Addr.add_lit]
  · have h2 : k + i < ss.length := by rw [List.length_drop] at hi; omega
    rw [Nat.add_assoc, hcell (k + i) h2]
    simp
theorem SlN.upto {w : World} {a : Option Addr} {n : Nat} {ss : List ByteArray} (h : SlN w a n ss) (k : Nat) (hk : k ≤ n) : SlN w a k (ss.take k) := by
  have hl := h.1
  refine ⟨by rw [List.length_take]; omega, fun hp => ?_⟩
  obtain ⟨b, off, rfl, hcell⟩ := h.2 (by omega)
  refine ⟨b, off, rfl, fun i hi => ?_⟩
  have h2 : i < ss.length := by rw [List.length_take] at hi; omega
  rw [hcell i h2]
  simp

/-- a value that is a slice of these texts -/
def TS (w : World) (v : Value) (L : List ByteArray) : Prop := ∃ (a : Option Addr) (c : Nat), v = .slice a L.length c ∧ SlN w a L.length L ∧ L.length ≤ c ∧ c ≤ maxLen
/-- a row of these texts that the call owns -/
def OwnS (w : World) (B : Nat) (v : Value) (L : List ByteArray) : Prop := w.ownsRow B 9 1 v L.length (L.map stv)
theorem OwnS.alloc {w : World} {B : Nat} {v : Value} {L : List ByteArray} (h : OwnS w B v L) (o : Obj) : OwnS (w.alloc o) B v L := World.ownsRow.alloc h o
theorem TS.of_own {w : World} {B : Nat} {v : Value} {L : List ByteArray} (h : OwnS w B v L) : TS w v L := by
  have h : w.ownsRow B 9 1 v L.length (L.map stv) := h
  rcases h.2 with ⟨rfl, h0⟩ | ⟨g, cap, cur, rfl, hB, hg, hn, hm, hcs, htk⟩
  · have e : L = [] := List.length_eq_zero_iff.1 h0
    subst e
    exact ⟨none, 0, rfl, ⟨rfl, fun hp => absurd hp (by simp)⟩, Nat.le_refl _, by decide⟩
  · refine ⟨some ⟨g, 0, none⟩, cap, rfl, ⟨rfl, fun _ => ⟨g, 0, rfl, fun i hi => ?_⟩⟩, hn, hm⟩
    have q := h.cells (g := g) rfl i (stv L[i]) (by simp [hi])
    simpa [Addr.add_lit, stv] using q
theorem TS.later {w w' : World} {v : Value} {L : List ByteArray} (h : TS w v L) (hb : Below w.heap.size w w') : TS w' v L := by
  obtain ⟨a, c, e, hs, h1, h2⟩ := h
  exact ⟨a, c, e, hs.later hb, h1, h2⟩
theorem SlN.ts {w : World} {a : Option Addr} {n c : Nat} {L : List ByteArray} (h : SlN w a n L) (hc : n ≤ c) (hm : c ≤ maxLen) : TS w (.slice a n c) L := by
  obtain rfl : L.length = n := h.1
  exact ⟨a, c, rfl, h, hc, hm⟩

theorem run_app_nil {w : World} (ty : TypeId) (base : Nat) (v : Value) (n : Nat) (xs : List Value) (hown : w.ownsRow base 9 1 v n xs) (c : Nat) :
    (Builtin.append_ #[29, 29] ty #[v, .slice none 0 c]).run Try.prog w = .ok v w := by
  obtain ⟨i0, hi, _, _, _⟩ := info_parts info_str
  have hu := run_underlying (P := Try.prog) Try.underlying29
  rcases hown.2 with ⟨rfl, rfl⟩ | ⟨g, cap, cur, rfl, _, _, hnc, _⟩
  · simp [Builtin.append_, hu, sizeOf, typeInfo, hi, Builtin.lenOf, Builtin.firstCells]
  · simp [Builtin.append_, hu, sizeOf, typeInfo, hi, Builtin.lenOf, Builtin.firstCells, hnc, storeCells]
theorem run_app {w : World} (ty : TypeId) (base : Nat) (v : Value) (L : List ByteArray) (hown : w.ownsRow base 9 1 v L.length (L.map stv)) (A : Option Addr) (m c : Nat) (ys : List ByteArray) (hs : SlN w A m ys)
    (hm : L.length + m ≤ 3000000) (hbase : base ≤ w.heap.size) :
    ∃ v' w', (Builtin.append_ #[29, 29] ty #[v, .slice A m c]).run Try.prog w = .ok v' w' ∧ w'.ownsRow base 9 1 v' (L ++ ys).length ((L ++ ys).map stv) ∧ w.grownBy w' v.ownBlock := by
  have hl := hs.1
  rcases A with _ | ad
  · have h0 : m = 0 := by
      rcases Nat.eq_zero_or_pos m with h0 | h0
      · exact h0
      · obtain ⟨b, off, e, _⟩ := hs.2 h0
        cases e
    subst h0
    have e : ys = [] := List.length_eq_zero_iff.1 hl
    subst e
    exact ⟨v, w, run_app_nil ty base v _ _ hown c, by rw [List.append_nil]; exact hown, World.grownBy.refl w _⟩
  · obtain ⟨i0, hi, hz0, hz1, hz2⟩ := info_parts info_str
    have hcells : ∀ j u, (ys.map stv)[j]? = some u → w.cell? (ad.add j) = some u := by
      intro j u hu
      have hj : j < ys.length := by simpa using (List.getElem?_eq_some_iff.1 hu).1
      obtain ⟨b, off, e, hc⟩ := hs.2 (by omega)
      cases e
      have hv : u = stv ys[j] := by
        rw [List.getElem?_map, List.getElem?_eq_getElem hj] at hu
        simpa using hu.symm
      rw [Addr.add_lit, hc j hj, hv]
      rfl
    obtain ⟨v', w', hr, h2, h3, _, _⟩ := run_append_own_at (P := Try.prog) w base 29 ty 9 i0 (.string ⟨#[]⟩) 1 16 Try.underlying29 hi hz0 hz1 hz2 rfl (by decide) v L.length (L.map stv) hown ad m c (ys.map stv)
      (by rw [List.length_map]; omega) hcells (fun u hu => by obtain ⟨x, _, rfl⟩ := List.mem_map.1 hu; rfl) (by unfold maxLen; omega) (by omega) hbase
    refine ⟨v', w', hr, ?_, h3⟩
    rw [List.length_append, List.map_append, hl]
    exact h2

/-- the builtin append, for the walk -/
theorem wpList_app {ops : Array Oper} {rest : List Oper} {o : Oper} {a : Act} {Q : Exit → Act → World → Prop} {w : World} (hgd : o.guard = none) (s x : Operand)
    (ho : o.op = .call { callee := .builtin .append, args := #[s, x], argTypes := #[29, 29] })
    (B : Nat) (w0 : World) (hb : Below B w0 w) (hB : B ≤ w.heap.size) (v : Value) (L : List ByteArray) (hs : a.eval s = v) (hown : OwnS w B v L)
    (A : Option Addr) (m c : Nat) (ys : List ByteArray) (hx : a.eval x = .slice A m c) (hsl : SlN w A m ys) (hm : L.length + m ≤ 3000000)
    (h : ∀ v' w', Hid (OwnS w' B v' (L ++ ys)) → Hid (Below B w0 w') → Hid (B ≤ w'.heap.size) → wpList Try.prog ops Q rest (a.put o.dst v') w') : wpList Try.prog ops Q (o :: rest) a w := by
  refine wpList_plain hgd fun K hK => ?_
  obtain ⟨v', w', hr, h2, h3⟩ := run_app o.type B v L hown A m c ys hsl hm hB
  unfold Oper.wp execOp
  simp only [ho, resolve, invoke, builtin, Sem.run_bind, Sem.run_pure, Result.andThen_ok, List.map_toArray, List.map_cons, List.map_nil, hs, hx, hr]
  exact hK _ _ (h v' w' h2 (hb.grown h3 hB (fun k hk => (World.ownsRow.lt hown k hk).1)) (Nat.le_trans hB h3.size))
theorem step_app {ops : Array Oper} {o : Oper} {a : Act} {K : Act → World → Prop} {Q : Exit → Act → World → Prop} {E : Prop} {w : World} (hgd : o.guard = none) (s x : Operand)
    (ho : o.op = .call { callee := .builtin .append, args := #[s, x], argTypes := #[29, 29] })
    (B : Nat) (w0 : World) (hb : Below B w0 w) (hB : B ≤ w.heap.size) (v : Value) (L : List ByteArray) (hs : a.eval s = v) (hown : OwnS w B v L)
    (A : Option Addr) (m c : Nat) (ys : List ByteArray) (hx : a.eval x = .slice A m c) (hsl : SlN w A m ys) (hm : L.length + m ≤ 3000000)
    (h : ∀ v' w', Hid (OwnS w' B v' (L ++ ys)) → Hid (Below B w0 w') → Hid (B ≤ w'.heap.size) → K (a.put o.dst v') w') :
    if Region.wanted o (yielded ops a.tmps) = true then Oper.wp Try.prog o a w K Q else E := by
  have hw : Region.wanted o (yielded ops a.tmps) = true := by simp [Region.wanted, hgd]
  rw [if_pos hw]
  obtain ⟨v', w', hr, h2, h3⟩ := run_app o.type B v L hown A m c ys hsl hm hB
  unfold Oper.wp execOp
  simp only [ho, resolve, invoke, builtin, Sem.run_bind, Sem.run_pure, Result.andThen_ok, List.map_toArray, List.map_cons, List.map_nil, hs, hx, hr]
  exact h v' w' h2 (hb.grown h3 hB (fun k hk => (World.ownsRow.lt hown k hk).1)) (Nat.le_trans hB h3.size)
theorem step_appg {ops : Array Oper} {o : Oper} {a : Act} {K : Act → World → Prop} {Q : Exit → Act → World → Prop} {E : Prop} {w : World} (hgd : o.guard = none) (s x : Operand)
    (ho : o.op = .call { callee := .builtin .append, args := #[s, x], argTypes := #[29, 29] })
    (B : Nat) (w0 : World) (hb : Below B w0 w) (hB : B ≤ w.heap.size) (v : Value) (L : List ByteArray) (hs : a.eval s = v) (hown : OwnS w B v L)
    (A : Option Addr) (m c : Nat) (ys : List ByteArray) (hx : a.eval x = .slice A m c) (hsl : SlN w A m ys) (hm : L.length + m ≤ 3000000)
    (h : ∀ v' w', Hid (OwnS w' B v' (L ++ ys)) → Hid (Below B w0 w') → Hid (B ≤ w'.heap.size) → Hid (w.grownBy w' v.ownBlock) → K (a.put o.dst v') w') :
    if Region.wanted o (yielded ops a.tmps) = true then Oper.wp Try.prog o a w K Q else E := by
  have hw : Region.wanted o (yielded ops a.tmps) = true := by simp [Region.wanted, hgd]
  rw [if_pos hw]
  obtain ⟨v', w', hr, h2, h3⟩ := run_app o.type B v L hown A m c ys hsl hm hB
  unfold Oper.wp execOp
  simp only [ho, resolve, invoke, builtin, Sem.run_bind, Sem.run_pure, Result.andThen_ok, List.map_toArray, List.map_cons, List.map_nil, hs, hx, hr]
  exact h v' w' h2 (hb.grown h3 hB (fun k hk => (World.ownsRow.lt hown k hk).1)) (Nat.le_trans hB h3.size) h3
theorem own_zero_at {W : World} {p B : Nat} (h : W.heap[p]? = some (.cells #[] 9 (0, 0))) (hB : B ≤ p) : OwnS W B (.slice (some ⟨p, 0, none⟩) 0 0) [] :=
  ⟨rfl, .inr ⟨p, 0, #[], rfl, hB, h, Nat.le_refl _, by decide, rfl, rfl⟩⟩
theorem sl_one_at {W : World} {p : Nat} {s : ByteArray} (h : W.heap[p]? = some (.cells #[.string s] 9 (0, 0))) : SlN W (some ⟨p, 0, none⟩) 1 [s] := SlN.of_block [s] h
theorem own_nil (w : World) (B : Nat) : OwnS w B (.slice none 0 0) [] := World.ownsRow_nil w B _ 1
theorem own_zero (w : World) : OwnS (w.alloc (.cells #[] 9)) w.heap.size (.slice (some ⟨w.heap.size, 0, none⟩) 0 0) [] :=
  World.ownsRow_made w #[] 0 (Nat.le_refl _) (Nat.zero_le _) rfl
/-- one text, laid to be appended -/
theorem sl_one (w : World) (s : ByteArray) : SlN (w.alloc (.cells #[.string s] 9)) (some ⟨w.heap.size, 0, none⟩) 1 [s] :=
  SlN.of_block [s] (MapKept.heap_alloc w (.cells #[.string s] 9)).1
/-- a call that answers with a slice of these texts; and with a bool behind it -/
def RetTS (w : World) (L : List ByteArray) (e : Ending) (w' : World) : Prop := ∃ v, e = .returned v ∧ TS w' v L ∧ Below w.heap.size w w'
def RetTS2 (w : World) (L : List ByteArray) (b : Bool) (e : Ending) (w' : World) : Prop := ∃ v, e = .returned (.tuple #[v, .bool b]) ∧ TS w' v L ∧ Below w.heap.size w w'
def RetOwn (w : World) (L : List ByteArray) (e : Ending) (w' : World) : Prop := ∃ v, e = .returned v ∧ OwnS w' w.heap.size v L ∧ Below w.heap.size w w'
theorem join_ts (a : Option Addr) (la ca : Nat) (xs : List ByteArray) (s : ByteArray) (b : Option Addr) (lb cb : Nat) (ys : List ByteArray) (w : World) (ha : SlN w a la xs) (hb : SlN w b lb ys) (h1 : la ≤ 1000000) (h2 : lb ≤ 1000000) :
    Calls Try.prog 334 #[.slice a la ca, .string s, .slice b lb cb] w (RetTS w (xs ++ s :: ys)) :=
  (join_any a la ca xs s b lb cb ys w ha hb h1 h2).mono fun e w' ⟨he, hg, hbb⟩ => by
    have hl : (xs ++ s :: ys).length = la + 1 + lb := by simp only [List.length_append, List.length_cons, ha.1, hb.1]; omega
    refine ⟨_, he, ?_, hbb⟩
    rw [← hl]
    exact (SlN.of_block _ hg).ts (Nat.le_refl _) (by unfold maxLen; omega)
end Go.Proofs.Ytbjngbacnkmjhaa

namespace Go.Proofs.Ytbjngbacnkmjhaa
open Go.RowKit

theorem riseB_short : ∀ l : List ByteArray, l.length ≤ 1 → riseB l = true
  | [], _ => rfl
  | [_], _ => rfl
  | _ :: _ :: _, h => by simp at h
theorem riseB_no (a b : ByteArray) (t : List ByteArray) (h : leS b a = true) : riseB (a :: b :: t) = false := by simp [riseB, h]
theorem riseB_go (a b : ByteArray) (t : List ByteArray) (h : leS b a = false) : riseB (a :: b :: t) = riseB (b :: t) := by simp [riseB, h]

set_option maxHeartbeats 800000 in
set_option maxRecDepth 100000 in
theorem refLess_any (a : Option Addr) (len cap : Nat) (ss : List ByteArray) (x : ByteArray) (w : World) (hsl : SlN w a len ss) (hlm : len ≤ 1000000) :
    Calls Try.prog 152 #[.slice a len cap, .string x] w fun e w' => e = .returned (.int .i64 (lessN ss x : Int)) ∧ w = w' := by
  have HSL := Lib.hid hsl.2
  have HL := Lib.hid hsl.1
  clear hsl
  go_enter Try.func152, Try.ntmps152
  go_wp2
  go_loop [5, 6] (fun v i => ∃ (k n : Nat), k ≤ len ∧ i = .int .i64 (k : Int) ∧ v = .int .i64 (n : Int) ∧ n ≤ k ∧ lessN (ss.take k) x = n) (fun _ i => len - (intOf i).toNat)
  case atStart => exact ⟨0, 0, Nat.zero_le _, rfl, rfl, Nat.le_refl _, rfl⟩
  case round =>
    obtain ⟨k, n, hk, rfl, rfl, hnk, heq⟩ := hrel
    have HE := Lib.hid heq
    clear heq
    by_cases hlt : k < len
    · obtain ⟨b, off, rfl, hcell⟩ := HSL.out (by omega)
      have hkn : k < ss.length := by rw [HL.out]; exact hlt
      have hc := hcell k hkn
      have HY := fun h => Lib.hid (lessN_yes ss x k hkn h)
      have HN := fun h => Lib.hid (lessN_no ss x k hkn h)
      have HY2 := Lib.hid HY
      have HN2 := Lib.hid HN
      clear hcell HY HN
      generalize ss[k] = s at hc HY2 HN2
      cases hq : Op.bytesLess s.toList x.toList with
      | true =>
        have HR := Lib.hid ((HY2.out hq).out.trans (by rw [HE.out]))
        go_wp2
        go_round
        case rel => exact ⟨k + 1, n + 1, by omega, by go_num, by go_num, by omega, HR.out⟩
        case measure => simp [intOf]; omega
      | false =>
        have HR := Lib.hid ((HN2.out hq).out.trans HE.out)
        go_wp2
        go_round
        case rel => exact ⟨k + 1, n, by omega, by go_num, rfl, by omega, HR.out⟩
        case measure => simp [intOf]; omega
    · have HR := Lib.hid (show lessN ss x = n by rw [← HE.out, List.take_of_length_le (by rw [HL.out]; omega)])
      go_wp2
      go_ret
      exact ⟨ret_n (by rw [HR.out]), rfl⟩

theorem in_take (ss : List ByteArray) (x : ByteArray) (k : Nat) (h : k < ss.length) : inB (ss.take (k + 1)) x = (inB (ss.take k) x || (ss[k].toList == x.toList)) := by
  unfold inB
  rw [List.take_succ_eq_append_getElem h, List.any_append]
  simp
theorem in_hit (ss : List ByteArray) (x : ByteArray) (k : Nat) (h : k < ss.length) (he : (ss[k].toList == x.toList) = true) : inB ss x = true := by
  unfold inB
  rw [List.any_eq_true]
  exact ⟨ss[k], List.getElem_mem h, he⟩
set_option maxHeartbeats 800000 in
set_option maxRecDepth 100000 in
theorem refIn_any (a : Option Addr) (len cap : Nat) (ss : List ByteArray) (x : ByteArray) (w : World) (hsl : SlN w a len ss) (hlm : len ≤ 1000000) :
    Calls Try.prog 151 #[.slice a len cap, .string x] w fun e w' => e = .returned (.bool (inB ss x)) ∧ w = w' := by
  have HSL := Lib.hid hsl.2
  have HL := Lib.hid hsl.1
  clear hsl
  go_enter Try.func151, Try.ntmps151
  go_wp2
  go_loop [5] (fun i => ∃ (k : Nat), k ≤ len ∧ i = .int .i64 (k : Int) ∧ inB (ss.take k) x = false) (fun i => len - (intOf i).toNat)
  case atStart => exact ⟨0, Nat.zero_le _, rfl, rfl⟩
  case round =>
    obtain ⟨k, hk, rfl, heq⟩ := hrel
    have HE := Lib.hid heq
    clear heq
    by_cases hlt : k < len
    · obtain ⟨b, off, rfl, hcell⟩ := HSL.out (by omega)
      have hkn : k < ss.length := by rw [HL.out]; exact hlt
      have hc := hcell k hkn
      have HT := Lib.hid (in_take ss x k hkn)
      have HH := Lib.hid (in_hit ss x k hkn)
      clear hcell
      generalize ss[k] = s at hc HT HH
      cases hq : (s.toList == x.toList) with
      | true =>
        have HR := Lib.hid (HH.out hq)
        go_wp2
        go_ret
        exact ⟨ret_b2 HR.out.symm, rfl⟩
      | false =>
        have HR := Lib.hid (HT.out.trans (by rw [HE.out, hq, Bool.or_false]))
        go_wp2
        go_round
        case rel => exact ⟨k + 1, by omega, by go_num, HR.out⟩
        case measure => simp [intOf]; omega
    · have HR := Lib.hid (show inB ss x = false by rw [← HE.out, List.take_of_length_le (by rw [HL.out]; omega)])
      go_wp2
      go_ret
      exact ⟨ret_b2 HR.out.symm, rfl⟩
end Go.Proofs.Ytbjngbacnkmjhaa

namespace Go.Proofs.Ytbjngbacnkmjhaa
open Go.RowKit

set_option maxRecDepth 100000 in
set_option maxHeartbeats 800000 in
theorem clone_any (a : Option Addr) (len cap : Nat) (ss : List ByteArray) (w : World) (hsl : SlN w a len ss) (hlm : len ≤ 100000) :
    Calls Try.prog 168 #[.slice a len cap] w (RetTS w ss) := by
  have q24 : ∀ (w : World) (a : Option Addr) (n c n' c' : Nat), (binOp .eql 29 (.slice a n c) (.slice none n' c')).run Try.prog w = .ok (.bool a.isNone) w := fun w a n c n' c' => Lib.run_eql_slice_nil w _ _ a n c n' c' Try.underlying29
  have HS := Lib.hid hsl
  have hl := hsl.1
  rcases a with _ | ad
  · have h0 : ss = [] := by
      rcases Nat.eq_zero_or_pos len with h0 | h0
      · exact List.length_eq_zero_iff.1 (by omega)
      · obtain ⟨b, off, e, _⟩ := hsl.2 h0
        cases e
    subst h0
    clear hsl hl
    go_enter Try.func168, Try.ntmps168
    go_wp2
    go_ret
    exact ⟨_, rfl, TS.of_own (own_nil w 0), Below.refl _ _⟩
  · clear hsl hl
    go_enter Try.func168, Try.ntmps168
    go_wp2_with (at_builtin; refine wpList_app rfl _ _ rfl w.heap.size w ((Below.refl _ w).alloc (Nat.le_refl _) _) (by simp) _ [] rfl (own_zero w) (some ad) len cap ss rfl (HS.out.later ((Below.refl _ w).alloc (Nat.le_refl _) _)) (by simp; omega) ?_)
    intro v1 w1 HO HB HZ
    go_wp2
    go_ret
    exact ⟨v1, rfl, TS.of_own HO.out, HB.out⟩

set_option maxRecDepth 100000 in
set_option maxHeartbeats 800000 in
theorem sgrow_any (n : Nat) (w : World) (hn : n ≤ 300000) :
    Calls Try.prog 340 #[.slice none 0 0, .int .i64 (n : Int)] w (RetOwn w []) := by
  rcases Nat.eq_zero_or_pos n with rfl | hp
  · go_enter Try.func340, Try.ntmps340
    go_wp2
    go_ret
    exact ⟨_, rfl, own_nil w _, Below.refl _ _⟩
  · obtain ⟨i0, hi, hz0, hz1, hz2⟩ := info_parts info_str
    have hrz := fun ty => Lib.run_append_nil_zeros (P := Try.prog) w 29 3 ty 9 i0 (.string ⟨#[]⟩) .i64 .i64 Try.underlying29 Try.underlying3 hi hz0 n hp (by omega) (by omega) (by rw [hz2]; omega)
    have hGn : n ≤ grownCap w n 0 9 := grownCap_ge w _ _ _
    have hGm : grownCap w n 0 9 ≤ maxLen := grownCap_le_maxLen w n 0 9 (by unfold maxLen; omega)
    obtain ⟨G, hG⟩ : ∃ G, G = grownCap w n 0 9 := ⟨_, rfl⟩
    rw [← hG] at hGn hGm
    simp only [← hG] at hrz
    clear hG
    have hGm2 := hGm
    unfold maxLen at hGm2
    have h4 : (n : Int) > 0 := by omega
    have h1 : ¬ ((n : Int) < 0) := by omega
    have HRZ := Lib.hid hrz
    clear hrz hi hz0 hz1 hz2
    go_enter Try.func340, Try.ntmps340
    go_wp2_with (at_builtin; refine Lib.wpList_append_run _ rfl _ _ _ _ rfl _ _ rfl rfl _ _ (HRZ.out _) ?_)
    all_goals go_ret
    all_goals exact ⟨_, rfl, ⟨by simp, .inr ⟨w.heap.size, G, _, rfl, Nat.le_refl _, heap_alloc_new w.drew _, Nat.zero_le _, hGm, by simp [size_zeroCells]; omega, by simp⟩⟩, ((Below.refl _ w).drew).alloc (Nat.le_refl _) _⟩

set_option maxRecDepth 100000 in
set_option maxHeartbeats 1600000 in
theorem concat2_any (b : Nat) (A0 : Option Addr) (n0 c0 : Nat) (xs : List ByteArray) (A1 : Option Addr) (n1 c1 : Nat) (ys : List ByteArray) (w : World)
    (h0 : w.cell? ⟨b, 0, none⟩ = some (.slice A0 n0 c0)) (h1 : w.cell? ⟨b, 1, none⟩ = some (.slice A1 n1 c1)) (s0 : SlN w A0 n0 xs) (s1 : SlN w A1 n1 ys) (hm0 : n0 ≤ 100000) (hm1 : n1 ≤ 100000) :
    Calls Try.prog 335 #[.slice (some ⟨b, 0, none⟩) 2 2] w (RetTS w (xs ++ ys)) := by
  have H0 := Lib.hid s0
  have H1 := Lib.hid s1
  have HC0 := Lib.hid h0
  have HC1 := Lib.hid h1
  have hlt := World.block_lt_of_cell? w _ h0
  have HLT := Lib.hid (show b < w.heap.size from hlt)
  clear s0 s1 hlt
  go_enter Try.func335, Try.ntmps335
  go_wp2
  go_loop [3, 5, 11] (fun v _ i => (i = .int .i64 0 ∧ v = .int .i64 0) ∨ (i = .int .i64 1 ∧ v = .int .i64 (n0 : Int)) ∨ (i = .int .i64 2 ∧ v = .int .i64 ((n0 : Int) + (n1 : Int)))) (fun _ _ i => 2 - (intOf i).toNat)
  case atStart => exact Or.inl ⟨rfl, rfl⟩
  case round =>
    rcases hrel with ⟨rfl, rfl⟩ | ⟨rfl, rfl⟩ | ⟨rfl, rfl⟩
    · go_wp2
      go_round
      case rel => exact Or.inr (Or.inl ⟨rfl, rfl⟩)
      case measure => simp [intOf]
    · go_wp2
      go_round
      case rel => exact Or.inr (Or.inr ⟨rfl, rfl⟩)
      case measure => simp [intOf]
    · obtain ⟨N, hN⟩ : ∃ N, N = n0 + n1 := ⟨_, rfl⟩
      have hNi : (n0 : Int) + (n1 : Int) = (N : Int) := by omega
      have HN := Lib.hid hN
      clear hN h0 h1
      go_wp2_with fail
      refine (sgrow_any N w (by have := HN.out; omega)).mono ?_
      rintro e w1 ⟨v1, rfl, ho1, hb1⟩
      have HO1 := Lib.hid ho1
      have HB1 := Lib.hid hb1
      clear ho1 hb1
      go_wp2
      go_loopw [6, 8, 27] (fun v _ i wr => ∃ L : List ByteArray, OwnS wr w.heap.size v L ∧ Below w.heap.size w wr ∧ ((i = .int .i64 0 ∧ L = []) ∨ (i = .int .i64 1 ∧ L = xs) ∨ (i = .int .i64 2 ∧ L = xs ++ ys))) (fun _ _ i _ => 2 - (intOf i).toNat)
      case atStart => exact ⟨[], HO1.out, HB1.out, Or.inl ⟨rfl, rfl⟩⟩
      case round =>
        obtain ⟨L, ho, hb, hcase⟩ := hrel
        have HO := Lib.hid ho
        have HB := Lib.hid hb
        have hc0 := (hb.cell (p := ⟨b, 0, none⟩) HLT.out).trans HC0.out
        have hc1 := (hb.cell (p := ⟨b, 1, none⟩) HLT.out).trans HC1.out
        have hx0 := H0.out.1
        have hx1 := H1.out.1
        have HX0 := Lib.hid hx0
        have HX1 := Lib.hid hx1
        clear ho hb hx0 hx1 HO1 HB1
        rcases hcase with ⟨rfl, rfl⟩ | ⟨rfl, hL⟩ | ⟨rfl, hL⟩
        · go_wp2_with (at_builtin; refine wpList_app rfl _ _ rfl w.heap.size w HB.out HB.out.size _ [] rfl HO.out A0 n0 c0 xs rfl (H0.out.later HB.out) (by simp; omega) ?_)
          intro v2 w2 HO2 HB2 HZ2
          go_wp2
          go_roundw
          case rel => exact ⟨xs, HO2.out, HB2.out, Or.inr (Or.inl ⟨rfl, rfl⟩)⟩
          case measure => simp [intOf]
        · have HL := Lib.hid hL
          clear hL
          go_wp2_with (at_builtin; refine wpList_app rfl _ _ rfl w.heap.size w HB.out HB.out.size _ L rfl HO.out A1 n1 c1 ys rfl (H1.out.later HB.out) (by rw [HL.out, HX0.out]; omega) ?_)
          intro v2 w2 HO2 HB2 HZ2
          go_wp2
          go_roundw
          case rel => exact ⟨xs ++ ys, by have := HO2.out; rw [HL.out] at this; exact this, HB2.out, Or.inr (Or.inr ⟨rfl, rfl⟩)⟩
          case measure => simp [intOf]
        · have HL := Lib.hid hL
          clear hL
          go_wp2
          go_ret
          exact ⟨_, rfl, by have := TS.of_own HO.out; rw [HL.out] at this; exact this, HB.out⟩

set_option maxRecDepth 100000 in
set_option maxHeartbeats 1600000 in
theorem withNo_any (a : Option Addr) (len cap : Nat) (ss : List ByteArray) (x : ByteArray) (K : Nat) (w : World) (hsl : SlN w a len ss) (hlm : len ≤ 100000) (hlc : len ≤ cap) (hK : Cut ss x K) (hm : metB ss x K = false) :
    Calls Try.prog 324 #[.slice a len cap, .string x] w (RetTS2 w (ss.take K ++ x :: ss.drop K) true) := by
  have hkl : K ≤ len := by have := hK.1; rw [hsl.1] at this; exact this
  have HM := Lib.hid hm
  have HK := Lib.hid hK
  have HS := Lib.hid hsl
  have e1 := slice_to a len cap K (by omega)
  have e2 := slice_from a len cap K hkl
  clear hm hK hsl
  have hk0 : 0 ≤ (K : Int) := by omega
  have hk2 : (K : Int) ≤ (len : Int) := by omega
  go_enter Try.func324, Try.ntmps324
  go_wp2_with fail
  refine (find_any a len cap ss x K w HS.out (by omega) HK.out).mono ?_
  rintro e w' ⟨rfl, rfl⟩
  rw [HM.out]
  go_wp2_with fail
  go_region_with ((go_at_call 334; refine (join_ts a K cap (ss.take K) x (cutA a cap K) (len - K) (cap - K) (ss.drop K) _ ?_ ?_ (by omega) (by omega)).mono ?_; (exact HS.out.upto K hkl); (exact HS.out.cut cap K hkl hlc); rintro e w2 ⟨v2, rfl, ht, hb⟩))
  all_goals go_wp2
  all_goals go_ret2
  all_goals exact ⟨v2, rfl, ht, ((Below.refl _ w).drew).trans hb⟩

set_option maxRecDepth 100000 in
set_option maxHeartbeats 800000 in
theorem withYes_any (a : Option Addr) (len cap : Nat) (ss : List ByteArray) (x : ByteArray) (K : Nat) (w : World) (hsl : SlN w a len ss) (hlm : len ≤ 100000) (hK : Cut ss x K) (hm : metB ss x K = true) :
    Calls Try.prog 324 #[.slice a len cap, .string x] w (RetTS2 w ss false) := by
  have HM := Lib.hid hm
  have HK := Lib.hid hK
  have HS := Lib.hid hsl
  clear hm hK hsl
  go_enter Try.func324, Try.ntmps324
  go_wp2_with fail
  refine (find_any a len cap ss x K w HS.out (by omega) HK.out).mono ?_
  rintro e w' ⟨rfl, rfl⟩
  rw [HM.out]
  go_wp2_with fail
  refine (clone_any a len cap ss w HS.out hlm).mono ?_
  rintro e w2 ⟨v2, rfl, ht, hb⟩
  go_wp2
  go_ret2
  exact ⟨v2, rfl, ht, hb⟩

set_option maxRecDepth 100000 in
set_option maxHeartbeats 800000 in
theorem withoutNo_any (a : Option Addr) (len cap : Nat) (ss : List ByteArray) (x : ByteArray) (K : Nat) (w : World) (hsl : SlN w a len ss) (hlm : len ≤ 100000) (hK : Cut ss x K) (hm : metB ss x K = false) :
    Calls Try.prog 325 #[.slice a len cap, .string x] w (RetTS2 w ss false) := by
  have HM := Lib.hid hm
  have HK := Lib.hid hK
  have HS := Lib.hid hsl
  clear hm hK hsl
  go_enter Try.func325, Try.ntmps325
  go_wp2_with fail
  refine (find_any a len cap ss x K w HS.out (by omega) HK.out).mono ?_
  rintro e w' ⟨rfl, rfl⟩
  rw [HM.out]
  go_wp2_with fail
  refine (clone_any a len cap ss w HS.out hlm).mono ?_
  rintro e w2 ⟨v2, rfl, ht, hb⟩
  go_wp2
  go_ret2
  exact ⟨v2, rfl, ht, hb⟩

theorem two_cells (w : World) (x y : Value) (t : TypeId) : (w.alloc (.cells #[x, y] t)).drew.cell? ⟨w.heap.size, 0, none⟩ = some x ∧ (w.alloc (.cells #[x, y] t)).drew.cell? ⟨w.heap.size, 1, none⟩ = some y := by
  constructor
  · show (w.alloc (.cells #[x, y] t)).cell? _ = _
    rw [cell_of_row _ _ _ _ _ _ (MapKept.heap_alloc w (.cells #[x, y] t)).1]
    rfl
  · show (w.alloc (.cells #[x, y] t)).cell? _ = _
    rw [cell_of_row _ _ _ _ _ _ (MapKept.heap_alloc w (.cells #[x, y] t)).1]
    rfl
set_option maxRecDepth 100000 in
set_option maxHeartbeats 1600000 in
theorem withoutYes_any (a : Option Addr) (len cap : Nat) (ss : List ByteArray) (x : ByteArray) (K : Nat) (w : World) (hsl : SlN w a len ss) (hlm : len ≤ 100000) (hlc : len ≤ cap) (hK : Cut ss x K) (hm : metB ss x K = true) :
    Calls Try.prog 325 #[.slice a len cap, .string x] w (RetTS2 w (ss.take K ++ ss.drop (K + 1)) true) := by
  obtain ⟨hks, _⟩ := met_at hm
  have hkl : K < len := by rw [hsl.1] at hks; exact hks
  have HM := Lib.hid hm
  have HK := Lib.hid hK
  have HS := Lib.hid hsl
  have e1 := slice_to a len cap K (by omega)
  have e2 := slice_at a len cap (K + 1) ((K : Int) + 1) (by omega) (by omega)
  clear hm hK hsl
  have hk0 : 0 ≤ (K : Int) := by omega
  have hk2 : (K : Int) + 1 ≤ (len : Int) := by omega
  have hk3 : (K : Int) ≤ 100000 := by omega
  have hk4 : IntKind.i64.wrap ((K : Int) + 1) = (K : Int) + 1 := by rw [IntKind.wrap_i64]; omega
  go_enter Try.func325, Try.ntmps325
  go_wp2_with fail
  refine (find_any a len cap ss x K w HS.out (by omega) HK.out).mono ?_
  rintro e w' ⟨rfl, rfl⟩
  rw [HM.out]
  go_wp2_with fail
  go_region_with ((go_at_call 335; refine (concat2_any w.heap.size a K cap (ss.take K) (cutA a cap (K + 1)) (len - (K + 1)) (cap - (K + 1)) (ss.drop (K + 1)) _ ?_ ?_ ?_ ?_ (by omega) (by omega)).mono ?_; (exact (two_cells w _ _ _).1); (exact (two_cells w _ _ _).2); (exact (HS.out.upto K (by omega)).later (((Below.refl _ w).alloc (Nat.le_refl _) _).drew)); (exact (HS.out.cut cap (K + 1) hkl hlc).later (((Below.refl _ w).alloc (Nat.le_refl _) _).drew)); rintro e w2 ⟨v2, rfl, ht, hb⟩))
  all_goals go_wp2
  all_goals go_ret2
  all_goals exact ⟨v2, rfl, ht, (((Below.refl _ w).alloc (Nat.le_refl _) _).drew).trans (hb.mono (by simp))⟩
end Go.Proofs.Ytbjngbacnkmjhaa

namespace Go.Proofs.Ytbjngbacnkmjhaa
open Go.RowKit

theorem slice_one (a : Option Addr) (n c : Nat) (hk : 1 ≤ n) (W : World) : (Instr.slice 29 (.slice a n c) (some (.int .i64 1)) none none).run Try.prog W = .ok (.slice (cutA a c 1) (n - 1) (c - 1)) W := slice_from a n c 1 hk W
end Go.Proofs.Ytbjngbacnkmjhaa

namespace Go.Proofs.Ytbjngbacnkmjhaa
open Go.RowKit

theorem new_one (w : World) (o : Obj) : (w.alloc o).drew.heap[w.heap.size]? = some o := (MapKept.heap_alloc w o).1
theorem new_two (w : World) (o p : Obj) : ((w.alloc o).alloc p).drew.heap[w.heap.size]? = some o ∧ ((w.alloc o).alloc p).drew.heap[w.heap.size + 1]? = some p := by
  constructor
  · show ((w.heap.push o).push p)[w.heap.size]? = _
    rw [Array.getElem?_push]
    simp
  · show ((w.heap.push o).push p)[w.heap.size + 1]? = _
    rw [Array.getElem?_push]
    simp
theorem bel_one (w : World) (o : Obj) : Below w.heap.size w (w.alloc o).drew := ((Below.refl _ w).alloc (Nat.le_refl _) o).drew
theorem bel_two (w : World) (o p : Obj) : Below w.heap.size w ((w.alloc o).alloc p).drew := (((Below.refl _ w).alloc (Nat.le_refl _) o).alloc (by simp) p).drew
theorem siz_one (w : World) (o : Obj) : w.heap.size < (w.alloc o).drew.heap.size := by show _ < (w.heap.push o).size; simp
theorem siz_two (w : World) (o p : Obj) : w.heap.size + 1 < ((w.alloc o).alloc p).drew.heap.size := by show _ < ((w.heap.push o).push p).size; simp
theorem siz_old (w : World) (o p : Obj) : w.heap.size < ((w.alloc o).alloc p).drew.heap.size := Nat.lt_of_succ_lt (siz_two w o p)
theorem own_neN {p q : Nat} (h : p ≠ q) (n c : Nat) : some p ≠ (Value.slice (some ⟨q, 0, none⟩) n c).ownBlock := fun e => h (by simpa [Value.ownBlock] using e)

set_option maxRecDepth 100000 in
set_option maxHeartbeats 4000000 in
theorem refWith_any (a : Option Addr) (len cap : Nat) (ss : List ByteArray) (x : ByteArray) (w : World) (hsl : SlN w a len ss) (hlm : len ≤ 100000) (hlc : len ≤ cap) (hcm : cap ≤ maxLen) :
    Calls Try.prog 68 #[.slice a len cap, .string x] w (RetTS w (withL ss x)) := by
  cases hq : inB ss x with
  | true =>
    have HQ := Lib.hid hq
    have HW := Lib.hid (with_yes hq)
    have HS := Lib.hid hsl
    clear hq hsl
    go_enter Try.func68, Try.ntmps68
    go_wp2_with fail
    refine (refIn_any a len cap ss x _ HS.out (by omega)).mono ?_
    rintro e w' ⟨rfl, rfl⟩
    rw [HQ.out]
    go_wp2
    go_ret
    exact ⟨_, rfl, by rw [HW.out]; exact HS.out.ts hlc hcm, Below.refl _ _⟩
  | false =>
    have HQ := Lib.hid hq
    have HW := Lib.hid (with_no hq)
    have HS := Lib.hid hsl
    have hkl : lessN ss x ≤ len := by have := lessN_le ss x; rw [hsl.1] at this; exact this
    have hl := hsl.1
    clear hq hsl
    obtain ⟨K, hK⟩ : ∃ K, K = lessN ss x := ⟨_, rfl⟩
    have HL := Lib.hid (refLess_any a len cap ss x w HS.out (by omega))
    rw [← hK] at HL HW hkl
    clear hK
    have e1 := slice_to a len cap K (by omega)
    have e2 := slice_from a len cap K hkl
    have hk0 : 0 ≤ (K : Int) := by omega
    have hk2 : (K : Int) ≤ (len : Int) := by omega
    have HT := Lib.hid (show (ss.take K).length = K by rw [List.length_take, hl]; omega)
    clear hl
    go_enter Try.func68, Try.ntmps68
    go_wp2_with fail
    refine (refIn_any a len cap ss x _ HS.out (by omega)).mono ?_
    rintro e w' ⟨rfl, rfl⟩
    rw [HQ.out]
    go_wp2_with fail
    refine HL.out.mono ?_
    rintro e w' ⟨rfl, rfl⟩
    go_wp2_with fail
    go_region_law (first
      | ((refine step_appg ?_ (.tmp 13) (.tmp 16) ?_ w.heap.size w ?_ ?_ (.slice (some ⟨w.heap.size, 0, none⟩) 0 0) [] ?_ (own_zero_at ?_ (Nat.le_refl _)) a K cap (ss.take K) ?_ ((HS.out.upto K hkl).later ?_) ?_ ?_; (rfl); (rfl); (first | exact bel_one _ _ | exact bel_two _ _ _); (first | exact Nat.le_of_lt (siz_one _ _) | exact Nat.le_of_lt (siz_old _ _ _)); (rfl); (first | exact new_one _ _ | exact (new_two _ _ _).1 | exact (new_two _ _ _).2); (rfl); (first | exact bel_one _ _ | exact bel_two _ _ _); (simp only [List.length_nil]; omega); intro v1 w1 HO1 HB1 HZ1 HG1))
      | ((refine step_appg ?_ (.tmp 13) (.tmp 16) ?_ w.heap.size w ?_ ?_ (.slice (some ⟨w.heap.size + 1, 0, none⟩) 0 0) [] ?_ (own_zero_at ?_ (Nat.le_succ _)) a K cap (ss.take K) ?_ ((HS.out.upto K hkl).later ?_) ?_ ?_; (rfl); (rfl); (first | exact bel_one _ _ | exact bel_two _ _ _); (first | exact Nat.le_of_lt (siz_one _ _) | exact Nat.le_of_lt (siz_old _ _ _)); (rfl); (first | exact new_one _ _ | exact (new_two _ _ _).1 | exact (new_two _ _ _).2); (rfl); (first | exact bel_one _ _ | exact bel_two _ _ _); (simp only [List.length_nil]; omega); intro v1 w1 HO1 HB1 HZ1 HG1))
      | ((refine step_appg ?_ (.tmp 17) (.tmp 19) ?_ w.heap.size w (HB1.out.alloc HZ1.out _) ?_ v1 (ss.take K) ?_ (HO1.out.alloc _) (some ⟨w1.heap.size, 0, none⟩) 1 1 [x] ?_ (sl_one _ x) ?_ ?_; (rfl); (rfl); (have := HZ1.out; simp; omega); (rfl); (rfl); (rw [HT.out]; omega); intro v2 w2 HO2 HB2 HZ2 HG2))
      | ((refine step_appg ?_ (.tmp 17) (.tmp 19) ?_ w.heap.size w HB1.out HZ1.out v1 (ss.take K) ?_ HO1.out (some ⟨w.heap.size + 1, 0, none⟩) 1 1 [x] ?_ (sl_one_at ((HG1.out.block _ (siz_two _ _ _) (own_neN ?_ _ _)).trans ?_)) ?_ ?_; (rfl); (rfl); (rfl); (rfl); (omega); (first | exact new_one _ _ | exact (new_two _ _ _).1 | exact (new_two _ _ _).2); (rw [HT.out]; omega); intro v2 w2 HO2 HB2 HZ2 HG2))
      | ((refine step_appg ?_ (.tmp 17) (.tmp 19) ?_ w.heap.size w HB1.out HZ1.out v1 (ss.take K) ?_ HO1.out (some ⟨w.heap.size, 0, none⟩) 1 1 [x] ?_ (sl_one_at ((HG1.out.block _ (siz_old _ _ _) (own_neN ?_ _ _)).trans ?_)) ?_ ?_; (rfl); (rfl); (rfl); (rfl); (omega); (first | exact new_one _ _ | exact (new_two _ _ _).1 | exact (new_two _ _ _).2); (rw [HT.out]; omega); intro v2 w2 HO2 HB2 HZ2 HG2))
      | ((refine step_appg ?_ (.tmp 20) (.tmp 23) ?_ w.heap.size w HB2.out HZ2.out v2 (ss.take K ++ [x]) ?_ HO2.out (cutA a cap K) (len - K) (cap - K) (ss.drop K) ?_ ((HS.out.cut cap K hkl hlc).later HB2.out) ?_ ?_; (rfl); (rfl); (rfl); (rfl); (rw [List.length_append, HT.out]; simp; omega); intro v3 w3 HO3 HB3 HZ3 HG3)))
    all_goals go_wp2
    all_goals go_ret
    all_goals exact ⟨v3, rfl, by have := TS.of_own HO3.out; rw [HW.out]; simpa using this, HB3.out⟩

end Go.Proofs.Ytbjngbacnkmjhaa


namespace Go.Proofs.Ytbjngbacnkmjhaa
open Go.RowKit

theorem OwnS.drewN {w : World} {B : Nat} {v : Value} {L : List ByteArray} (h : OwnS w B v L) (n : Nat) : OwnS (w.drewN n) B v L := h
theorem SlN.drewN {w : World} {a : Option Addr} {n : Nat} {L : List ByteArray} (h : SlN w a n L) (k : Nat) : SlN (w.drewN k) a n L := h
theorem bel_drewN {B : Nat} {a w : World} (h : Below B a w) (n : Nat) : Below B a (w.drewN n) := ⟨h.os, h.tape, h.output, h.size, h.block⟩
def lenV : Value → Nat
  | .slice _ n _ => n
  | _ => 0
theorem make_cap (w : World) (n : Nat) (hn : n ≤ 3000000) : (Instr.makeSlice 29 (.int .i64 0) (.int .i64 (n : Int))).run Try.prog w = .ok (.slice (some ⟨w.heap.size, 0, none⟩) 0 n) (w.alloc (.cells (emp n).toArray 9)) := by
  obtain ⟨i0, hi, hz0, hz1, hz2⟩ := info_parts info_str
  have h := run_make (P := Try.prog) w 29 9 i0 (.string ⟨#[]⟩) Try.underlying29 hi hz0 .i64 .i64 0 (n : Int) (by omega) (by omega) (by rw [hz2]; omega) (by omega)
  rw [h, hz1]
  simp only [Int.toNat_natCast]
  rw [made_emp]
  rfl
theorem own_cap (w : World) (n : Nat) (hn : n ≤ 3000000) : OwnS (w.alloc (.cells (emp n).toArray 9)) w.heap.size (.slice (some ⟨w.heap.size, 0, none⟩) 0 n) [] :=
  World.ownsRow_made w _ n (Nat.le_refl _) (by unfold maxLen; omega) (by simp [emp])
theorem step_min {ops : Array Oper} {o : Oper} {a : Act} {K : Act → World → Prop} {Q : Exit → Act → World → Prop} {E : Prop} {w : World} (hgd : o.guard = none) (s x : Operand) (ts : Array TypeId)
    (ho : o.op = .call { callee := .builtin .min, args := #[s, x], argTypes := ts }) (u v z : ByteArray) (hs : a.eval s = .string u) (hx : a.eval x = .string v) (hz : Lib.minS u v = z)
    (h : K (a.put o.dst (.string z)) w) : if Region.wanted o (yielded ops a.tmps) = true then Oper.wp Try.prog o a w K Q else E := by
  have hw : Region.wanted o (yielded ops a.tmps) = true := by simp [Region.wanted, hgd]
  rw [if_pos hw]
  subst hz
  unfold Oper.wp execOp
  simp only [ho, resolve, invoke, builtin, Sem.run_bind, Sem.run_pure, Result.andThen_ok, List.map_toArray, List.map_cons, List.map_nil, hs, hx, Lib.run_min_strs]
  exact h
theorem min_lt {x y : ByteArray} (h : Op.bytesLess x.toList y.toList = true) : Lib.minS x y = x := by
  rw [Proofs.bytesLess_eq, ByteArray.toList_eq, ByteArray.toList_eq] at h
  exact if_pos (Or.inl (of_decide_eq_true h))
theorem min_eq {x y : ByteArray} (h : (x.toList == y.toList) = true) : Lib.minS x y = x := by
  rw [beq_iff_eq, ByteArray.toList_eq, ByteArray.toList_eq] at h
  exact if_pos (Or.inr h)
theorem min_gt {x y : ByteArray} (h : Op.bytesLess x.toList y.toList = false) (h2 : (x.toList == y.toList) = false) : Lib.minS x y = y := by
  rw [Proofs.bytesLess_eq, ByteArray.toList_eq, ByteArray.toList_eq] at h
  rw [beq_eq_false_iff_ne, ByteArray.toList_eq, ByteArray.toList_eq] at h2
  exact if_neg (fun e => e.elim (of_decide_eq_false h) h2)
/-- what All carries from round to round -/
def AllR (w : World) (xs ys : List ByteArray) (v0 v1 row : Value) (wr : World) : Prop :=
  ∃ (A : Option Addr) (n c : Nat) (xs' : List ByteArray) (B : Option Addr) (m d : Nat) (ys' L : List ByteArray), v0 = .slice A n c ∧ v1 = .slice B m d ∧ SlN w A n xs' ∧ n ≤ c ∧ SlN w B m ys' ∧ m ≤ d ∧
    OwnS wr w.heap.size row L ∧ Below w.heap.size w wr ∧ mergeL xs ys = L ++ mergeL xs' ys' ∧ L.length + n + m ≤ 200000

theorem find_all (a : Option Addr) (len cap : Nat) (ss : List ByteArray) (x : ByteArray) (w : World) (hsl : SlN w a len ss) (hlm : len ≤ 1000000) (hr : Rise ss) :
    Calls Try.prog 333 #[.slice a len cap, .string x] w fun e w' => e = .returned (.tuple #[.int .i64 (lessN ss x : Int), .bool (inB ss x)]) ∧ w = w' := by
  rw [← in_met hr]
  exact find_any a len cap ss x (lessN ss x) w hsl hlm (cut_of ss x hr)
theorem with_all (a : Option Addr) (len cap : Nat) (ss : List ByteArray) (x : ByteArray) (w : World) (hsl : SlN w a len ss) (hlm : len ≤ 100000) (hlc : len ≤ cap) (hr : Rise ss) :
    Calls Try.prog 324 #[.slice a len cap, .string x] w (RetTS2 w (withL ss x) (!inB ss x)) := by
  cases hq : inB ss x with
  | true => rw [with_yes hq]; exact withYes_any a len cap ss x _ w hsl hlm (cut_of ss x hr) ((in_met hr).trans hq)
  | false => rw [with_no hq]; exact withNo_any a len cap ss x _ w hsl hlm hlc (cut_of ss x hr) ((in_met hr).trans hq)
theorem without_all (a : Option Addr) (len cap : Nat) (ss : List ByteArray) (x : ByteArray) (w : World) (hsl : SlN w a len ss) (hlm : len ≤ 100000) (hlc : len ≤ cap) (hr : Rise ss) :
    Calls Try.prog 325 #[.slice a len cap, .string x] w (RetTS2 w (onlyL ss [x]) (inB ss x)) := by
  cases hq : inB ss x with
  | true =>
    have hm := (in_met hr).trans hq
    rw [← wo_yes hr hm]
    exact withoutYes_any a len cap ss x _ w hsl hlm hlc (cut_of ss x hr) hm
  | false =>
    have h := withoutNo_any a len cap ss x _ w hsl hlm (cut_of ss x hr) ((in_met hr).trans hq)
    rw [← wo_no hq]
    exact h
/-- a call that answers true; one that answers a bool -/
def RetB (w : World) (b : Bool) (e : Ending) (w' : World) : Prop := e = .returned (.bool b) ∧ Below w.heap.size w w'
theorem texts_ts (va vb : Value) (L : List ByteArray) (w : World) (ha : TS w va L) (hb : TS w vb L) (hl : L.length ≤ 1000000) :
    Calls Try.prog 69 #[va, vb] w (RetB w true) := by
  obtain ⟨a, c, rfl, hs, _, _⟩ := ha
  obtain ⟨b, d, rfl, ht, _, _⟩ := hb
  refine (texts_same a c b d L.length L w hs ht hl).mono ?_
  rintro e w' ⟨rfl, q, rfl⟩
  exact ⟨rfl, bel_drewN (Below.refl _ _) q⟩
theorem own_zero_b (w : World) (B : Nat) (h : B ≤ w.heap.size) : OwnS (w.alloc (.cells #[] 9)) B (.slice (some ⟨w.heap.size, 0, none⟩) 0 0) [] := own_zero_at (MapKept.heap_alloc w _).1 h
theorem merge_len {a b : List ByteArray} (ha : Rise a) (hb : Rise b) : (mergeL a b).length ≤ a.length + b.length := by rw [← all_merge ha hb]; exact fold_len b a
end Go.Proofs.Ytbjngbacnkmjhaa
