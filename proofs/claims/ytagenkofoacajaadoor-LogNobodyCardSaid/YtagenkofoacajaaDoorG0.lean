/- Several texts of one family, merged for a claim. Conditions as in its parts. -/
import Derived.Test.YtagenkofoacajaaDoorDLr
import Derived.Lib.MinMax
import Derived.Laws.MakeOwn
import Derived.Test.YtagenkofoacajaaDoorSr
import Derived.Laws.CopyOwn
namespace Go.Proofs.YtagenkofoacajaaDoor
open Go.RowKit Vi

theorem mayI_ok {SS : List ByteArray} {CC : List Wr} (h : mayI SS CC = true) : ∀ x ∈ CC, 0 ≤ x.1 ∧ x.1 < (SS.length : Int) ∧ x.2.size = 128 := by
  intro x hx
  unfold mayI at h
  simp only [Bool.and_eq_true, Bool.not_eq_true'] at h
  have h4 := h.2.2.2
  have h5 : badW SS.length x = false := by
    cases q : badW SS.length x with
    | false => rfl
    | true => rw [List.any_eq_true.2 ⟨x, hx, q⟩] at h4; cases h4
  unfold badW at h5
  exact dck_ok (by simpa using h5)
/-- a disk that has just been made -/
def NewD (SS : List ByteArray) (CC : List Wr) (w : World) (e : Ending) (w' : World) : Prop := ∃ D, e = .returned (.tuple #[.pointer (some ⟨D, 0, none⟩), .int .i64 0]) ∧ DK D SS CC false 0 0 w' ∧ (∀ b, InD D w' b → w.heap.size ≤ b) ∧ Below w.heap.size w w'
def NoD (w : World) (e : Ending) (w' : World) : Prop := e = .returned (.tuple #[.pointer none, .int .i64 2]) ∧ Below w.heap.size w w'
theorem own_ge {α : Type} {f : α → List Value} {s : Nat} {T : TypeId} {w : World} {B g o n c : Nat} {l : List α} (h : OwX f s T w B (.slice (some ⟨g, o, none⟩) n c) l) : B ≤ g := by
  rcases h.2 with ⟨e, _⟩ | ⟨g', cap, cur, e, hb, h4, _⟩
  · cases e
  · injection e with e _ _
    injection e with e
    injection e with e _ _
    subst e
    exact hb
def LoadR (b : Bool) (SS : List ByteArray) (CC : List Wr) (w : World) (e : Ending) (w' : World) : Prop := (b = true → NewD SS CC w e w') ∧ (b = false → NoD w e w')
set_option maxRecDepth 100000 in
set_option maxHeartbeats 2000000 in
theorem dload_any (A : Option Addr) (c : Nat) (A2 : Option Addr) (c2 : Nat) (SS : List ByteArray) (CC : List Wr) (w : World) (h2 : RdX stC 1 w A SS.length SS) (h3 : RdX wrC 2 w A2 CC.length CC) (hs : SS.length ≤ 100000) (hc : CC.length ≤ 100000) (b : Bool) (hb : b = mayI SS CC) :
    Calls Tryd.prog 64 #[.agg #[.slice A SS.length c, .slice A2 CC.length c2]] w (LoadR b SS CC w) := by
  obtain ⟨o1, ho1⟩ : ∃ o : Obj, o = .cells #[.slice A SS.length c, .slice A2 CC.length c2] 94 (0, 0) := ⟨_, rfl⟩
  obtain ⟨o2, ho2⟩ : ∃ o : Obj, o = .cells #[.slice A SS.length c, .slice A2 CC.length c2] 97 (0, 0) := ⟨_, rfl⟩
  have HB0 := Lib.hid (((Below.refl w.heap.size w).alloc (Nat.le_refl _) o1).alloc (by simp) o2)
  have HX0 : Hid (((w.alloc o1).alloc o2).heap[w.heap.size + 1]? = some o2) := Lib.hid (two_blk w o1 o2)
  have H2 := Lib.hid h2
  have H3 := Lib.hid h3
  have HOK := Lib.hid (fun q : b = true => mayI_ok (hb.symm.trans q))
  subst ho2
  have HM := Lib.hid (dmay_any (w.heap.size + 1) A c A2 c2 SS CC _ ((cell_of_row _ _ 0 _ _ _ HX0.out).trans rfl) ((cell_of_row _ _ 1 _ _ _ HX0.out).trans rfl) (h2.below HB0.out) (h3.below HB0.out) hs hc)
  rw [← hb] at HM
  clear h2 h3 hb
  subst ho1
  go_enter Tryd.func64, Tryd.ntmps64
  go_wp2_with fail
  refine HM.out.mono ?_
  rintro e w1 ⟨rfl, hb1⟩
  have HB1 := Lib.hid (HB0.out.trans (hb1.mono HB0.out.size))
  have HX1 := Lib.hid (blk_below HX0.out hb1)
  have H21 := Lib.hid (H2.out.below HB1.out)
  have H31 := Lib.hid (H3.out.below HB1.out)
  clear hb1
  cases b with
  | false =>
    go_wp2_with fail
    go_ret2
    exact ⟨(fun q => by cases q), fun _ => ⟨rfl, HB1.out⟩⟩
  | true =>
    have HC := Lib.hid (dcopy_any (w.heap.size + 1) A SS.length c A2 CC.length c2 SS CC w1 ((cell_of_row _ _ 0 _ _ _ HX1.out).trans rfl) ((cell_of_row _ _ 1 _ _ _ HX1.out).trans rfl) H21.out H31.out hs hc)
    go_wp2_with fail
    refine HC.out.mono ?_
    rintro e w2 ⟨B1, n1, k1, B2, n2, k2, rfl, ho1, ho2, hb⟩
    have HO1 := Lib.hid ho1
    have HO2 := Lib.hid ho2
    have HB2 := Lib.hid (HB1.out.trans (hb.mono HB1.out.size))
    clear ho1 ho2 hb
    go_wp2_with fail
    have HD : Hid ((w2.alloc (dkO B1 n1 k1 B2 n2 k2 true false 0 0)).heap[w2.heap.size]? = some (dkO B1 n1 k1 B2 n2 k2 true false 0 0)) := Lib.hid (blk_new w2 _)
    have hz := HB1.out.size
    have hz2 := HB2.out.size
    go_ret2
    exact ⟨fun _ => ⟨w2.heap.size, rfl, ⟨⟨B1, n1, k1, B2, n2, k2, HD.out, (HO1.out.alloc _).mono (Nat.zero_le _), (HO2.out.alloc _).mono (Nat.zero_le _)⟩, HOK.out (by first | rfl | trivial)⟩, fun b q => by
      rcases q.cases HD.out with q | ⟨o, q⟩ | ⟨o, q⟩
      · subst q; exact hz2
      · subst q; have := own_ge HO1.out; omega
      · subst q; have := own_ge HO2.out; omega, HB2.out.alloc hz2 _⟩, (fun q => by cases q)⟩
end Go.Proofs.YtagenkofoacajaaDoor

namespace Go.Proofs.YtagenkofoacajaaDoor
open Go.RowKit Vi

theorem rd_grown {α : Type} {f : α → List Value} {s : Nat} {w w' : World} {A : Option Addr} {n : Nat} {l : List α} (h : RdX f s w A n l) (hb : Below w.heap.size w w') : RdX f s w' A n l := h.below hb
end Go.Proofs.YtagenkofoacajaaDoor

namespace Go.Proofs.YtagenkofoacajaaDoor
open Go.RowKit Vi

/-- what a disk is: safe sectors, cached writes, what is armed, whether the power is gone, how much was done -/
structure Ds where
  S : List ByteArray
  C : List Wr
  ar : Int
  go : Bool
  op : Int
/-- a row that reads as a list, in a block of which P says something -/
def RdP {α : Type} (P : Nat → Prop) (f : α → List Value) (s : Nat) (w : World) (A : Option Addr) (n : Nat) (l : List α) : Prop := RdX f s w A n l ∧ (0 < n → ∀ b o, A = some ⟨b, o, none⟩ → P b)
theorem RdP.below {α : Type} {P : Nat → Prop} {f : α → List Value} {s : Nat} {w w' : World} {A : Option Addr} {n : Nat} {l : List α} (h : RdP P f s w A n l) (hb : Below w.heap.size w w') : RdP P f s w' A n l := ⟨h.1.below hb, h.2⟩
theorem OwX.rdP {α : Type} {P : Nat → Prop} {f : α → List Value} {s : Nat} {T : TypeId} {w : World} {B n c : Nat} {A : Option Addr} {l : List α} (hf : ∀ x, (f x).length = s) (hP : ∀ b, B ≤ b → P b) (h : OwX f s T w B (.slice A n c) l) : RdP P f s w A n l := by
  obtain ⟨A', c', e, hr, _, _⟩ := h.rd hf
  injection e with e1 e2 e3
  subst e1 e2 e3
  exact ⟨hr, fun _ b o e => by subst e; exact hP b (own_ge h)⟩
theorem OwX.oth {α : Type} {f : α → List Value} {s : Nat} {T T' : TypeId} {w w' : World} {B g : Nat} {v : Value} {l : List α} {cs : Array Value} {fr : Nat × Nat} (h : OwX f s T w B v l) (ho : ∀ k, k ≠ g → w'.heap[k]? = w.heap[k]?) (hg : w.heap[g]? = some (.cells cs T' fr)) (hT : T ≠ T') : OwX f s T w' B v l := by
  rcases h with ⟨h1, h | ⟨b, cap, cur, h2, h3, h4, h5⟩⟩
  · exact ⟨h1, .inl h⟩
  · refine ⟨h1, .inr ⟨b, cap, cur, h2, h3, (ho b (fun e => ?_)).trans h4, h5⟩⟩
    subst e
    rw [hg] at h4
    cases h4
    exact hT rfl
abbrev rdv (A : Option Addr) (n c : Nat) (A2 : Option Addr) (n2 c2 : Nat) (ar : Int) (go : Bool) (op : Int) : Value := .agg #[.slice A n c, .slice A2 n2 c2, .int .i64 ar, .bool go, .int .i64 op]
/-- a value is the document's disk -/
def RdR (P : Nat → Prop) (d : Ds) (w : World) (v : Value) : Prop := ∃ A n c A2 n2 c2, v = rdv A n c A2 n2 c2 d.ar d.go d.op ∧ RdP P stC 1 w A n d.S ∧ RdP P wrC 2 w A2 n2 d.C
def Ds.step (d : Ds) : Ds := if d.ar = 1 then { d with ar := 0, go := true } else { d with ar := max (d.ar - 1) 0, op := d.op + 1 }
/-- a disk, and a number, are handed back -/
def RetDI (P : Nat → Prop) (d : Ds) (z : Int) (w : World) (e : Ending) (w' : World) : Prop := ∃ v, e = .returned (.tuple #[v, .int .i64 z]) ∧ RdR P d w' v ∧ Below w.heap.size w w'
/-- what step hands back: the same rows -/
def StepP (A : Option Addr) (n c : Nat) (A2 : Option Addr) (n2 c2 : Nat) (d : Ds) (w : World) (e : Ending) (w' : World) : Prop := e = .returned (.tuple #[rdv A n c A2 n2 c2 d.step.ar d.step.go d.step.op, .bool (decide (d.ar = 1))]) ∧ Below w.heap.size w w'
def RetDB (P : Nat → Prop) (d : Ds) (z : Bool) (w : World) (e : Ending) (w' : World) : Prop := ∃ v, e = .returned (.tuple #[v, .bool z]) ∧ RdR P d w' v ∧ Below w.heap.size w w'
def RetD (P : Nat → Prop) (d : Ds) (w : World) (e : Ending) (w' : World) : Prop := ∃ v, e = .returned v ∧ RdR P d w' v ∧ Below w.heap.size w w'
end Go.Proofs.YtagenkofoacajaaDoor

namespace Go.Proofs.YtagenkofoacajaaDoor
open Go.RowKit Vi

theorem shwL_take (i : Int) (CC : List Wr) (k : Nat) (hk : k < CC.length) (s : ByteArray) : shwL i (CC.take (k + 1)) s = if CC[k].1 = i then CC[k].2 else shwL i (CC.take k) s := by
  rw [List.take_succ_eq_append_getElem hk, shwL_snoc]
/-- all are kept -/
def allK : Nat → Bool := fun _ => true
theorem info_im : (Tryd.prog.info? 94).map (·.size) = some 2 := by kernel_rfl
/-- the sectors that are safe then, and no cache -/
def DoneP (SS : List ByteArray) (w : World) (e : Ending) (w' : World) : Prop := ∃ A n c, e = .returned (.agg #[.slice A n c, .slice none 0 0]) ∧ OwX stC 1 9 w' w.heap.size (.slice A n c) SS ∧ Below w.heap.size w w'
end Go.Proofs.YtagenkofoacajaaDoor

namespace Go.Proofs.YtagenkofoacajaaDoor
open Go.RowKit Vi

/-- a number is a block's beyond a world's end -/
theorem step_false (SS : List ByteArray) (CC : List Wr) (ar op : Int) : Ds.step ⟨SS, CC, ar, false, op⟩ = ⟨SS, CC, stpF ar, stpD ar, stpO op ar⟩ := by
  unfold Ds.step stpF stpD stpO
  by_cases h : ar = 1
  · rw [if_pos h, if_pos h, if_pos h, decide_eq_true h]
  · rw [if_neg h, if_neg h, if_neg h, decide_eq_false h]
end Go.Proofs.YtagenkofoacajaaDoor

namespace Go.Proofs.YtagenkofoacajaaDoor
open Go.RowKit Vi

/-- the sectors that are safe behind a flush -/
def flsS (ar : Int) (SS : List ByteArray) (CC : List Wr) : List ByteArray := if ar = 1 then SS else setP allK 0 CC SS
end Go.Proofs.YtagenkofoacajaaDoor

namespace Go.Proofs.YtagenkofoacajaaDoor
open Go.RowKit Vi

theorem results_cttY {fn : Func} {p t u : Tmp} {ty : TypeId} (h : fn.results = #[.cell p ty, .tmp t, .tmp u]) (tmps : Array Value) (w : World) (g : Nat) (cs : Array Value)
    (hp : tmps.getD p undef = .pointer (some ⟨g, 0, none⟩)) (hr : (loadVar ty ⟨g, 0, none⟩).run Tryd.prog w = .ok (.agg cs) w) :
    (results fn tmps).run Tryd.prog w = .ok (.tuple #[.agg cs, tmps.getD t undef, tmps.getD u undef]) w := by
  have hp' : tmps[p]?.getD undef = .pointer (some ⟨g, 0, none⟩) := by simpa using hp
  simp [results, h, hp', asAddr, hr]
/-- a disk, a text, and a number are handed back -/
def RetDSI (P : Nat → Prop) (d : Ds) (s : ByteArray) (z : Int) (w : World) (e : Ending) (w' : World) : Prop := ∃ v, e = .returned (.tuple #[v, .string s, .int .i64 z]) ∧ RdR P d w' v ∧ Below w.heap.size w w'
end Go.Proofs.YtagenkofoacajaaDoor

namespace Go.Proofs.YtagenkofoacajaaDoor
open Go.RowKit Vi

theorem info_u8D : (Tryd.prog.info? 5).map (fun i => (i.zero, i.size, i.bytes)) = some (some (.int .u8 0), 1, 1) := by kernel_rfl
def zsD (n : Nat) : List UInt8 := List.replicate n 0
theorem made_zsD (n : Nat) : madeCells (Value.int .u8 0).cells (n * 1) = ((zsD n).map fun c => Value.int .u8 (c.toNat : Int)).toArray := by
  unfold zsD madeCells Value.cells
  apply Array.ext
  · simp
  · intro j h1 h2; simp [Nat.mod_one]
theorem make_zsD (n : Nat) (hn : n ≤ 3000000) (w : World) : (Instr.makeSlice 95 (.int .i64 (n : Int)) (.int .i64 (n : Int))).run Tryd.prog w = .ok (.slice (some ⟨w.heap.size, 0, none⟩) n n) (w.alloc (.cells ((zsD n).map fun c => Value.int .u8 (c.toNat : Int)).toArray 5)) := by
  obtain ⟨i0, hi, hz0, hz1, hz2⟩ := info_parts info_u8D
  have h := run_make (P := Tryd.prog) w 95 5 i0 (.int .u8 0) Tryd.underlying95 hi hz0 .i64 .i64 (n : Int) (n : Int) (by omega) (Int.le_refl _) (by rw [hz2]; omega) (by omega)
  rw [h, hz1]
  simp only [Int.toNat_natCast]
  rw [made_zsD]
theorem conv_zsD (n : Nat) (w : World) (cs : Array Value) (hcs : cs = ((zsD n).map fun c => Value.int .u8 (c.toNat : Int)).toArray) :
    (convert 95 9 (.slice (some ⟨w.heap.size, 0, none⟩) n n)).run Tryd.prog (w.alloc (.cells cs 5)) = .ok (.string ⟨(zsD n).toArray⟩) (w.alloc (.cells cs 5)) := by
  have hl : (zsD n).length = n := by simp [zsD]
  have h := run_convert_bytes_back (P := Tryd.prog) (w.alloc (.cells cs 5)) 95 9 5 ⟨w.heap.size, 0, none⟩ n (zsD n) Tryd.underlying95 Tryd.underlying5 Tryd.underlying9 (fun j hj => by
    rw [Addr.add_lit, Nat.zero_add, cell_of_row _ _ _ _ _ _ (MapKept.heap_alloc w (.cells cs 5)).1, hcs]
    simp [hj])
  rw [hl] at h
  exact h
/-- a sector of noughts -/
def noZ : ByteArray := ⟨(zsD 128).toArray⟩
theorem noZ_size : noZ.size = 128 := by
  show (zsD 128).toArray.size = 128
  simp [zsD]
/-- a text with noughts behind it, or cut off -/
def fullT (s : ByteArray) : ByteArray := (s ++ noZ).extract 0 128
theorem fullT_size (s : ByteArray) : (fullT s).size = 128 := by
  unfold fullT
  rw [ByteArray.size_extract, ByteArray.size_append, noZ_size]
  omega
set_option maxRecDepth 100000 in
set_option maxHeartbeats 400000 in
theorem dnoughts_any (w : World) : Calls Tryd.prog 31 #[.int .i64 128] w fun e w' => e = .returned (.string noZ) ∧ Below w.heap.size w w' := by
  obtain ⟨cs, hcs⟩ : ∃ cs, cs = ((zsD 128).map fun c => Value.int .u8 (c.toNat : Int)).toArray := ⟨_, rfl⟩
  have hmk := make_zsD 128 (by omega)
  rw [← hcs] at hmk
  have hmk2 : ∀ W : World, (Instr.makeSlice 95 (.int .i64 128) (.int .i64 128)).run Tryd.prog W = .ok (.slice (some ⟨W.heap.size, 0, none⟩) 128 128) (W.alloc (.cells cs 5)) := hmk
  have hcv := conv_zsD 128 w cs hcs
  have hzz : (⟨(zsD 128).toArray⟩ : ByteArray) = noZ := rfl
  rw [hzz] at hcv
  clear hcs hmk
  generalize noZ = z at hcv ⊢
  have hmx : max (128 : Int) 0 = 128 := by decide
  go_enter Tryd.func31, Tryd.ntmps31
  go_wp2
  go_ret
  exact ⟨rfl, (Below.refl _ w).alloc (Nat.le_refl _) _⟩
/-- an act -/
structure Ac where
  kd : Int
  at' : Int
  nn : Int
  t : ByteArray
  rw' : Bool
  ka : Option Addr
  kn : Nat
  kc : Nat
  ks : List Int
def acC (a : Ac) : List Value := [.int .i64 a.kd, .int .i64 a.at', .int .i64 a.nn, .string a.t, .bool a.rw', .slice a.ka a.kn a.kc]
theorem acC_len (a : Ac) : (acC a).length = 6 := rfl
/-- what an act holds, in a world -/
structure AcOk (w : World) (a : Ac) : Prop where
  r : RdX inC 1 w a.ka a.kn a.ks
  ws : ∀ x ∈ a.ks, (Lit.int .i64 x).wf = true
  wn : (Lit.int .i64 a.nn).wf = true
  wa : (Lit.int .i64 a.at').wf = true
  wk : (Lit.int .i64 a.kd).wf = true
  wt : a.t.size ≤ 140737488351232
  le : a.kn ≤ a.kc
  lc : a.kc ≤ maxLen
theorem AcOk.below {w w' : World} {a : Ac} (h : AcOk w a) (hb : Below w.heap.size w w') : AcOk w' a := ⟨h.r.below hb, h.ws, h.wn, h.wa, h.wk, h.wt, h.le, h.lc⟩
/-- what an act writes -/
def acT (a : Ac) : ByteArray := if a.rw' = true then a.t else fullT a.t
abbrev acV (a : Ac) : Value := .agg #[.int .i64 a.kd, .int .i64 a.at', .int .i64 a.nn, .string a.t, .bool a.rw', .slice a.ka a.kn a.kc]
/-- so few, of so few bytes -/
def acFew (l : List Ac) : Prop := l.length ≤ 60
def wtA (a : Ac) : Int := min (a.t.size : Int) 10000 + min (a.kn : Int) 10000
def sumA (l : List Ac) : Int := (l.map wtA).foldl (· + ·) 0
theorem sumA_snoc (l : List Ac) (a : Ac) : sumA (l ++ [a]) = sumA l + wtA a := by simp [sumA]
theorem wtA_pos (a : Ac) : 0 ≤ wtA a := by unfold wtA; omega
theorem sumA_pos (l : List Ac) : 0 ≤ sumA l := by
  have : ∀ (l : List Ac) (z : Int), 0 ≤ z → 0 ≤ (l.map wtA).foldl (· + ·) z := fun l => by
    induction l with
    | nil => intro z hz; exact hz
    | cons a r ih => intro z hz; exact ih (z + wtA a) (by have := wtA_pos a; omega)
  exact this l 0 (Int.le_refl _)
theorem sumA_bd (l : List Ac) : sumA l ≤ 20000 * (l.length : Int) := by
  have : ∀ (l : List Ac) (z : Int), (l.map wtA).foldl (· + ·) z ≤ z + 20000 * (l.length : Int) := fun l => by
    induction l with
    | nil => intro z; simp
    | cons b r ih =>
      intro z
      have := ih (z + wtA b)
      have hb : wtA b ≤ 20000 := by unfold wtA; omega
      show (r.map wtA).foldl (· + ·) (z + wtA b) ≤ _
      rw [List.length_cons]
      push_cast
      omega
  have := this l 0
  unfold sumA
  omega
/-- whether acts are few is told -/
def FewP (l : List Ac) (w : World) (e : Ending) (w' : World) : Prop := ∃ b, e = .returned (.bool b) ∧ (b = true → acFew l) ∧ Below w.heap.size w w'
end Go.Proofs.YtagenkofoacajaaDoor

namespace Go.Proofs.YtagenkofoacajaaDoor
open Go.RowKit Vi

theorem size_strD : (Tryd.prog.info? 9).map (·.size) = some 1 := by kernel_rfl
/-- a new row of empty texts -/
def empD (n : Nat) : List Value := List.replicate n (.string ⟨#[]⟩)
theorem made_empD (n : Nat) : madeCells (Value.string ⟨#[]⟩).cells (n * 1) = (empD n).toArray := by
  unfold empD madeCells Value.cells
  apply Array.ext
  · simp
  · intro j h1 h2; simp [Nat.mod_one]
theorem make_atD (w : World) (n : Nat) (hn : n ≤ 3000000) : (Instr.makeSlice 27 (.int .i64 (n : Int)) (.int .i64 (n : Int))).run Tryd.prog w = .ok (.slice (some ⟨w.heap.size, 0, none⟩) n n) (w.alloc (.cells (empD n).toArray 9)) := by
  obtain ⟨i0, hi, hz0, hz1, hz2⟩ := info_parts info_stA
  have h := run_make (P := Tryd.prog) w 27 9 i0 (.string ⟨#[]⟩) Tryd.underlying27 hi hz0 .i64 .i64 (n : Int) (n : Int) (by omega) (Int.le_refl _) (by rw [hz2]; omega) (by omega)
  rw [h, hz1]
  simp only [Int.toNat_natCast]
  rw [made_empD]
/-- a row whose first k texts are s -/
def rpD (s : ByteArray) (k n : Nat) : List Value := List.replicate k (.string s) ++ empD (n - k)
theorem rpD_len (s : ByteArray) (k n : Nat) (h : k ≤ n) : (rpD s k n).length = n := by simp [rpD, empD]; omega
theorem rpD_splice (s : ByteArray) (k m n : Nat) (h : k + m ≤ n) : splice (rpD s k n) k (List.replicate m (.string s)) = rpD s (k + m) n := by
  unfold splice rpD
  rw [List.take_left' (by simp), List.length_replicate, List.drop_append, List.length_replicate, List.drop_eq_nil_of_le (by simp), List.nil_append, ← List.append_assoc, List.replicate_append_replicate]
  congr 1
  unfold empD
  rw [List.drop_replicate]
  congr 1
  omega
theorem rpD_zero (s : ByteArray) (n : Nat) : rpD s 0 n = empD n := by simp [rpD]
theorem rpD_all (s : ByteArray) (n : Nat) : rpD s n n = (List.replicate n s).map Value.string := by simp [rpD, empD]
/-- a row of one text is handed back -/
def RepP (s : ByteArray) (n : Nat) (w : World) (e : Ending) (w' : World) : Prop := ∃ A, e = .returned (.slice (some A) n n) ∧ RdX stC 1 w' (some A) n (List.replicate n s) ∧ Below w.heap.size w w'
set_option maxRecDepth 100000 in
set_option maxHeartbeats 4000000 in
theorem drepeat_any (s : ByteArray) (b c n : Nat) (w : World) (hb : w.cell? ⟨b, 0, none⟩ = some (.string s)) (h1 : 1 ≤ n) (hn : n ≤ 4096) :
    Calls Tryd.prog 65 #[.slice (some ⟨b, 0, none⟩) 1 c, .int .i64 (n : Int)] w (RepP s n w) := by
  have hbl : b < w.heap.size := World.block_lt_of_cell? w _ hb
  have HM := Lib.hid (fun W : World => (Tryd.bits_Mul 1 n (by omega) (by omega) W))
  have e1 : 1 * n / 18446744073709551616 = 0 := Nat.div_eq_of_lt (by omega)
  have e2 : 1 * n % 18446744073709551616 = n := by rw [Nat.one_mul]; exact Nat.mod_eq_of_lt (by omega)
  rw [e1, e2] at HM
  have HM : Hid (∀ W : World, Calls Tryd.prog 93 #[.int .u64 1, .int .u64 (n : Int)] W fun e w' => e = .returned (.tuple #[.int .u64 0, .int .u64 (n : Int)]) ∧ W = w') := Lib.hid (fun W => (HM.out W).mono fun _ _ h => ⟨h.1, h.2.symm⟩)
  clear e1 e2
  have hmk := fun W => make_atD W n (by omega)
  have HB0 := Lib.hid ((Below.refl w.heap.size w).alloc (Nat.le_refl _) (.cells (empD n).toArray 9))
  have HS0 : Hid ((w.alloc (.cells (empD n).toArray 9)).cell? ⟨b, 0, none⟩ = some (.string s)) := Lib.hid ((HB0.out.cell (p := ⟨b, 0, none⟩) hbl).trans hb)
  have hn1 : (1 : Int) ≤ (n : Int) := by omega
  have hn2 : (n : Int) ≤ 4096 := by omega
  clear hb
  go_enter Tryd.func65, Tryd.ntmps65
  go_wp2_with fail
  refine (HM.out _).mono ?_
  rintro e w' ⟨rfl, rfl⟩
  go_wp2_with (with_reducible refine wpList_copy_splice rfl (.tmp 31) (.tmp 32) 27 27 rfl 9 Tryd.underlying27 size_strD (some ⟨w.heap.size, 0, none⟩) (some ⟨b, 0, none⟩) n n 1 c rfl rfl w.heap.size 0 (empD n) 9 (MapKept.heap_alloc _ _).1 [.string s] ?n1 (fun _ => ⟨rfl, _, rfl, ?s1⟩) ?f1 ?o1 w.heap.size w HB0.out (Nat.le_refl _) ?_)
  case n1 => exact (Nat.min_eq_left h1).symm
  case s1 =>
    intro j v hj
    have h0 : j = 0 := by
      have := (List.getElem?_eq_some_iff.1 hj).1
      simp at this
      omega
    subst h0
    rw [Addr.add_lit]
    have e : v = .string s := by simpa using hj.symm
    rw [e]
    exact HS0.out
  case f1 => simp [empD]; omega
  case o1 => intro v hv; obtain rfl := List.mem_singleton.1 hv; rfl
  intro w1 hw1 hb1
  have HR1 : Hid (w1.heap[w.heap.size]? = some (.cells (rpD s 1 n).toArray 9 (0, 0))) := Lib.hid (by
    have q := hw1.out
    rw [← rpD_zero s n] at q
    have e : splice (rpD s 0 n) 0 [Value.string s] = rpD s 1 n := rpD_splice s 0 1 n (by omega)
    rw [e] at q
    exact q)
  have HB1 := Lib.hid hb1
  clear hw1 hb1 hmk HM
  go_wp2_with fail
  go_loopw [8] (fun i wr => ∃ k : Nat, i = .int .i64 (k : Int) ∧ 1 ≤ k ∧ k ≤ n ∧ wr.heap[w.heap.size]? = some (.cells (rpD s k n).toArray 9 (0, 0)) ∧ Below w.heap.size w wr) (fun i _ => n - (intOf i).toNat)
  case atStart => exact ⟨1, rfl, Nat.le_refl _, h1, HR1.out, HB1.out⟩
  case round =>
    obtain ⟨k, rfl, hk1, hk, hr, hb⟩ := hrel
    have HR := Lib.hid hr
    have HB := Lib.hid hb
    clear hr hb
    by_cases hlt : k < n
    · have hd1 : decide ((k : Int) < (n : Int)) = true := decide_eq_true (by omega)
      have hi0 : (0 : Int) ≤ (k : Int) := by omega
      have hi1 : (k : Int) ≤ (n : Int) := by omega
      obtain ⟨m, hm⟩ : ∃ m, m = Nat.min k (n - k) := ⟨_, rfl⟩
      have hm1 : m ≤ k := by rw [hm]; exact Nat.min_le_left _ _
      have hm2 : k + m ≤ n := by have : m ≤ n - k := by rw [hm]; exact Nat.min_le_right _ _
                                 omega
      have hm3 : 1 ≤ m := by rw [hm]; exact Nat.le_min.2 ⟨hk1, by omega⟩
      have HMm := Lib.hid hm
      clear hm
      have hs1 : IntKind.i64.wrap ((k : Int) + (m : Int)) = (k : Int) + (m : Int) := IntWalk.i64_in _ (by omega)
      have hnk : ¬ n = k := by omega
      go_upto_region 9 with (fail)
      refine wp_region_L_drew (S := fun _ _ => True) (by kernel_rfl) trivial (fun hS hC => ?_)
      refine wpAnyL_take (i := 0) (oi := { dst := some 38, op := .move (.tmp 8), type := _, pos := _, after := _, guard := none }) (v := ?_) rfl (by kernel_rfl) (by kernel_rfl) (by kernel_rfl) (fun _ _ _ h => h) (fun _ _ => Iff.rfl) hC (Or.inl ⟨by rfl, ?_⟩) hS (fun hC hS => ?_)
      rotate_left
      · intro W9 hSw; skip; go_simp; try (with_reducible rfl)
      try simp only [Act.put, List.setIfInBounds_toArray, List.set_cons_zero, List.set_cons_succ]
      refine wpAnyL_take (i := 1) (oi := { dst := some 39, op := .move (.tmp 7), type := _, pos := _, after := _, guard := none }) (v := ?_) rfl (by kernel_rfl) (by kernel_rfl) (by kernel_rfl) (fun _ _ _ h => h) (fun _ _ => Iff.rfl) hC (Or.inl ⟨by rfl, ?_⟩) hS (fun hC hS => ?_)
      rotate_left
      · intro W9 hSw; skip; go_simp; try (with_reducible rfl)
      try simp only [Act.put, List.setIfInBounds_toArray, List.set_cons_zero, List.set_cons_succ]
      refine wpAnyL_take (i := 2) (oi := { dst := some 40, op := .move (.tmp 8), type := _, pos := _, after := _, guard := none }) (v := ?_) rfl (by kernel_rfl) (by kernel_rfl) (by kernel_rfl) (fun _ _ _ h => h) (fun _ _ => Iff.rfl) hC (Or.inl ⟨by rfl, ?_⟩) hS (fun hC hS => ?_)
      rotate_left
      · intro W9 hSw; skip; go_simp; try (with_reducible rfl)
      try simp only [Act.put, List.setIfInBounds_toArray, List.set_cons_zero, List.set_cons_succ]
      refine wpAnyL_take (i := 3) (oi := { dst := some 41, op := .slice 27 (.tmp 39) (some (.tmp 40)) none none, type := _, pos := _, after := _, guard := none }) (v := ?_) rfl (by kernel_rfl) (by kernel_rfl) (by kernel_rfl) (fun _ _ _ h => h) (fun _ _ => Iff.rfl) hC (Or.inl ⟨by rfl, ?_⟩) hS (fun hC hS => ?_)
      rotate_left
      · intro W9 hSw; skip; go_simp; try (with_reducible rfl)
      try simp only [Act.put, List.setIfInBounds_toArray, List.set_cons_zero, List.set_cons_succ]
      refine wpAnyL_take (i := 4) (oi := { dst := some 42, op := .move (.tmp 7), type := _, pos := _, after := _, guard := none }) (v := ?_) rfl (by kernel_rfl) (by kernel_rfl) (by kernel_rfl) (fun _ _ _ h => h) (fun _ _ => Iff.rfl) hC (Or.inl ⟨by rfl, ?_⟩) hS (fun hC hS => ?_)
      rotate_left
      · intro W9 hSw; skip; go_simp; try (with_reducible rfl)
      try simp only [Act.put, List.setIfInBounds_toArray, List.set_cons_zero, List.set_cons_succ]
      refine wpAnyL_take (i := 5) (oi := { dst := some 43, op := .move (.tmp 8), type := _, pos := _, after := _, guard := none }) (v := ?_) rfl (by kernel_rfl) (by kernel_rfl) (by kernel_rfl) (fun _ _ _ h => h) (fun _ _ => Iff.rfl) hC (Or.inl ⟨by rfl, ?_⟩) hS (fun hC hS => ?_)
      rotate_left
      · intro W9 hSw; skip; go_simp; try (with_reducible rfl)
      try simp only [Act.put, List.setIfInBounds_toArray, List.set_cons_zero, List.set_cons_succ]
      refine wpAnyL_take (i := 6) (oi := { dst := some 44, op := .slice 27 (.tmp 42) none (some (.tmp 43)) none, type := _, pos := _, after := _, guard := none }) (v := ?_) rfl (by kernel_rfl) (by kernel_rfl) (by kernel_rfl) (fun _ _ _ h => h) (fun _ _ => Iff.rfl) hC (Or.inl ⟨by rfl, ?_⟩) hS (fun hC hS => ?_)
      rotate_left
      · intro W9 hSw; skip; go_simp; try (with_reducible rfl)
      try simp only [Act.put, List.setIfInBounds_toArray, List.set_cons_zero, List.set_cons_succ]
      refine wpAnyL_ready (rs := [7]) (by kernel_rfl) (by simp) hC ?_
      refine AllReadyL.cons (o := { dst := some 45, op := .call { callee := .builtin .copy, args := #[.tmp 41, .tmp 44], argTypes := #[27, 27] }, type := _, pos := _, after := _, guard := none }) rfl (fun K9 hK => ?_) ?_
      · skip
        refine step_copy_splice rfl (.tmp 41) (.tmp 44) 27 27 rfl 9 Tryd.underlying27 size_strD (some ⟨w.heap.size, k, none⟩) (some ⟨w.heap.size, 0, none⟩) (n - k) (n - k) k n ?d1 ?d2 w.heap.size k (rpD s k n) 9 HR.out (List.replicate m (.string s)) ?d3 (fun _ => ⟨rfl, _, rfl, ?d4⟩) ?d5 ?d6 w.heap.size w HB.out.drew (Nat.le_refl _) ?_
        case d1 => first | rfl | (trace_state; sorry)
        case d2 => first | rfl | (trace_state; sorry)
        case d3 => rw [List.length_replicate]; exact HMm.out
        case d4 =>
          intro j v hj
          have hjm : j < m := by
            have := (List.getElem?_eq_some_iff.1 hj).1
            simpa using this
          have e : v = .string s := by
            rw [List.getElem?_replicate, if_pos hjm] at hj
            simpa using hj.symm
          rw [Addr.add_lit, Nat.zero_add, e, cell_of_row _ _ _ _ _ _ (show wr.drew.heap[w.heap.size]? = _ from HR.out)]
          unfold rpD
          rw [List.getElem?_toArray, List.getElem?_append_left (by simp; omega), List.getElem?_replicate, if_pos (by omega)]
        case d5 => rw [List.length_replicate, rpD_len s k n hk]; exact hm2
        case d6 => intro v hv; obtain ⟨_, rfl⟩ := List.mem_replicate.1 hv; rfl
        intro w2 hw2 hb2
        have HR2 : Hid (w2.heap[w.heap.size]? = some (.cells (rpD s (k + m) n).toArray 9 (0, 0))) := Lib.hid (by rw [← rpD_splice s k m n hm2]; exact hw2.out)
        have HB2 := Lib.hid hb2
        clear hw2 hb2
        rw [List.length_replicate]
        refine hK _ _ trivial (fun hC => ?_)
        clear hK K9
        try simp only [Act.put, List.setIfInBounds_toArray, List.set_cons_zero, List.set_cons_succ]
        refine wpAnyL_take (i := 8) (oi := { dst := some 46, op := .binOp .add 3 (.tmp 38) (.tmp 45) 3, type := _, pos := _, after := _, guard := none }) (v := ?_) rfl (by kernel_rfl) (by kernel_rfl) (by kernel_rfl) (fun _ _ _ h => h) (fun _ _ => Iff.rfl) hC (Or.inl ⟨by rfl, ?_⟩) trivial (fun hC hS => ?_)
        rotate_left
        · intro W9 hSw; skip; go_simp; try (with_reducible rfl)
        try simp only [Act.put, List.setIfInBounds_toArray, List.set_cons_zero, List.set_cons_succ]
        refine wpAnyL_take (i := 9) (oi := { dst := some 8, op := .assign (.tmp 46), type := _, pos := _, after := _, guard := none }) (v := ?_) rfl (by kernel_rfl) (by kernel_rfl) (by kernel_rfl) (fun _ _ _ h => h) (fun _ _ => Iff.rfl) hC (Or.inl ⟨by rfl, ?_⟩) trivial (fun hC hS => ?_)
        rotate_left
        · intro W9 hSw; skip; go_simp; try (with_reducible rfl)
        try simp only [Act.put, List.setIfInBounds_toArray, List.set_cons_zero, List.set_cons_succ]
        refine wpAnyL_done (by kernel_rfl) ?_ _
        go_wp2_with fail
        go_roundw
        case rel => exact ⟨k + m, by first | go_num | (simp [goInt]; done) | (simp [goInt]; omega), by omega, hm2, HR2.out, HB2.out⟩
        case measure => simp [intOf] <;> omega
      exact AllReadyL.nil
    · have hd1 : decide ((k : Int) < (n : Int)) = false := decide_eq_false (by omega)
      have hke : k = n := by omega
      subst hke
      have HF := Lib.hid (show RdX stC 1 wr (some ⟨w.heap.size, 0, none⟩) k (List.replicate k s) from ⟨by simp, fun _ => ⟨w.heap.size, 0, rfl, lt_of_block HR.out, fun j x i u hj hu => by
        have hjm := (List.getElem?_eq_some_iff.1 hj).1
        have hi := (List.getElem?_eq_some_iff.1 hu).1
        simp [stC] at hi
        subst hi
        have e2 := HR.out
        rw [rpD_all] at e2
        rw [cell_of_row _ _ _ _ _ _ e2, Nat.zero_add, Nat.mul_one, Nat.add_zero, List.getElem?_toArray, List.getElem?_map, hj]
        exact hu⟩⟩)
      go_wp2_with fail
      go_ret
      exact ⟨_, rfl, HF.out, HB.out⟩
theorem repZ : (⟨(Lib.repeatL [(0 : UInt8)] 128).toArray⟩ : ByteArray) = noZ := by
  have h : ∀ k, Lib.repeatL [(0 : UInt8)] k = List.replicate k 0 := fun k => by
    induction k with
    | zero => rfl
    | succ k ih => rw [List.replicate_succ, ← ih]; rfl
  unfold noZ zsD
  rw [h]
set_option maxRecDepth 100000 in
theorem dnew_no (n : Int) (w : World) (h : ¬ (16 ≤ n ∧ n ≤ 4096)) : Calls Tryd.prog 30 #[.int .i64 n] w (NoD w) := by
  have HZ := dsize_any n w
  rw [decide_eq_false h] at HZ
  have HZ := Lib.hid HZ
  clear h
  go_enter Tryd.func30, Tryd.ntmps30
  go_wp2_with fail
  refine HZ.out.mono ?_
  rintro e w' ⟨rfl, rfl⟩
  go_wp2_with fail
  go_ret2
  exact ⟨rfl, Below.refl _ _⟩
theorem may_new (n : Nat) (h1 : 16 ≤ n) (h2 : n ≤ 4096) : true = mayI (List.replicate n noZ) [] := by
  unfold mayI
  rw [List.length_replicate, decide_eq_true (by omega), decide_eq_true (by simp)]
  have : (List.replicate n noZ).any badS = false := by
    rw [List.any_eq_false]
    intro x hx
    obtain ⟨_, rfl⟩ := List.mem_replicate.1 hx
    unfold badS
    rw [decide_eq_true noZ_size]
    simp
  rw [this]
  rfl
set_option maxRecDepth 100000 in
set_option maxHeartbeats 2000000 in
theorem dnew_yes (n : Nat) (w : World) (h1 : 16 ≤ n) (h2 : n ≤ 4096) : Calls Tryd.prog 30 #[.int .i64 (n : Int)] w (NewD (List.replicate n noZ) [] w) := by
  have HZ := dsize_any (n : Int) w
  rw [decide_eq_true (by omega)] at HZ
  have HZ := Lib.hid HZ
  have HS := Lib.hid (Tryd.strings_Repeat ⟨#[0]⟩ 128 w (by omega) (by show 1 * 128 ≤ _; omega))
  have HE := Lib.hid repZ
  have HMY := Lib.hid (may_new n h1 h2)
  go_enter Tryd.func30, Tryd.ntmps30
  go_wp2_with fail
  refine HZ.out.mono ?_
  rintro e w' ⟨rfl, rfl⟩
  go_wp2_with fail
  refine HS.out.mono ?_
  rintro e w1 ⟨he, hb1⟩
  have hz : Ending.returned (.string ⟨(Lib.repeatL (⟨#[0]⟩ : ByteArray).data.toList 128).toArray⟩) = Ending.returned (.string noZ) := congrArg (fun x => Ending.returned (Value.string x)) HE.out
  rw [hz] at he
  subst he
  have HB1 := Lib.hid hb1
  clear hb1 hz
  have HB2 := Lib.hid (HB1.out.alloc HB1.out.size (.cells #[.string noZ] 9 (0, 0)))
  have HX := Lib.hid (blk_new w1 (.cells #[.string noZ] 9 (0, 0)))
  have HR := Lib.hid (drepeat_any noZ w1.heap.size 1 n _ ((cell_of_row _ _ 0 _ _ _ HX.out).trans rfl) (by omega) h2)
  go_wp2_with fail
  refine HR.out.mono ?_
  rintro e w2 ⟨A, rfl, hr, hb2⟩
  have HB3 := Lib.hid (HB2.out.trans (hb2.mono HB2.out.size))
  have HRD : Hid (RdX stC 1 w2 (some A) (List.replicate n noZ).length (List.replicate n noZ)) := Lib.hid (by rw [List.length_replicate]; exact hr)
  have HL := dload_any (some A) n none 0 (List.replicate n noZ) [] w2 HRD.out RdX.nil (by rw [List.length_replicate]; omega) (by simp) true HMY.out
  rw [List.length_replicate] at HL
  have HL := Lib.hid HL
  clear hr hb2
  go_wp2_with fail
  refine HL.out.mono ?_
  rintro e w3 ⟨hy, _⟩
  obtain ⟨D, rfl, hd, hi, hb3⟩ := hy (by first | rfl | trivial)
  have HD := Lib.hid hd
  have HI := Lib.hid hi
  have HB4 := Lib.hid (HB3.out.trans (hb3.mono HB3.out.size))
  clear hy hd hi hb3
  go_wp2_with fail
  go_ret2
  exact ⟨D, rfl, HD.out, fun b q => Nat.le_trans HB3.out.size (HI.out b q), HB4.out⟩
end Go.Proofs.YtagenkofoacajaaDoor

namespace Go.Proofs.YtagenkofoacajaaDoor
open Go.RowKit Vi

theorem InD.back {D : Nat} {w w' : World} (hb : Below w.heap.size w w') (hD : D < w.heap.size) {b : Nat} (q : InD D w' b) : InD D w b := by
  rcases q with q | ⟨o, n, c, q⟩ | ⟨o, n, c, q⟩
  · exact .inl q
  · exact .inr (.inl ⟨o, n, c, by rw [← hb.cell (p := ⟨D, 0, none⟩) hD]; exact q⟩)
  · exact .inr (.inr ⟨o, n, c, by rw [← hb.cell (p := ⟨D, 1, none⟩) hD]; exact q⟩)
/-- the program's disk is d, its blocks lie from n on, what lay below n of w0 lies as it lay -/
structure DW (n : Nat) (w0 : World) (D : Nat) (d : Ds) (w : World) : Prop where
  dk : DK D d.S d.C d.go d.op d.ar w
  far : ∀ b, InD D w b → n ≤ b
  bel : Below n w0 w
  sz : n ≤ w.heap.size
theorem DW.lt {n : Nat} {w0 : World} {D : Nat} {d : Ds} {w : World} (h : DW n w0 D d w) : D < w.heap.size := h.dk.lt
theorem DW.kd {n : Nat} {w0 : World} {D : Nat} {d d' : Ds} {w w' : World} (h : DW n w0 D d w) (k : Kd D w w') (h' : DK D d'.S d'.C d'.go d'.op d'.ar w') : DW n w0 D d' w' :=
  ⟨h', fun b q => by
    rcases Nat.lt_or_ge b w.heap.size with hb | hb
    · exact h.far b (k.ind b hb q)
    · exact Nat.le_trans h.sz hb, ⟨k.os.trans h.bel.os, k.tape.trans h.bel.tape, k.output.trans h.bel.output, Nat.le_trans h.bel.size k.size, fun b hb => (k.block b (Nat.lt_of_lt_of_le hb h.sz) (fun q => by have := h.far b q; omega)).trans (h.bel.block b hb)⟩, Nat.le_trans h.sz k.size⟩
theorem DW.below {n : Nat} {w0 : World} {D : Nat} {d : Ds} {w w' : World} (h : DW n w0 D d w) (hb : Below w.heap.size w w') : DW n w0 D d w' := h.kd (Kd.of_below hb h.lt) (h.dk.kept hb)
/-- few enough of all -/
structure DsOk (k : Nat) (d : Ds) : Prop where
  s1 : 16 ≤ d.S.length
  s2 : d.S.length ≤ 4096
  c : d.C.length ≤ 4096 + k
  a1 : 0 ≤ d.ar
  a2 : d.ar ≤ 9223372036854775807
  o1 : 0 ≤ d.op
  o2 : d.op ≤ (k : Int)
/-- a write -/
def Ds.wrE (d : Ds) (i : Int) (s : ByteArray) : Int := if d.go = true then 7 else if dckE d.S.length i s ≠ 0 then dckE d.S.length i s else stpE d.ar
def Ds.wrt (d : Ds) (i : Int) (s : ByteArray) : Ds := if d.go = true then d else if dckE d.S.length i s ≠ 0 then d else ⟨d.S, wrtC d.ar d.C i s, stpF d.ar, stpD d.ar, stpO d.op d.ar⟩
/-- a flush -/
def Ds.flE (d : Ds) : Int := if d.go = true then 7 else stpE d.ar
def Ds.fls (d : Ds) : Ds := if d.go = true then d else ⟨flsS d.ar d.S d.C, stpC d.ar d.C, stpF d.ar, stpD d.ar, stpO d.op d.ar⟩
def Ds.arm (d : Ds) (k : Int) : Ds := if armE d.go k = 0 then ⟨d.S, d.C, k, d.go, d.op⟩ else d
def Ds.crash (d : Ds) (ks : List Int) : Ds := ⟨setP (inK ks) 0 d.C d.S, [], 0, true, d.op⟩
def Ds.boot (d : Ds) : Ds := ⟨d.S, [], 0, false, d.op⟩
def Ds.over (d : Ds) (i : Int) (s : ByteArray) : Ds := ⟨overS d.S i s, d.C, d.ar, d.go, d.op⟩
def Ds.rdE (d : Ds) (i : Int) : Int := if d.go = true then 7 else if 0 ≤ i ∧ i < (d.S.length : Int) then 0 else 8
def Ds.rdS (d : Ds) (i : Int) : ByteArray := if d.rdE i = 0 then shw d.S d.C i else ⟨#[]⟩
def Ds.red (d : Ds) (i : Int) : Ds := if d.rdE i = 0 then ⟨d.S, d.C, d.ar, d.go, d.op + 1⟩ else d
theorem setP_none (C : List Wr) (k : Nat) (S : List ByteArray) : setP (inK []) k C S = S := by
  induction C generalizing k S with
  | nil => rfl
  | cons x r ih => exact ih _ _
theorem setP_all (C : List Wr) (k : Nat) (S : List ByteArray) : setP allK k C S = safeW S C := by
  induction C generalizing k S with
  | nil => rfl
  | cons x r ih => exact ih _ _
theorem stpF_bd {a : Int} (h1 : 0 ≤ a) (h2 : a ≤ 9223372036854775807) : 0 ≤ stpF a ∧ stpF a ≤ 9223372036854775807 := by unfold stpF; split <;> omega
theorem stpO_bd {o a : Int} : o ≤ stpO o a ∧ stpO o a ≤ o + 1 := by unfold stpO; split <;> omega
theorem DsOk.wrt {k : Nat} {d : Ds} (h : DsOk k d) (i : Int) (s : ByteArray) : DsOk (k + 1) (d.wrt i s) := by
  obtain ⟨h1, h2, h3, h4, h5, h6, h7⟩ := h
  have f := stpF_bd h4 h5
  have o := stpO_bd (o := d.op) (a := d.ar)
  unfold Ds.wrt
  split
  · exact ⟨h1, h2, by omega, h4, h5, h6, by omega⟩
  · split
    · exact ⟨h1, h2, by omega, h4, h5, h6, by omega⟩
    · refine ⟨h1, h2, ?_, f.1, f.2, by show 0 ≤ stpO _ _; omega, by show stpO _ _ ≤ _; omega⟩
      show (wrtC d.ar d.C i s).length ≤ _
      unfold wrtC
      split
      · omega
      · rw [List.length_append]; simp; omega
theorem flsS_len (a : Int) (S : List ByteArray) (C : List Wr) : (flsS a S C).length = S.length := by unfold flsS; split; rfl; exact setP_len _ _ _ _
theorem DsOk.fls {k : Nat} {d : Ds} (h : DsOk k d) : DsOk (k + 1) d.fls := by
  obtain ⟨h1, h2, h3, h4, h5, h6, h7⟩ := h
  have f := stpF_bd h4 h5
  have o := stpO_bd (o := d.op) (a := d.ar)
  have hl := flsS_len d.ar d.S d.C
  unfold Ds.fls
  split
  · exact ⟨h1, h2, by omega, h4, h5, h6, by omega⟩
  · refine ⟨by show 16 ≤ (flsS _ _ _).length; omega, by show (flsS _ _ _).length ≤ _; omega, ?_, f.1, f.2, by show 0 ≤ stpO _ _; omega, by show stpO _ _ ≤ _; omega⟩
    show (stpC d.ar d.C).length ≤ _
    unfold stpC
    split
    · omega
    · simp
theorem DsOk.arm {k : Nat} {d : Ds} (h : DsOk k d) (n : Int) (hn : n ≤ 9223372036854775807) : DsOk (k + 1) (d.arm n) := by
  obtain ⟨h1, h2, h3, h4, h5, h6, h7⟩ := h
  unfold Ds.arm
  split
  · next q =>
    have : ¬ n < 0 := fun e => by
      unfold armE at q
      by_cases hg : d.go = true
      · rw [if_pos hg] at q; cases q
      · rw [if_neg hg, if_pos e] at q; cases q
    exact ⟨h1, h2, by show d.C.length ≤ _; omega, by show 0 ≤ n; omega, hn, h6, by show d.op ≤ _; omega⟩
  · exact ⟨h1, h2, by omega, h4, h5, h6, by omega⟩
theorem DsOk.crash {k : Nat} {d : Ds} (h : DsOk k d) (ks : List Int) : DsOk (k + 1) (d.crash ks) := by
  have hl := setP_len (inK ks) d.C 0 d.S
  exact ⟨by show 16 ≤ (setP _ _ _ _).length; rw [hl]; exact h.s1, by show (setP _ _ _ _).length ≤ _; rw [hl]; exact h.s2, Nat.zero_le _, Int.le_refl _, by show (0 : Int) ≤ _; omega, h.o1, by have := h.o2; show d.op ≤ _; omega⟩
theorem DsOk.boot {k : Nat} {d : Ds} (h : DsOk k d) : DsOk (k + 1) d.boot := ⟨h.s1, h.s2, Nat.zero_le _, Int.le_refl _, by show (0 : Int) ≤ _; omega, h.o1, by have := h.o2; show d.op ≤ _; omega⟩
theorem overS_len (S : List ByteArray) (i : Int) (s : ByteArray) : (overS S i s).length = S.length := by unfold overS; split; rw [List.length_set]; rfl
theorem DsOk.over {k : Nat} {d : Ds} (h : DsOk k d) (i : Int) (s : ByteArray) : DsOk (k + 1) (d.over i s) := by
  have hl := overS_len d.S i s
  exact ⟨by show 16 ≤ (overS _ _ _).length; rw [hl]; exact h.s1, by show (overS _ _ _).length ≤ _; rw [hl]; exact h.s2, by have := h.c; show d.C.length ≤ _; omega, h.a1, h.a2, h.o1, by have := h.o2; show d.op ≤ _; omega⟩
theorem DsOk.red {k : Nat} {d : Ds} (h : DsOk k d) (i : Int) : DsOk (k + 1) (d.red i) := by
  unfold Ds.red
  split
  · exact ⟨h.s1, h.s2, by have := h.c; show d.C.length ≤ _; omega, h.a1, h.a2, by have := h.o1; show 0 ≤ d.op + 1; omega, by have := h.o2; show d.op + 1 ≤ _; omega⟩
  · exact ⟨h.s1, h.s2, by have := h.c; omega, h.a1, h.a2, h.o1, by have := h.o2; omega⟩
theorem DsOk.up {k : Nat} {d : Ds} (h : DsOk k d) : DsOk (k + 1) d := ⟨h.s1, h.s2, by have := h.c; omega, h.a1, h.a2, h.o1, by have := h.o2; omega⟩
/-- a number, and the disk then -/
def PI (n : Nat) (w0 : World) (D : Nat) (d : Ds) (z : Int) (w : World) (e : Ending) (w' : World) : Prop := e = .returned (.int .i64 z) ∧ DW n w0 D d w' ∧ Kd D w w'
section
variable {n : Nat} {w0 : World} {D : Nat} {d : Ds} {w : World} {k : Nat}
theorem pwrite (h : DW n w0 D d w) (o : DsOk k d) (hk : k ≤ 1000) (i : Int) (s : ByteArray) : Calls Tryd.prog 43 #[.pointer (some ⟨D, 0, none⟩), .int .i64 i, .string s] w (PI n w0 D (d.wrt i s) (d.wrE i s) w) := by
  obtain ⟨SS, CC, ar, go, op⟩ := d
  have hd : DK D SS CC go op ar w := h.dk
  have o1 : 0 ≤ op := o.o1
  have o2 : op ≤ (k : Int) := o.o2
  have hc : CC.length ≤ 4096 + k := o.c
  unfold Ds.wrt Ds.wrE
  dsimp only
  cases go with
  | true => exact (dwrite_down D SS CC op ar i s w hd).mono fun _ _ ⟨h1, h2, h3⟩ => ⟨h1, h.kd h3 h2, h3⟩
  | false =>
    rw [if_neg Bool.false_ne_true, if_neg Bool.false_ne_true]
    by_cases hq : dckE SS.length i s = 0
    · rw [if_neg (fun h => h hq), if_neg (fun h => h hq)]
      exact (dwrite_up D SS CC op ar i s w hd hq ⟨by omega, by omega⟩ ⟨o.a1, o.a2⟩ (by omega)).mono fun _ _ ⟨h1, h2, h3⟩ => ⟨h1, h.kd h3 h2, h3⟩
    · rw [if_pos hq, if_pos hq]
      exact (dwrite_no D SS CC op ar i s w hd hq).mono fun _ _ ⟨h1, h2, h3⟩ => ⟨h1, h.kd h3 h2, h3⟩
/-- a text and a number, and the disk then -/
def PSI (n : Nat) (w0 : World) (D : Nat) (d : Ds) (s : ByteArray) (z : Int) (w : World) (e : Ending) (w' : World) : Prop := e = .returned (.tuple #[.string s, .int .i64 z]) ∧ DW n w0 D d w' ∧ Kd D w w'
theorem pread (h : DW n w0 D d w) (o : DsOk k d) (hk : k ≤ 1000) (i : Int) : Calls Tryd.prog 39 #[.pointer (some ⟨D, 0, none⟩), .int .i64 i] w (PSI n w0 D (d.red i) (d.rdS i) (d.rdE i) w) := by
  obtain ⟨SS, CC, ar, go, op⟩ := d
  have hd : DK D SS CC go op ar w := h.dk
  have o1 : 0 ≤ op := o.o1
  have o2 : op ≤ (k : Int) := o.o2
  have hc : CC.length ≤ 4096 + k := o.c
  cases go with
  | true =>
    have e : Ds.rdE ⟨SS, CC, ar, true, op⟩ i = 7 := if_pos rfl
    unfold Ds.red Ds.rdS
    rw [e, if_neg (by decide), if_neg (by decide)]
    exact (dread_down D SS CC op ar i w hd).mono fun _ _ ⟨h1, h2⟩ => by subst h2; exact ⟨h1, h, Kd.refl _ _⟩
  | false =>
    by_cases hi : 0 ≤ i ∧ i < (SS.length : Int)
    · have e : Ds.rdE ⟨SS, CC, ar, false, op⟩ i = 0 := by unfold Ds.rdE; rw [if_neg Bool.false_ne_true, if_pos hi]
      unfold Ds.red Ds.rdS
      rw [e, if_pos rfl, if_pos rfl]
      exact (dread_up D SS CC op ar i w hd hi (by omega) ⟨by omega, by omega⟩).mono fun _ _ ⟨h1, h2, h3⟩ => ⟨h1, h.kd h3 h2, h3⟩
    · have e : Ds.rdE ⟨SS, CC, ar, false, op⟩ i = 8 := by unfold Ds.rdE; rw [if_neg Bool.false_ne_true, if_neg hi]
      unfold Ds.red Ds.rdS
      rw [e, if_neg (by decide), if_neg (by decide)]
      exact (dread_no D SS CC op ar i w hd hi).mono fun _ _ ⟨h1, h2⟩ => by subst h2; exact ⟨h1, h, Kd.refl _ _⟩
end
/-- the document's disk as a value: its rows -/
structure RV (P : Nat → Prop) (d : Ds) (A : Option Addr) (n : Nat) (A2 : Option Addr) (n2 : Nat) (w : World) : Prop where
  s : RdP P stC 1 w A n d.S
  c : RdP P wrC 2 w A2 n2 d.C
section
variable {P : Nat → Prop} {d : Ds} {A : Option Addr} {n c : Nat} {A2 : Option Addr} {n2 c2 : Nat} {w : World} {k : Nat}
theorem RV.ns (h : RV P d A n A2 n2 w) : d.S.length = n := h.s.1.1
theorem RV.nc (h : RV P d A n A2 n2 w) : d.C.length = n2 := h.c.1.1
end
end Go.Proofs.YtagenkofoacajaaDoor
