/- ScanReads: whatever pieces are read of any bytes, in whatever order, the program reads as the document says. No condition. -/
import Derived.Test.YtgbagifmelkkhaaRows
import Derived.WalkKit
import Derived.Test.YtgbagifmelkkhaaLscanreads
import Derived.ProofKit
import Derived.OpenShut
import Derived.ShutString
import Derived.ChangeOld
import Derived.Below
import Derived.Lib.SmallJoins
import Derived.Deep.Slices
import Derived.Deep.Fields
import Derived.ChangeSame
namespace Go.Proofs.Ytgbagifmelkkhaa.scanReads
open Go.ChangeShapes Go.WideShapes Go.ChangeAt Go.RowKit
open Go.ChangeMaps (open_string shut_string)
set_option linter.unusedVariables false

theorem own : ownKnob Try.prog.godebug = none := by kernel_rfl
theorem laidOut : laidOutB Try.prog = true := by kernel_rfl

def FieldOk (s : Nat) (v : Value) : Prop :=
  match s with
  | 0 => ∃ n : Int, v = .int .i64 n ∧ (Lit.int .i64 n).wf = true
  | 1 => ∃ t : ByteArray, v = .string t ∧ t.size ≤ maxLen
  | _ => ∃ b : Bool, v = .bool b
def IsAggs (ks : List Nat) (w : World) (a : Option Addr) (len cap : Nat) : Prop :=
  (a = none ∧ len = 0 ∧ cap = 0) ∨
  ∃ x, a = some x ∧ len ≤ cap ∧ cap ≤ maxLen ∧ ∀ i, i < len → ∀ (j s : Nat), ks[j]? = some s → ∃ v, w.cell? (x.add (i * ks.length + j)) = some v ∧ FieldOk s v
section
variable {H : Type} {enc : TypeId × Value → H} {P : Program} {w : World} {base : Nat} {spare : Nat → Bool} {held : Bool}
open Go.Joins Go.Deep in
theorem row_fields {e : TypeId} {fs : Array Field} {x : Addr} {i n : Nat} {cs : List Value} {y : DataW H × List MemPlace} (he : P.underlying e = some (.struct fs)) (hone : oneCellFields P fs = true) (hC : P.cellsOf e = fs.size)
    (hc : w.cells? base (x.add (i * P.cellsOf e)) (P.cellsOf e) = some cs) (ht : DataW.trod enc P w base spare held n e cs = some y) (j : Nat) (f : Field) (hj : fs[j]? = some f) :
    ∃ (v : Value) (z : DataW H × List MemPlace) (m : Nat), w.cell? (x.add (i * fs.size + j)) = some v ∧ DataW.trod enc P w base spare held m f.type [v] = some z := by
  obtain ⟨_, hlen, hat⟩ := World.cells?_some hc
  rw [hC] at hlen hat
  obtain ⟨zs, m, _, _, _, hzl, hf⟩ := DataW.trod_struct he ht
  obtain ⟨ho, hk⟩ := hone_of hone j f hj
  have hjl : j < fs.size := (Array.getElem?_eq_some_iff.1 hj).1
  have g := hf j f hj
  rw [ho, hk, List.drop_eq_getElem_cons (by omega), List.take_succ_cons, List.take_zero] at g
  refine ⟨cs[j]'(by omega), zs[j]'(by omega), m, ?_, g.trans (List.getElem?_eq_getElem (by omega))⟩
  rw [← Go.Deep.add_add, hat j hjl, List.getElem?_eq_getElem (by omega)]
end

theorem walk (a0 : ByteArray) (a1 : Option Addr) (len1 cap1 : Nat) (w : World) (w0 : a0.size ≤ maxLen) (w1 : IsAggs [0, 0] w a1 len1 cap1) :
    Calls Try.prog 12 #[.string a0, .slice a1 len1 cap1] w fun e w' => e = .returned (.bool true) ∧ Below w.heap.size w w' := by
  rcases w1 with ⟨rfl, rfl, rfl⟩ | ⟨x, rfl, hl, hm, hf⟩
  · exact LScanReads.walk a0 none 0 0 w (fun h => by omega) (by decide) w0
  · refine LScanReads.walk a0 (some x) len1 cap1 w (fun hp => ?_) (Nat.le_trans hl hm) w0
    obtain ⟨b, off, spot⟩ := x
    obtain ⟨v0, h0, _⟩ := hf 0 hp 0 0 rfl
    have hspot : spot = none := by simpa [Addr.add] using World.cell?_spot h0
    subst hspot
    refine ⟨b, off, rfl, fun i hi => ?_⟩
    obtain ⟨v, hv, k, rfl, hk⟩ := hf i hi 0 0 rfl
    obtain ⟨u, hu, n, rfl, hn⟩ := hf i hi 1 0 rfl
    rw [Addr.add_lit] at hv hu
    exact ⟨k, n, hv, hu, bounds_i64 hn⟩

set_option maxRecDepth 100000 in
theorem lifted (os : Os) (started : os.Started) (H : Type) (enc : TypeId × Value → H) :
    ReturnsInHanded {} Try.checked os 12 .any (Rows.scanReadsSpec.pre6 enc Try.prog Try.f12 Rows.scanReadsRow.domain false) (Rows.scanReadsSpec.post enc Try.prog Try.f12 false true false false) := by
  refine returnsInHanded_of_change (C := Try.checked) own started (by kernel_rfl) Try.func12
    (ChangeSpec.witness6 (enc := enc) (C := Try.checked) false ⟨#[], #[.string ByteArray.empty, .slice none 0 0], []⟩ 8 (by kernel_rfl) (by kernel_rfl) (by kernel_rfl) (by kernel_rfl)) ?_
  intro W base args ds gs before hval0 hW hcnd _
  have hval : ∀ (j : Nat) t v, Try.f12.params[j]? = some t → args[j]? = some v → Value.okWide Try.prog W .any base t v := hval0
  have hW' := hW
  obtain ⟨p, q, hA0, hV, rfl, hfz, hnd⟩ := hW
  have hA : DataW.TrodAll enc Try.prog W 0 (fun _ => true) true Try.f12.params.toList args.toList ds p := hA0
  rw [Try.params12] at hA hval
  obtain ⟨v0, vs0, d0, ds0, p0, q0, hargs, rfl, rfl, h0, r0⟩ := trodAll_cons hA
  obtain ⟨v1, vs1, d1, ds1, p1, q1, rfl, rfl, rfl, h1, r1⟩ := trodAll_cons r0
  obtain ⟨rfl, rfl, rfl⟩ := trodAll_nil r1
  obtain rfl : args = #[v0, v1] := by cases args; simp_all
  obtain ⟨rfl, rfl⟩ := trodVars_none hV
  obtain ⟨a0, rfl, rfl, rfl, w0⟩ := open_string Try.underlying9 (hval 0 9 v0 rfl rfl) h0
  obtain ⟨a1, len1, cap1, rfl⟩ := okWide_slice Try.underlying56 (hval 1 56 v1 rfl rfl)
  have k1 := h1
  have lt1 : ∀ x ∈ p1, x.block < W.heap.size := by obtain ⟨m, hm⟩ := k1; exact DataW.trod_lt m _ _ _ hm
  have w1 : IsAggs [0, 0] W a1 len1 cap1 := by
    obtain ⟨fuel, hf⟩ := h1
    rcases Go.Deep.open_slice Try.underlying56 hf with ⟨hcs, _⟩ | ⟨x, l, c, m, n, D, Pl, hcs, _, hl, hm, hmm, _, hi⟩
    · simp [Value.cells] at hcs
      obtain ⟨rfl, rfl, rfl⟩ := hcs
      exact .inl ⟨rfl, rfl, rfl⟩
    · simp [Value.cells] at hcs
      obtain ⟨rfl, rfl, rfl⟩ := hcs
      refine .inr ⟨_, rfl, hl, hm, fun i hi2 => ?_⟩
      obtain ⟨cs, hc, ht⟩ := hi i (by rw [hmm]; split <;> omega)
      have rf := row_fields Try.underlying62 (by kernel_rfl) (by kernel_rfl) hc ht
      intro j s hj
      rcases j with _ | j
      · obtain rfl : 0 = s := by simpa using hj
        obtain ⟨v, y, m2, hcell, ht2⟩ := rf 0 _ rfl
        obtain ⟨u, hu, _, hw⟩ := DataW.trod_int Try.underlying3 ht2
        cases hu
        exact ⟨_, hcell, u, rfl, hw⟩
      rcases j with _ | j
      · obtain rfl : 0 = s := by simpa using hj
        obtain ⟨v, y, m2, hcell, ht2⟩ := rf 1 _ rfl
        obtain ⟨u, hu, _, hw⟩ := DataW.trod_int Try.underlying3 ht2
        cases hu
        exact ⟨_, hcell, u, rfl, hw⟩
      simp at hj
  clear hA0 hval0
  refine (walk a0 a1 len1 cap1 W w0 w1).mono fun e W' ⟨he, bel⟩ => ?_
  subst he
  exact ⟨_, rfl, _, _, _, [], _, [], hW', trodAll_mk1 (shut_bool Try.underlying4 _), (trodAll_cons_mk (shut_string Try.underlying9 w0) (trodAll_cons_mk (Below.trod laidOut (by kernel_rfl) (of_decide_eq_true (by kernel_rfl)) k1 bel lt1) trodAll_mk0)), rfl, bel.frame _, fun h => by cases h⟩

theorem over : Rows.scanReadsRow.holds Try.pinned (OpenSpec.ofChange Rows.scanReadsSpec) :=
  OpenClaim.holds_of_wide 12 Try.f12 rfl rfl rfl rfl rfl rfl rfl ⟨rfl, rfl, rfl, rfl, rfl⟩ rfl rfl rfl rfl rfl (by kernel_rfl) Try.func12 (by kernel_rfl)
    (of_decide_eq_true (by kernel_rfl)) (by unfold Func.isWrapper; first | (rw [if_pos (by decide +kernel)]; kernel_rfl) | (rw [if_neg (by decide +kernel)]; exact ⟨rfl, rfl⟩))
    (fun os started H enc _ => lifted os started H enc)

theorem proved : Rows.ScanReadsSaid :=
  over
end Go.Proofs.Ytgbagifmelkkhaa.scanReads
