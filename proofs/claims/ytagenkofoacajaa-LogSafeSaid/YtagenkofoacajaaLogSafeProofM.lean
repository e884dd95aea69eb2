/- P15.3: what grew and was flushed is opened again, behind any crash of one more Grow, whatever is kept. -/
import Derived.Test.YtagenkofoacajaaRows
import Derived.WalkKit
import Derived.Test.YtagenkofoacajaaYLlogsafe
import Derived.Test.YtagenkofoacajaaPf
import Derived.Test.YtagenkofoacajaaSh
import Derived.ProofKit
import Derived.OpenShut
import Derived.ShutString
import Derived.ChangeOld
import Derived.Below
namespace Go.Proofs.Ytagenkofoacajaa.logSafe
open Go.ChangeShapes Go.WideShapes Go.ChangeAt Go.RowKit
open Go.ChangeMaps (open_string shut_string)
set_option linter.unusedVariables false

theorem own : ownKnob Try.prog.godebug = none := pf_own
theorem laidOut : laidOutB Try.prog = true := pf_laid


theorem walk (a0 : ByteArray) (a1 : ByteArray) (a2 : Int) (x3 : SlX (Sh.Den (.int .i64))) (w : World) (w0 : a0.size ≤ maxLen) (w1 : a1.size ≤ maxLen) (w2 : (Lit.int .i64 a2).wf = true) (w3 : RdX (Sh.cells (.int .i64)) (Sh.size (.int .i64)) w x3.a x3.n x3.l ∧ x3.n ≤ x3.c ∧ x3.c ≤ maxLen ∧ ∀ y ∈ x3.l, Sh.Ok w (.int .i64) y) :
    Calls Try.prog 3 #[.string a0, .string a1, .int .i64 a2, .slice x3.a x3.n x3.c] w fun e w' => e = .returned (.bool true) ∧ Below w.heap.size w w' := by
  obtain ⟨_, s1⟩ := bounds_i64 w2
  have rdm : ∀ {α β : Type} {f : α → List Value} {g : β → List Value} {s : Nat} {w : World} {A : Option Addr} {n : Nat} {l : List α} (φ : α → β), (∀ x, g (φ x) = f x) → RdX f s w A n l → RdX g s w A n (l.map φ) := by
    intro α β f g s w A n l φ hf h
    refine ⟨by rw [List.length_map]; exact h.1, fun hn => ?_⟩
    obtain ⟨b, off, e, hb, hc⟩ := h.2 hn
    refine ⟨b, off, e, hb, fun k x j u hx hu => ?_⟩
    rw [List.getElem?_map] at hx
    obtain ⟨y, hy, rfl⟩ := Option.map_eq_some_iff.1 hx
    rw [hf] at hu
    exact hc k y j u hy hu
  exact logsafe_any a0 a1 a2 x3.a x3.n x3.c (x3.l.map (fun z : Sh.Den (.int .i64) => (z : Int))) w s1 (rdm _ (fun _ => rfl) w3.1) (fun x hx => by
    obtain ⟨y, hy, rfl⟩ := List.mem_map.1 hx
    exact w3.2.2.2 y hy) (Nat.le_trans w3.2.1 w3.2.2.1)

set_option maxRecDepth 100000 in
theorem lifted (os : Os) (started : os.Started) (H : Type) (enc : TypeId × Value → H) :
    ReturnsInHanded {} Try.checked os 3 .any (Rows.logSafeSpec.pre6 enc Try.prog Try.f3 Rows.logSafeRow.domain false) (Rows.logSafeSpec.post enc Try.prog Try.f3 false true false false) := by
  refine returnsInHanded_of_change (C := Try.checked) own started (by kernel_rfl) Try.func3
    (ChangeSpec.witness6 (enc := enc) (C := Try.checked) false ⟨#[], #[.string ByteArray.empty, .string ByteArray.empty, .int .i64 0, .slice none 0 0], []⟩ 8 (by kernel_rfl) (by kernel_rfl) (by kernel_rfl) (by kernel_rfl)) ?_
  intro W base args ds gs before hval0 hW hcnd _
  have hval : ∀ (j : Nat) t v, Try.f3.params[j]? = some t → args[j]? = some v → Value.okWide Try.prog W .any base t v := hval0
  have hW' := hW
  obtain ⟨p, q, hA0, hV, rfl, hfz, hnd⟩ := hW
  have hA : DataW.TrodAll enc Try.prog W 0 (fun _ => true) true Try.f3.params.toList args.toList ds p := hA0
  rw [Try.params3] at hA hval
  obtain ⟨v0, vs0, d0, ds0, p0, q0, hargs, rfl, rfl, h0, r0⟩ := trodAll_cons hA
  obtain ⟨v1, vs1, d1, ds1, p1, q1, rfl, rfl, rfl, h1, r1⟩ := trodAll_cons r0
  obtain ⟨v2, vs2, d2, ds2, p2, q2, rfl, rfl, rfl, h2, r2⟩ := trodAll_cons r1
  obtain ⟨v3, vs3, d3, ds3, p3, q3, rfl, rfl, rfl, h3, r3⟩ := trodAll_cons r2
  obtain ⟨rfl, rfl, rfl⟩ := trodAll_nil r3
  obtain rfl : args = #[v0, v1, v2, v3] := by first | exact Array.ext' hargs | exact Array.ext' hargs.symm | (cases args; simp_all)
  obtain ⟨rfl, rfl⟩ := trodVars_none hV
  obtain ⟨a0, rfl, rfl, rfl, w0⟩ := open_string Try.underlying9 (hval 0 9 v0 rfl rfl) h0
  obtain ⟨a1, rfl, rfl, rfl, w1⟩ := open_string Try.underlying9 (hval 1 9 v1 rfl rfl) h1
  obtain ⟨a2, rfl, rfl, rfl, w2⟩ := open_int Try.underlying3 (hval 2 3 v2 rfl rfl) h2
  have k3 := h3
  have lt3 : ∀ x ∈ p3, x.block < W.heap.size := by obtain ⟨m, hm⟩ := k3; exact DataW.trod_lt m _ _ _ hm
  obtain ⟨x3, rfl, w3⟩ := Sh.open_slX 30 (.int .i64) Try.underlying22 (by kernel_rfl) (hval 3 22 v3 rfl rfl) h3
  clear hA0 hval0
  refine (walk a0 a1 a2 x3 W w0 w1 w2 w3).mono fun e W' ⟨he, bel⟩ => ?_
  subst he
  exact ⟨_, rfl, _, _, _, [], _, [], hW', trodAll_mk1 (shut_bool Try.underlying4 _), (trodAll_cons_mk (shut_string Try.underlying9 w0) (trodAll_cons_mk (shut_string Try.underlying9 w1) (trodAll_cons_mk (shut_int Try.underlying3 w2) (trodAll_cons_mk (Below.trod laidOut (by kernel_rfl) (of_decide_eq_true (by kernel_rfl)) k3 bel lt3) trodAll_mk0)))), rfl, bel.frame _, fun h => by cases h⟩

theorem k_0 : (Rows.logSafeRow.wf (OpenSpec.ofChange Rows.logSafeSpec)) = true := by kernel_rfl
theorem k_3 : (Try.f3.params.all (Try.pinned.checked.prog.readableRec ·)) = true := by kernel_rfl
theorem k_4 : (namedTie Try.pinned.checked.prog Rows.logSafeRow.named Rows.logSafeSpec.vars) = true := by kernel_rfl
theorem k_5 : ((Rows.logSafeRow.stops == [])) = true := by kernel_rfl
theorem k_7 : ((Rows.logSafeRow.knobs == [])) = true := by kernel_rfl
theorem k_9 : ((Rows.logSafeRow.inPlace == Try.pinned.checked.prog.inPlace 3)) = true := by kernel_rfl
theorem k_10 : ((Rows.logSafeRow.unfollowed == Try.pinned.checked.prog.unfollowed 3)) = true := by kernel_rfl
theorem k_11 : ((Rows.logSafeRow.recurses == Try.pinned.checked.prog.recurses 3)) = true := by kernel_rfl
theorem k_12 : ((Rows.logSafeRow.named == Try.pinned.checked.prog.varsNamed 3)) = true := by kernel_rfl
theorem k_13 : ((Rows.logSafeRow.maps == (Try.f3.params.toList ++ Rows.logSafeSpec.plain.varTypes Try.pinned.checked.prog).any (Try.pinned.checked.prog.mapsRec ·))) = true := by kernel_rfl
theorem k_14 : ((Rows.logSafeRow.ifaces == (Try.f3.params.toList ++ Rows.logSafeSpec.plain.varTypes Try.pinned.checked.prog).any (Try.pinned.checked.prog.ifacesRec ·))) = true := by kernel_rfl
theorem k_15 : ((Rows.logSafeRow.mapsOut == Try.pinned.checked.prog.mapsAmong Try.f3.resultTypes.toList)) = true := by kernel_rfl
theorem k_16 : ((Rows.logSafeRow.loops == (Try.f3.params.toList ++ Rows.logSafeSpec.plain.varTypes Try.pinned.checked.prog).any (Try.pinned.checked.prog.loopsFrom ·))) = true := by kernel_rfl
theorem k_17 : ((Rows.logSafeRow.wideKeys == (Try.f3.params.toList ++ Rows.logSafeSpec.plain.varTypes Try.pinned.checked.prog ++ Try.f3.resultTypes.toList).any (Try.pinned.checked.prog.wideKeysFrom ·))) = true := by kernel_rfl
theorem k_18 : (Rows.logSafeSpec.vars.all (Try.pinned.checked.prog.varReadable ·)) = true := by kernel_rfl
theorem k_19 : (Try.f3.resultTypes.all (fun t => Try.pinned.checked.prog.readableRec t && decide (t < Try.pinned.checked.prog.types.size))) = true := by kernel_rfl
theorem k_20 : ((Rows.logSafeRow.ifacesOut == Try.f3.resultTypes.toList.any (Try.pinned.checked.prog.ifacesRec ·))) = true := by kernel_rfl
theorem k_21 : ((Rows.logSafeRow.loopsOut == Try.f3.resultTypes.toList.any (Try.pinned.checked.prog.loopsFrom ·))) = true := by kernel_rfl
theorem k_23 : (Rows.logSafeRow.shortTexts.isNone) = true := by kernel_rfl
theorem k_28 : ((Rows.logSafeRow.kinds == (if Rows.logSafeRow.domain.isEmpty then [] else Try.f3.params.toList.map fun t => match Try.pinned.checked.prog.underlying t with | some (.int k) => some k | _ => none))) = true := by kernel_rfl
theorem k_29 : ((Rows.logSafeRow.pinned == Rows.logSafeRow.pinnedBy)) = true := by kernel_rfl
theorem k_30 : ((Rows.logSafeRow.veiled == (Try.f3.params.toList ++ Rows.logSafeSpec.plain.varTypes Try.pinned.checked.prog ++ Try.f3.resultTypes.toList).any (Try.pinned.checked.prog.veiledRec ·))) = true := by kernel_rfl
theorem k_31 : (Rows.logSafeRow.veiledFits Try.pinned.checked.prog Try.f3.params.toList (Try.f3.params.toList ++ Rows.logSafeSpec.plain.varTypes Try.pinned.checked.prog ++ Try.f3.resultTypes.toList)) = true := by kernel_rfl
set_option maxRecDepth 100000 in
theorem closed : joinedFacts Try.pinned.checked.prog 3 Try.f3 Rows.logSafeSpec Rows.logSafeRow = true := by
  unfold joinedFacts
  exact band (band (band (band (band (band (band (band (band (band (band (band (band (band (band (band (band (band (band (band (band (band (band (band (band (band (band (band (band (band (band k_0 pf_1) pf_2) k_3) k_4) k_5) pf_6) k_7) pf_8) k_9) k_10) k_11) k_12) k_13) k_14) k_15) k_16) k_17) k_18) k_19) k_20) k_21) pf_22) k_23) pf_24) pf_25) pf_26) pf_27) k_28) k_29) k_30) k_31

theorem over : Rows.logSafeRow.holds Try.pinned (OpenSpec.ofChange Rows.logSafeSpec) :=
  OpenClaim.holds_of_wide 3 Try.f3 rfl rfl rfl rfl rfl rfl rfl ⟨rfl, rfl, rfl, rfl, rfl⟩ rfl rfl rfl rfl rfl (by kernel_rfl) Try.func3 closed
    (of_decide_eq_true (by kernel_rfl)) (by unfold Func.isWrapper; first | (rw [if_pos (by decide +kernel)]; kernel_rfl) | (rw [if_neg (by decide +kernel)]; exact ⟨rfl, rfl⟩))
    (fun os started H enc _ => lifted os started H enc)

theorem proved : Rows.LogSafeSaid :=
  over
end Go.Proofs.Ytagenkofoacajaa.logSafe
