/- FactsDiff: what became of the facts of any row that rises in another one; and what any changes make of it. -/
import Derived.Test.YtpjpegmjcgkonaaRows
import Derived.WalkKit
import Derived.Test.YtpjpegmjcgkonaaYLfactsdiff
import Derived.Test.YtpjpegmjcgkonaaPf
import Derived.Test.YtpjpegmjcgkonaaSh
import Derived.ProofKit
import Derived.OpenShut
import Derived.ShutString
import Derived.ChangeOld
import Derived.Below
namespace Go.Proofs.Ytpjpegmjcgkonaa.factsDiff
open Go.ChangeShapes Go.WideShapes Go.ChangeAt Go.RowKit
open Go.ChangeMaps (open_string shut_string)
set_option linter.unusedVariables false

theorem own : ownKnob Try.prog.godebug = none := pf_own
theorem laidOut : laidOutB Try.prog = true := pf_laid


theorem walk (x0 : SlX (Sh.Den (.pair (.int .i64) (.pair (.str) (.pair (.str) (.str)))))) (x1 : SlX (Sh.Den (.pair (.int .i64) (.pair (.str) (.pair (.str) (.str)))))) (x2 : SlX (Sh.Den (.pair (.int .i64) (.pair (.str) (.pair (.str) (.pair (.bool) (.pair (.bool) (.pair (.str) (.str))))))))) (w : World) (w0 : RdX (Sh.cells (.pair (.int .i64) (.pair (.str) (.pair (.str) (.str))))) (Sh.size (.pair (.int .i64) (.pair (.str) (.pair (.str) (.str))))) w x0.a x0.n x0.l ∧ x0.n ≤ x0.c ∧ x0.c ≤ maxLen ∧ ∀ y ∈ x0.l, Sh.Ok w (.pair (.int .i64) (.pair (.str) (.pair (.str) (.str)))) y) (w1 : RdX (Sh.cells (.pair (.int .i64) (.pair (.str) (.pair (.str) (.str))))) (Sh.size (.pair (.int .i64) (.pair (.str) (.pair (.str) (.str))))) w x1.a x1.n x1.l ∧ x1.n ≤ x1.c ∧ x1.c ≤ maxLen ∧ ∀ y ∈ x1.l, Sh.Ok w (.pair (.int .i64) (.pair (.str) (.pair (.str) (.str)))) y) (w2 : RdX (Sh.cells (.pair (.int .i64) (.pair (.str) (.pair (.str) (.pair (.bool) (.pair (.bool) (.pair (.str) (.str)))))))) (Sh.size (.pair (.int .i64) (.pair (.str) (.pair (.str) (.pair (.bool) (.pair (.bool) (.pair (.str) (.str)))))))) w x2.a x2.n x2.l ∧ x2.n ≤ x2.c ∧ x2.c ≤ maxLen ∧ ∀ y ∈ x2.l, Sh.Ok w (.pair (.int .i64) (.pair (.str) (.pair (.str) (.pair (.bool) (.pair (.bool) (.pair (.str) (.str))))))) y) :
    Calls Try.prog 3 #[.slice x0.a x0.n x0.c, .slice x1.a x1.n x1.c, .slice x2.a x2.n x2.c] w fun e w' => e = .returned (.bool true) ∧ Below w.heap.size w w' := by
  exact LFactsDiff.walk x0.a x0.n x0.c x0.l x1.a x1.n x1.c x1.l x2.a x2.n x2.c x2.l w w0.1 w1.1 w2.1 w0.2.1 w1.2.1 w2.2.1 (Nat.le_trans w0.2.1 w0.2.2.1) (Nat.le_trans w1.2.1 w1.2.2.1)

set_option maxRecDepth 100000 in
theorem lifted (os : Os) (started : os.Started) (H : Type) (enc : TypeId × Value → H) :
    ReturnsInHanded {} Try.checked os 3 .any (Rows.factsDiffSpec.pre6 enc Try.prog Try.f3 Rows.factsDiffRow.domain false) (Rows.factsDiffSpec.post enc Try.prog Try.f3 false true false false) := by
  refine returnsInHanded_of_change (C := Try.checked) own started (by kernel_rfl) Try.func3
    (ChangeSpec.witness6 (enc := enc) (C := Try.checked) false ⟨#[], #[.slice none 0 0, .slice none 0 0, .slice none 0 0], []⟩ 8 (by kernel_rfl) (by kernel_rfl) (by kernel_rfl) (by kernel_rfl)) ?_
  intro W base args ds gs before hval0 hW hcnd _
  have hval : ∀ (j : Nat) t v, Try.f3.params[j]? = some t → args[j]? = some v → Value.okWide Try.prog W .any base t v := hval0
  have hW' := hW
  obtain ⟨p, q, hA0, hV, rfl, hfz, hnd⟩ := hW
  have hA : DataW.TrodAll enc Try.prog W 0 (fun _ => true) true Try.f3.params.toList args.toList ds p := hA0
  rw [Try.params3] at hA hval
  obtain ⟨v0, vs0, d0, ds0, p0, q0, hargs, rfl, rfl, h0, r0⟩ := trodAll_cons hA
  obtain ⟨v1, vs1, d1, ds1, p1, q1, rfl, rfl, rfl, h1, r1⟩ := trodAll_cons r0
  obtain ⟨v2, vs2, d2, ds2, p2, q2, rfl, rfl, rfl, h2, r2⟩ := trodAll_cons r1
  obtain ⟨rfl, rfl, rfl⟩ := trodAll_nil r2
  obtain rfl : args = #[v0, v1, v2] := by first | exact Array.ext' hargs | exact Array.ext' hargs.symm | (cases args; simp_all)
  obtain ⟨rfl, rfl⟩ := trodVars_none hV
  have k0 := h0
  have lt0 : ∀ x ∈ p0, x.block < W.heap.size := by obtain ⟨m, hm⟩ := k0; exact DataW.trod_lt m _ _ _ hm
  obtain ⟨x0, rfl, w0⟩ := Sh.open_slX 30 (.pair (.int .i64) (.pair (.str) (.pair (.str) (.str)))) Try.underlying22 (by kernel_rfl) (hval 0 22 v0 rfl rfl) h0
  have k1 := h1
  have lt1 : ∀ x ∈ p1, x.block < W.heap.size := by obtain ⟨m, hm⟩ := k1; exact DataW.trod_lt m _ _ _ hm
  obtain ⟨x1, rfl, w1⟩ := Sh.open_slX 30 (.pair (.int .i64) (.pair (.str) (.pair (.str) (.str)))) Try.underlying22 (by kernel_rfl) (hval 1 22 v1 rfl rfl) h1
  have k2 := h2
  have lt2 : ∀ x ∈ p2, x.block < W.heap.size := by obtain ⟨m, hm⟩ := k2; exact DataW.trod_lt m _ _ _ hm
  obtain ⟨x2, rfl, w2⟩ := Sh.open_slX 30 (.pair (.int .i64) (.pair (.str) (.pair (.str) (.pair (.bool) (.pair (.bool) (.pair (.str) (.str))))))) Try.underlying23 (by kernel_rfl) (hval 2 23 v2 rfl rfl) h2
  clear hA0 hval0
  refine (walk x0 x1 x2 W w0 w1 w2).mono fun e W' ⟨he, bel⟩ => ?_
  subst he
  exact ⟨_, rfl, _, _, _, [], _, [], hW', trodAll_mk1 (shut_bool Try.underlying4 _), (trodAll_cons_mk (Below.trod laidOut (by kernel_rfl) (of_decide_eq_true (by kernel_rfl)) k0 bel lt0) (trodAll_cons_mk (Below.trod laidOut (by kernel_rfl) (of_decide_eq_true (by kernel_rfl)) k1 bel lt1) (trodAll_cons_mk (Below.trod laidOut (by kernel_rfl) (of_decide_eq_true (by kernel_rfl)) k2 bel lt2) trodAll_mk0))), rfl, bel.frame _, fun h => by cases h⟩

theorem k_0 : (Rows.factsDiffRow.wf (OpenSpec.ofChange Rows.factsDiffSpec)) = true := by kernel_rfl
theorem k_3 : (Try.f3.params.all (Try.pinned.checked.prog.readableRec ·)) = true := by kernel_rfl
theorem k_4 : (namedTie Try.pinned.checked.prog Rows.factsDiffRow.named Rows.factsDiffSpec.vars) = true := by kernel_rfl
theorem k_5 : ((Rows.factsDiffRow.stops == [])) = true := by kernel_rfl
theorem k_7 : ((Rows.factsDiffRow.knobs == [])) = true := by kernel_rfl
theorem k_9 : ((Rows.factsDiffRow.inPlace == Try.pinned.checked.prog.inPlace 3)) = true := by kernel_rfl
theorem k_10 : ((Rows.factsDiffRow.unfollowed == Try.pinned.checked.prog.unfollowed 3)) = true := by kernel_rfl
theorem k_11 : ((Rows.factsDiffRow.recurses == Try.pinned.checked.prog.recurses 3)) = true := by kernel_rfl
theorem k_12 : ((Rows.factsDiffRow.named == Try.pinned.checked.prog.varsNamed 3)) = true := by kernel_rfl
theorem k_13 : ((Rows.factsDiffRow.maps == (Try.f3.params.toList ++ Rows.factsDiffSpec.plain.varTypes Try.pinned.checked.prog).any (Try.pinned.checked.prog.mapsRec ·))) = true := by kernel_rfl
theorem k_14 : ((Rows.factsDiffRow.ifaces == (Try.f3.params.toList ++ Rows.factsDiffSpec.plain.varTypes Try.pinned.checked.prog).any (Try.pinned.checked.prog.ifacesRec ·))) = true := by kernel_rfl
theorem k_15 : ((Rows.factsDiffRow.mapsOut == Try.pinned.checked.prog.mapsAmong Try.f3.resultTypes.toList)) = true := by kernel_rfl
theorem k_16 : ((Rows.factsDiffRow.loops == (Try.f3.params.toList ++ Rows.factsDiffSpec.plain.varTypes Try.pinned.checked.prog).any (Try.pinned.checked.prog.loopsFrom ·))) = true := by kernel_rfl
theorem k_17 : ((Rows.factsDiffRow.wideKeys == (Try.f3.params.toList ++ Rows.factsDiffSpec.plain.varTypes Try.pinned.checked.prog ++ Try.f3.resultTypes.toList).any (Try.pinned.checked.prog.wideKeysFrom ·))) = true := by kernel_rfl
theorem k_18 : (Rows.factsDiffSpec.vars.all (Try.pinned.checked.prog.varReadable ·)) = true := by kernel_rfl
theorem k_19 : (Try.f3.resultTypes.all (fun t => Try.pinned.checked.prog.readableRec t && decide (t < Try.pinned.checked.prog.types.size))) = true := by kernel_rfl
theorem k_20 : ((Rows.factsDiffRow.ifacesOut == Try.f3.resultTypes.toList.any (Try.pinned.checked.prog.ifacesRec ·))) = true := by kernel_rfl
theorem k_21 : ((Rows.factsDiffRow.loopsOut == Try.f3.resultTypes.toList.any (Try.pinned.checked.prog.loopsFrom ·))) = true := by kernel_rfl
theorem k_23 : (Rows.factsDiffRow.shortTexts.isNone) = true := by kernel_rfl
theorem k_28 : ((Rows.factsDiffRow.kinds == (if Rows.factsDiffRow.domain.isEmpty then [] else Try.f3.params.toList.map fun t => match Try.pinned.checked.prog.underlying t with | some (.int k) => some k | _ => none))) = true := by kernel_rfl
theorem k_29 : ((Rows.factsDiffRow.pinned == Rows.factsDiffRow.pinnedBy)) = true := by kernel_rfl
theorem k_30 : ((Rows.factsDiffRow.veiled == (Try.f3.params.toList ++ Rows.factsDiffSpec.plain.varTypes Try.pinned.checked.prog ++ Try.f3.resultTypes.toList).any (Try.pinned.checked.prog.veiledRec ·))) = true := by kernel_rfl
theorem k_31 : (Rows.factsDiffRow.veiledFits Try.pinned.checked.prog Try.f3.params.toList (Try.f3.params.toList ++ Rows.factsDiffSpec.plain.varTypes Try.pinned.checked.prog ++ Try.f3.resultTypes.toList)) = true := by kernel_rfl
set_option maxRecDepth 100000 in
theorem closed : joinedFacts Try.pinned.checked.prog 3 Try.f3 Rows.factsDiffSpec Rows.factsDiffRow = true := by
  unfold joinedFacts
  exact band (band (band (band (band (band (band (band (band (band (band (band (band (band (band (band (band (band (band (band (band (band (band (band (band (band (band (band (band (band (band k_0 pf_1) pf_2) k_3) k_4) k_5) pf_6) k_7) pf_8) k_9) k_10) k_11) k_12) k_13) k_14) k_15) k_16) k_17) k_18) k_19) k_20) k_21) pf_22) k_23) pf_24) pf_25) pf_26) pf_27) k_28) k_29) k_30) k_31

theorem over : Rows.factsDiffRow.holds Try.pinned (OpenSpec.ofChange Rows.factsDiffSpec) :=
  OpenClaim.holds_of_wide 3 Try.f3 rfl rfl rfl rfl rfl rfl rfl ⟨rfl, rfl, rfl, rfl, rfl⟩ rfl rfl rfl rfl rfl (by kernel_rfl) Try.func3 closed
    (of_decide_eq_true (by kernel_rfl)) (by unfold Func.isWrapper; first | (rw [if_pos (by decide +kernel)]; kernel_rfl) | (rw [if_neg (by decide +kernel)]; exact ⟨rfl, rfl⟩))
    (fun os started H enc _ => lifted os started H enc)

theorem proved : Rows.FactsDiffSaid :=
  over
end Go.Proofs.Ytpjpegmjcgkonaa.factsDiff
