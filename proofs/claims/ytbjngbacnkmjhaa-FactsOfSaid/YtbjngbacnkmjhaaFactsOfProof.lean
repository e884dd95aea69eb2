/- P27.1: the facts of a graph are those the document tells, and they rise -/
import Derived.Test.YtbjngbacnkmjhaaRows
import Derived.WalkKit
import Derived.Test.YtbjngbacnkmjhaaLfctsof
import Derived.Test.YtbjngbacnkmjhaaPf
import Derived.Test.YtbjngbacnkmjhaaSh
import Derived.ProofKit
import Derived.OpenShut
import Derived.ShutString
import Derived.ChangeOld
import Derived.Below
namespace Go.Proofs.Ytbjngbacnkmjhaa.factsOf
open Go.ChangeShapes Go.WideShapes Go.ChangeAt Go.RowKit
open Go.ChangeMaps (open_string shut_string)
set_option linter.unusedVariables false

theorem own : ownKnob Try.prog.godebug = none := pf_own
theorem laidOut : laidOutB Try.prog = true := pf_laid


theorem walk (x0 : Sh.Den (.pair (.slice (.pair (.str) (.pair (.slice (.str)) (.slice (.pair (.str) (.pair (.int .i64) (.pair (.int .i64) (.str)))))))) (.slice (.pair (.str) (.pair (.str) (.pair (.str) (.pair (.slice (.str)) (.slice (.pair (.str) (.pair (.int .i64) (.pair (.int .i64) (.str)))))))))))) (w : World) (w0 : Sh.Ok w (.pair (.slice (.pair (.str) (.pair (.slice (.str)) (.slice (.pair (.str) (.pair (.int .i64) (.pair (.int .i64) (.str)))))))) (.slice (.pair (.str) (.pair (.str) (.pair (.str) (.pair (.slice (.str)) (.slice (.pair (.str) (.pair (.int .i64) (.pair (.int .i64) (.str))))))))))) x0) :
    Calls Try.prog 8 #[.agg ⟨Sh.cells (.pair (.slice (.pair (.str) (.pair (.slice (.str)) (.slice (.pair (.str) (.pair (.int .i64) (.pair (.int .i64) (.str)))))))) (.slice (.pair (.str) (.pair (.str) (.pair (.str) (.pair (.slice (.str)) (.slice (.pair (.str) (.pair (.int .i64) (.pair (.int .i64) (.str))))))))))) x0⟩] w fun e w' => e = .returned (.bool true) ∧ Below w.heap.size w w' := by
  obtain ⟨q1, q2⟩ := gr_of x0.1 x0.2 w0.1 w0.2
  exact LFactsOf.walk x0.1.a x0.2.a x0.1.n x0.1.c x0.2.n x0.2.c _ _ w q1 q2 (LFactsOf.gr_int x0.1 x0.2 w0.1 w0.2)

set_option maxRecDepth 100000 in
theorem lifted (os : Os) (started : os.Started) (H : Type) (enc : TypeId × Value → H) :
    ReturnsInHanded {} Try.checked os 8 .any (Rows.factsOfSpec.pre6 enc Try.prog Try.f8 Rows.factsOfRow.domain false) (Rows.factsOfSpec.post enc Try.prog Try.f8 false true false false) := by
  refine returnsInHanded_of_change (C := Try.checked) own started (by kernel_rfl) Try.func8
    (ChangeSpec.witness6 (enc := enc) (C := Try.checked) false ⟨#[], #[.agg #[.slice none 0 0, .slice none 0 0]], []⟩ 8 (by kernel_rfl) (by kernel_rfl) (by kernel_rfl) (by kernel_rfl)) ?_
  intro W base args ds gs before hval0 hW hcnd _
  have hval : ∀ (j : Nat) t v, Try.f8.params[j]? = some t → args[j]? = some v → Value.okWide Try.prog W .any base t v := hval0
  have hW' := hW
  obtain ⟨p, q, hA0, hV, rfl, hfz, hnd⟩ := hW
  have hA : DataW.TrodAll enc Try.prog W 0 (fun _ => true) true Try.f8.params.toList args.toList ds p := hA0
  rw [Try.params8] at hA hval
  obtain ⟨v0, vs0, d0, ds0, p0, q0, hargs, rfl, rfl, h0, r0⟩ := trodAll_cons hA
  obtain ⟨rfl, rfl, rfl⟩ := trodAll_nil r0
  obtain rfl : args = #[v0] := by first | exact Array.ext' hargs | exact Array.ext' hargs.symm | (cases args; simp_all)
  obtain ⟨rfl, rfl⟩ := trodVars_none hV
  have k0 := h0
  have lt0 : ∀ x ∈ p0, x.block < W.heap.size := by obtain ⟨m, hm⟩ := k0; exact DataW.trod_lt m _ _ _ hm
  obtain ⟨x0, rfl, w0⟩ := Sh.open_struct 30 (.pair (.slice (.pair (.str) (.pair (.slice (.str)) (.slice (.pair (.str) (.pair (.int .i64) (.pair (.int .i64) (.str)))))))) (.slice (.pair (.str) (.pair (.str) (.pair (.str) (.pair (.slice (.str)) (.slice (.pair (.str) (.pair (.int .i64) (.pair (.int .i64) (.str))))))))))) Try.underlying65 (by kernel_rfl) (hval 0 65 v0 rfl rfl) h0
  clear hA0 hval0
  refine (walk x0 W w0).mono fun e W' ⟨he, bel⟩ => ?_
  subst he
  exact ⟨_, rfl, _, _, _, [], _, [], hW', trodAll_mk1 (shut_bool Try.underlying4 _), (trodAll_cons_mk (Below.trod laidOut (by kernel_rfl) (of_decide_eq_true (by kernel_rfl)) k0 bel lt0) trodAll_mk0), rfl, bel.frame _, fun h => by cases h⟩

theorem k_0 : (Rows.factsOfRow.wf (OpenSpec.ofChange Rows.factsOfSpec)) = true := by kernel_rfl
theorem k_3 : (Try.f8.params.all (Try.pinned.checked.prog.readableRec ·)) = true := by kernel_rfl
theorem k_4 : (namedTie Try.pinned.checked.prog Rows.factsOfRow.named Rows.factsOfSpec.vars) = true := by kernel_rfl
theorem k_5 : ((Rows.factsOfRow.stops == [])) = true := by kernel_rfl
theorem k_7 : ((Rows.factsOfRow.knobs == [])) = true := by kernel_rfl
theorem k_9 : ((Rows.factsOfRow.inPlace == Try.pinned.checked.prog.inPlace 8)) = true := by kernel_rfl
theorem k_10 : ((Rows.factsOfRow.unfollowed == Try.pinned.checked.prog.unfollowed 8)) = true := by kernel_rfl
theorem k_11 : ((Rows.factsOfRow.recurses == Try.pinned.checked.prog.recurses 8)) = true := by kernel_rfl
theorem k_12 : ((Rows.factsOfRow.named == Try.pinned.checked.prog.varsNamed 8)) = true := by kernel_rfl
theorem k_13 : ((Rows.factsOfRow.maps == (Try.f8.params.toList ++ Rows.factsOfSpec.plain.varTypes Try.pinned.checked.prog).any (Try.pinned.checked.prog.mapsRec ·))) = true := by kernel_rfl
theorem k_14 : ((Rows.factsOfRow.ifaces == (Try.f8.params.toList ++ Rows.factsOfSpec.plain.varTypes Try.pinned.checked.prog).any (Try.pinned.checked.prog.ifacesRec ·))) = true := by kernel_rfl
theorem k_15 : ((Rows.factsOfRow.mapsOut == Try.pinned.checked.prog.mapsAmong Try.f8.resultTypes.toList)) = true := by kernel_rfl
theorem k_16 : ((Rows.factsOfRow.loops == (Try.f8.params.toList ++ Rows.factsOfSpec.plain.varTypes Try.pinned.checked.prog).any (Try.pinned.checked.prog.loopsFrom ·))) = true := by kernel_rfl
theorem k_17 : ((Rows.factsOfRow.wideKeys == (Try.f8.params.toList ++ Rows.factsOfSpec.plain.varTypes Try.pinned.checked.prog ++ Try.f8.resultTypes.toList).any (Try.pinned.checked.prog.wideKeysFrom ·))) = true := by kernel_rfl
theorem k_18 : (Rows.factsOfSpec.vars.all (Try.pinned.checked.prog.varReadable ·)) = true := by kernel_rfl
theorem k_19 : (Try.f8.resultTypes.all (fun t => Try.pinned.checked.prog.readableRec t && decide (t < Try.pinned.checked.prog.types.size))) = true := by kernel_rfl
theorem k_20 : ((Rows.factsOfRow.ifacesOut == Try.f8.resultTypes.toList.any (Try.pinned.checked.prog.ifacesRec ·))) = true := by kernel_rfl
theorem k_21 : ((Rows.factsOfRow.loopsOut == Try.f8.resultTypes.toList.any (Try.pinned.checked.prog.loopsFrom ·))) = true := by kernel_rfl
theorem k_23 : (Rows.factsOfRow.shortTexts.isNone) = true := by kernel_rfl
theorem k_28 : ((Rows.factsOfRow.kinds == (if Rows.factsOfRow.domain.isEmpty then [] else Try.f8.params.toList.map fun t => match Try.pinned.checked.prog.underlying t with | some (.int k) => some k | _ => none))) = true := by kernel_rfl
theorem k_29 : ((Rows.factsOfRow.pinned == Rows.factsOfRow.pinnedBy)) = true := by kernel_rfl
theorem k_30 : ((Rows.factsOfRow.veiled == (Try.f8.params.toList ++ Rows.factsOfSpec.plain.varTypes Try.pinned.checked.prog ++ Try.f8.resultTypes.toList).any (Try.pinned.checked.prog.veiledRec ·))) = true := by kernel_rfl
theorem k_31 : (Rows.factsOfRow.veiledFits Try.pinned.checked.prog Try.f8.params.toList (Try.f8.params.toList ++ Rows.factsOfSpec.plain.varTypes Try.pinned.checked.prog ++ Try.f8.resultTypes.toList)) = true := by kernel_rfl
set_option maxRecDepth 100000 in
theorem closed : joinedFacts Try.pinned.checked.prog 8 Try.f8 Rows.factsOfSpec Rows.factsOfRow = true := by
  unfold joinedFacts
  exact band (band (band (band (band (band (band (band (band (band (band (band (band (band (band (band (band (band (band (band (band (band (band (band (band (band (band (band (band (band (band k_0 pf_1) pf_2) k_3) k_4) k_5) pf_6) k_7) pf_8) k_9) k_10) k_11) k_12) k_13) k_14) k_15) k_16) k_17) k_18) k_19) k_20) k_21) pf_22) k_23) pf_24) pf_25) pf_26) pf_27) k_28) k_29) k_30) k_31

theorem over : Rows.factsOfRow.holds Try.pinned (OpenSpec.ofChange Rows.factsOfSpec) :=
  OpenClaim.holds_of_wide 8 Try.f8 rfl rfl rfl rfl rfl rfl rfl ⟨rfl, rfl, rfl, rfl, rfl⟩ rfl rfl rfl rfl rfl (by kernel_rfl) Try.func8 closed
    (of_decide_eq_true (by kernel_rfl)) (by unfold Func.isWrapper; first | (rw [if_pos (by decide +kernel)]; kernel_rfl) | (rw [if_neg (by decide +kernel)]; exact ⟨rfl, rfl⟩))
    (fun os started H enc _ => lifted os started H enc)

theorem proved : Rows.FactsOfSaid :=
  over
end Go.Proofs.Ytbjngbacnkmjhaa.factsOf
