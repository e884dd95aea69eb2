/- P26.1: Check tells what is wrong, Copy is the same, Same tells what is the same -/
import Derived.Test.YtbjngbacnkmjhaaRows
import Derived.WalkKit
import Derived.Test.YtbjngbacnkmjhaaLgchk
import Derived.Test.YtbjngbacnkmjhaaPf
import Derived.Test.YtbjngbacnkmjhaaSh
import Derived.ProofKit
import Derived.OpenShut
import Derived.ShutString
import Derived.ChangeOld
import Derived.Below
namespace Go.Proofs.Ytbjngbacnkmjhaa.graphChecks
open Go.ChangeShapes Go.WideShapes Go.ChangeAt Go.RowKit
open Go.ChangeMaps (open_string shut_string)
set_option linter.unusedVariables false

theorem own : ownKnob Try.prog.godebug = none := pf_own
theorem laidOut : laidOutB Try.prog = true := pf_laid


theorem walk (x0 : Sh.Den (.pair (.slice (.pair (.str) (.pair (.slice (.str)) (.slice (.pair (.str) (.pair (.int .i64) (.pair (.int .i64) (.str)))))))) (.slice (.pair (.str) (.pair (.str) (.pair (.str) (.pair (.slice (.str)) (.slice (.pair (.str) (.pair (.int .i64) (.pair (.int .i64) (.str)))))))))))) (x1 : Sh.Den (.pair (.slice (.pair (.str) (.pair (.slice (.str)) (.slice (.pair (.str) (.pair (.int .i64) (.pair (.int .i64) (.str)))))))) (.slice (.pair (.str) (.pair (.str) (.pair (.str) (.pair (.slice (.str)) (.slice (.pair (.str) (.pair (.int .i64) (.pair (.int .i64) (.str)))))))))))) (w : World) (w0 : Sh.Ok w (.pair (.slice (.pair (.str) (.pair (.slice (.str)) (.slice (.pair (.str) (.pair (.int .i64) (.pair (.int .i64) (.str)))))))) (.slice (.pair (.str) (.pair (.str) (.pair (.str) (.pair (.slice (.str)) (.slice (.pair (.str) (.pair (.int .i64) (.pair (.int .i64) (.str))))))))))) x0) (w1 : Sh.Ok w (.pair (.slice (.pair (.str) (.pair (.slice (.str)) (.slice (.pair (.str) (.pair (.int .i64) (.pair (.int .i64) (.str)))))))) (.slice (.pair (.str) (.pair (.str) (.pair (.str) (.pair (.slice (.str)) (.slice (.pair (.str) (.pair (.int .i64) (.pair (.int .i64) (.str))))))))))) x1) :
    Calls Try.prog 7 #[.agg ⟨Sh.cells (.pair (.slice (.pair (.str) (.pair (.slice (.str)) (.slice (.pair (.str) (.pair (.int .i64) (.pair (.int .i64) (.str)))))))) (.slice (.pair (.str) (.pair (.str) (.pair (.str) (.pair (.slice (.str)) (.slice (.pair (.str) (.pair (.int .i64) (.pair (.int .i64) (.str))))))))))) x0⟩, .agg ⟨Sh.cells (.pair (.slice (.pair (.str) (.pair (.slice (.str)) (.slice (.pair (.str) (.pair (.int .i64) (.pair (.int .i64) (.str)))))))) (.slice (.pair (.str) (.pair (.str) (.pair (.str) (.pair (.slice (.str)) (.slice (.pair (.str) (.pair (.int .i64) (.pair (.int .i64) (.str))))))))))) x1⟩] w fun e w' => e = .returned (.bool true) ∧ Below w.heap.size w w' := by
  obtain ⟨q1, q2⟩ := gr_of x0.1 x0.2 w0.1 w0.2
  obtain ⟨r1, _⟩ := gr_of x1.1 x1.2 w1.1 w1.2
  exact LGraphChecks.walk x0.1.a x0.2.a x1.1.a x1.2.a x0.1.n x0.1.c x0.2.n x0.2.c x1.1.n x1.1.c x1.2.n x1.2.c _ _ _ _ w q1 q2 r1

set_option maxRecDepth 100000 in
theorem lifted (os : Os) (started : os.Started) (H : Type) (enc : TypeId × Value → H) :
    ReturnsInHanded {} Try.checked os 7 .any (Rows.graphChecksSpec.pre6 enc Try.prog Try.f7 Rows.graphChecksRow.domain false) (Rows.graphChecksSpec.post enc Try.prog Try.f7 false true false false) := by
  refine returnsInHanded_of_change (C := Try.checked) own started (by kernel_rfl) Try.func7
    (ChangeSpec.witness6 (enc := enc) (C := Try.checked) false ⟨#[], #[.agg #[.slice none 0 0, .slice none 0 0], .agg #[.slice none 0 0, .slice none 0 0]], []⟩ 8 (by kernel_rfl) (by kernel_rfl) (by kernel_rfl) (by kernel_rfl)) ?_
  intro W base args ds gs before hval0 hW hcnd _
  have hval : ∀ (j : Nat) t v, Try.f7.params[j]? = some t → args[j]? = some v → Value.okWide Try.prog W .any base t v := hval0
  have hW' := hW
  obtain ⟨p, q, hA0, hV, rfl, hfz, hnd⟩ := hW
  have hA : DataW.TrodAll enc Try.prog W 0 (fun _ => true) true Try.f7.params.toList args.toList ds p := hA0
  rw [Try.params7] at hA hval
  obtain ⟨v0, vs0, d0, ds0, p0, q0, hargs, rfl, rfl, h0, r0⟩ := trodAll_cons hA
  obtain ⟨v1, vs1, d1, ds1, p1, q1, rfl, rfl, rfl, h1, r1⟩ := trodAll_cons r0
  obtain ⟨rfl, rfl, rfl⟩ := trodAll_nil r1
  obtain rfl : args = #[v0, v1] := by first | exact Array.ext' hargs | exact Array.ext' hargs.symm | (cases args; simp_all)
  obtain ⟨rfl, rfl⟩ := trodVars_none hV
  have k0 := h0
  have lt0 : ∀ x ∈ p0, x.block < W.heap.size := by obtain ⟨m, hm⟩ := k0; exact DataW.trod_lt m _ _ _ hm
  obtain ⟨x0, rfl, w0⟩ := Sh.open_struct 30 (.pair (.slice (.pair (.str) (.pair (.slice (.str)) (.slice (.pair (.str) (.pair (.int .i64) (.pair (.int .i64) (.str)))))))) (.slice (.pair (.str) (.pair (.str) (.pair (.str) (.pair (.slice (.str)) (.slice (.pair (.str) (.pair (.int .i64) (.pair (.int .i64) (.str))))))))))) Try.underlying65 (by kernel_rfl) (hval 0 65 v0 rfl rfl) h0
  have k1 := h1
  have lt1 : ∀ x ∈ p1, x.block < W.heap.size := by obtain ⟨m, hm⟩ := k1; exact DataW.trod_lt m _ _ _ hm
  obtain ⟨x1, rfl, w1⟩ := Sh.open_struct 30 (.pair (.slice (.pair (.str) (.pair (.slice (.str)) (.slice (.pair (.str) (.pair (.int .i64) (.pair (.int .i64) (.str)))))))) (.slice (.pair (.str) (.pair (.str) (.pair (.str) (.pair (.slice (.str)) (.slice (.pair (.str) (.pair (.int .i64) (.pair (.int .i64) (.str))))))))))) Try.underlying65 (by kernel_rfl) (hval 1 65 v1 rfl rfl) h1
  clear hA0 hval0
  refine (walk x0 x1 W w0 w1).mono fun e W' ⟨he, bel⟩ => ?_
  subst he
  exact ⟨_, rfl, _, _, _, [], _, [], hW', trodAll_mk1 (shut_bool Try.underlying4 _), (trodAll_cons_mk (Below.trod laidOut (by kernel_rfl) (of_decide_eq_true (by kernel_rfl)) k0 bel lt0) (trodAll_cons_mk (Below.trod laidOut (by kernel_rfl) (of_decide_eq_true (by kernel_rfl)) k1 bel lt1) trodAll_mk0)), rfl, bel.frame _, fun h => by cases h⟩

theorem k_0 : (Rows.graphChecksRow.wf (OpenSpec.ofChange Rows.graphChecksSpec)) = true := by kernel_rfl
theorem k_3 : (Try.f7.params.all (Try.pinned.checked.prog.readableRec ·)) = true := by kernel_rfl
theorem k_4 : (namedTie Try.pinned.checked.prog Rows.graphChecksRow.named Rows.graphChecksSpec.vars) = true := by kernel_rfl
theorem k_5 : ((Rows.graphChecksRow.stops == [])) = true := by kernel_rfl
theorem k_7 : ((Rows.graphChecksRow.knobs == [])) = true := by kernel_rfl
theorem k_9 : ((Rows.graphChecksRow.inPlace == Try.pinned.checked.prog.inPlace 7)) = true := by kernel_rfl
theorem k_10 : ((Rows.graphChecksRow.unfollowed == Try.pinned.checked.prog.unfollowed 7)) = true := by kernel_rfl
theorem k_11 : ((Rows.graphChecksRow.recurses == Try.pinned.checked.prog.recurses 7)) = true := by kernel_rfl
theorem k_12 : ((Rows.graphChecksRow.named == Try.pinned.checked.prog.varsNamed 7)) = true := by kernel_rfl
theorem k_13 : ((Rows.graphChecksRow.maps == (Try.f7.params.toList ++ Rows.graphChecksSpec.plain.varTypes Try.pinned.checked.prog).any (Try.pinned.checked.prog.mapsRec ·))) = true := by kernel_rfl
theorem k_14 : ((Rows.graphChecksRow.ifaces == (Try.f7.params.toList ++ Rows.graphChecksSpec.plain.varTypes Try.pinned.checked.prog).any (Try.pinned.checked.prog.ifacesRec ·))) = true := by kernel_rfl
theorem k_15 : ((Rows.graphChecksRow.mapsOut == Try.pinned.checked.prog.mapsAmong Try.f7.resultTypes.toList)) = true := by kernel_rfl
theorem k_16 : ((Rows.graphChecksRow.loops == (Try.f7.params.toList ++ Rows.graphChecksSpec.plain.varTypes Try.pinned.checked.prog).any (Try.pinned.checked.prog.loopsFrom ·))) = true := by kernel_rfl
theorem k_17 : ((Rows.graphChecksRow.wideKeys == (Try.f7.params.toList ++ Rows.graphChecksSpec.plain.varTypes Try.pinned.checked.prog ++ Try.f7.resultTypes.toList).any (Try.pinned.checked.prog.wideKeysFrom ·))) = true := by kernel_rfl
theorem k_18 : (Rows.graphChecksSpec.vars.all (Try.pinned.checked.prog.varReadable ·)) = true := by kernel_rfl
theorem k_19 : (Try.f7.resultTypes.all (fun t => Try.pinned.checked.prog.readableRec t && decide (t < Try.pinned.checked.prog.types.size))) = true := by kernel_rfl
theorem k_20 : ((Rows.graphChecksRow.ifacesOut == Try.f7.resultTypes.toList.any (Try.pinned.checked.prog.ifacesRec ·))) = true := by kernel_rfl
theorem k_21 : ((Rows.graphChecksRow.loopsOut == Try.f7.resultTypes.toList.any (Try.pinned.checked.prog.loopsFrom ·))) = true := by kernel_rfl
theorem k_23 : (Rows.graphChecksRow.shortTexts.isNone) = true := by kernel_rfl
theorem k_28 : ((Rows.graphChecksRow.kinds == (if Rows.graphChecksRow.domain.isEmpty then [] else Try.f7.params.toList.map fun t => match Try.pinned.checked.prog.underlying t with | some (.int k) => some k | _ => none))) = true := by kernel_rfl
theorem k_29 : ((Rows.graphChecksRow.pinned == Rows.graphChecksRow.pinnedBy)) = true := by kernel_rfl
theorem k_30 : ((Rows.graphChecksRow.veiled == (Try.f7.params.toList ++ Rows.graphChecksSpec.plain.varTypes Try.pinned.checked.prog ++ Try.f7.resultTypes.toList).any (Try.pinned.checked.prog.veiledRec ·))) = true := by kernel_rfl
theorem k_31 : (Rows.graphChecksRow.veiledFits Try.pinned.checked.prog Try.f7.params.toList (Try.f7.params.toList ++ Rows.graphChecksSpec.plain.varTypes Try.pinned.checked.prog ++ Try.f7.resultTypes.toList)) = true := by kernel_rfl
set_option maxRecDepth 100000 in
theorem closed : joinedFacts Try.pinned.checked.prog 7 Try.f7 Rows.graphChecksSpec Rows.graphChecksRow = true := by
  unfold joinedFacts
  exact band (band (band (band (band (band (band (band (band (band (band (band (band (band (band (band (band (band (band (band (band (band (band (band (band (band (band (band (band (band (band k_0 pf_1) pf_2) k_3) k_4) k_5) pf_6) k_7) pf_8) k_9) k_10) k_11) k_12) k_13) k_14) k_15) k_16) k_17) k_18) k_19) k_20) k_21) pf_22) k_23) pf_24) pf_25) pf_26) pf_27) k_28) k_29) k_30) k_31

theorem over : Rows.graphChecksRow.holds Try.pinned (OpenSpec.ofChange Rows.graphChecksSpec) :=
  OpenClaim.holds_of_wide 7 Try.f7 rfl rfl rfl rfl rfl rfl rfl ⟨rfl, rfl, rfl, rfl, rfl⟩ rfl rfl rfl rfl rfl (by kernel_rfl) Try.func7 closed
    (of_decide_eq_true (by kernel_rfl)) (by unfold Func.isWrapper; first | (rw [if_pos (by decide +kernel)]; kernel_rfl) | (rw [if_neg (by decide +kernel)]; exact ⟨rfl, rfl⟩))
    (fun os started H enc _ => lifted os started H enc)

theorem proved : Rows.GraphChecksSaid :=
  over
end Go.Proofs.Ytbjngbacnkmjhaa.graphChecks
