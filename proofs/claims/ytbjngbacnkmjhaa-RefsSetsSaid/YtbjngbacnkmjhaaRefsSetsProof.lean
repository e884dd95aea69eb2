/- RefsSets holds: what a change of any ref makes of any refs, or why it may not be. Conditions: none beyond the statement. -/
import Derived.Test.YtbjngbacnkmjhaaRows
import Derived.WalkKit
import Derived.Test.YtbjngbacnkmjhaaLrefssets
import Derived.Test.YtbjngbacnkmjhaaPf
import Derived.Test.YtbjngbacnkmjhaaSh
import Derived.ProofKit
import Derived.OpenShut
import Derived.ShutString
import Derived.ChangeOld
import Derived.Below
namespace Go.Proofs.Ytbjngbacnkmjhaa.refsSets
open Go.ChangeShapes Go.WideShapes Go.ChangeAt Go.RowKit
open Go.ChangeMaps (open_string shut_string)
set_option linter.unusedVariables false

theorem own : ownKnob Try.prog.godebug = none := pf_own
theorem laidOut : laidOutB Try.prog = true := pf_laid


theorem walk (x0 : SlX (Sh.Den (.pair (.int .i64) (.pair (.str) (.str))))) (a1 : Int) (a2 : ByteArray) (a3 : ByteArray) (a4 : ByteArray) (w : World) (w0 : RdX (Sh.cells (.pair (.int .i64) (.pair (.str) (.str)))) (Sh.size (.pair (.int .i64) (.pair (.str) (.str)))) w x0.a x0.n x0.l ∧ x0.n ≤ x0.c ∧ x0.c ≤ maxLen ∧ ∀ y ∈ x0.l, Sh.Ok w (.pair (.int .i64) (.pair (.str) (.str))) y) (w1 : (Lit.int .i64 a1).wf = true) (w2 : a2.size ≤ maxLen) (w3 : a3.size ≤ maxLen) (w4 : a4.size ≤ maxLen) :
    Calls Try.prog 11 #[.slice x0.a x0.n x0.c, .int .i64 a1, .string a2, .string a3, .string a4] w fun e w' => e = .returned (.bool true) ∧ Below w.heap.size w w' := by
  exact LRefsSets.walk x0.a x0.n x0.c x0.l a1 a2 a3 a4 w w0.1 w0.2.1 w0.2.2.1 (fun r hr => (w0.2.2.2 r hr).2.1) w2

set_option maxRecDepth 100000 in
theorem lifted (os : Os) (started : os.Started) (H : Type) (enc : TypeId × Value → H) :
    ReturnsInHanded {} Try.checked os 11 .any (Rows.refsSetsSpec.pre6 enc Try.prog Try.f11 Rows.refsSetsRow.domain false) (Rows.refsSetsSpec.post enc Try.prog Try.f11 false true false false) := by
  refine returnsInHanded_of_change (C := Try.checked) own started (by kernel_rfl) Try.func11
    (ChangeSpec.witness6 (enc := enc) (C := Try.checked) false ⟨#[], #[.slice none 0 0, .int .i64 0, .string ByteArray.empty, .string ByteArray.empty, .string ByteArray.empty], []⟩ 8 (by kernel_rfl) (by kernel_rfl) (by kernel_rfl) (by kernel_rfl)) ?_
  intro W base args ds gs before hval0 hW hcnd _
  have hval : ∀ (j : Nat) t v, Try.f11.params[j]? = some t → args[j]? = some v → Value.okWide Try.prog W .any base t v := hval0
  have hW' := hW
  obtain ⟨p, q, hA0, hV, rfl, hfz, hnd⟩ := hW
  have hA : DataW.TrodAll enc Try.prog W 0 (fun _ => true) true Try.f11.params.toList args.toList ds p := hA0
  rw [Try.params11] at hA hval
  obtain ⟨v0, vs0, d0, ds0, p0, q0, hargs, rfl, rfl, h0, r0⟩ := trodAll_cons hA
  obtain ⟨v1, vs1, d1, ds1, p1, q1, rfl, rfl, rfl, h1, r1⟩ := trodAll_cons r0
  obtain ⟨v2, vs2, d2, ds2, p2, q2, rfl, rfl, rfl, h2, r2⟩ := trodAll_cons r1
  obtain ⟨v3, vs3, d3, ds3, p3, q3, rfl, rfl, rfl, h3, r3⟩ := trodAll_cons r2
  obtain ⟨v4, vs4, d4, ds4, p4, q4, rfl, rfl, rfl, h4, r4⟩ := trodAll_cons r3
  obtain ⟨rfl, rfl, rfl⟩ := trodAll_nil r4
  obtain rfl : args = #[v0, v1, v2, v3, v4] := by first | exact Array.ext' hargs | exact Array.ext' hargs.symm | (cases args; simp_all)
  obtain ⟨rfl, rfl⟩ := trodVars_none hV
  have k0 := h0
  have lt0 : ∀ x ∈ p0, x.block < W.heap.size := by obtain ⟨m, hm⟩ := k0; exact DataW.trod_lt m _ _ _ hm
  obtain ⟨x0, rfl, w0⟩ := Sh.open_slX 30 (.pair (.int .i64) (.pair (.str) (.str))) Try.underlying93 (by kernel_rfl) (hval 0 93 v0 rfl rfl) h0
  obtain ⟨a1, rfl, rfl, rfl, w1⟩ := open_int Try.underlying3 (hval 1 3 v1 rfl rfl) h1
  obtain ⟨a2, rfl, rfl, rfl, w2⟩ := open_string Try.underlying9 (hval 2 9 v2 rfl rfl) h2
  obtain ⟨a3, rfl, rfl, rfl, w3⟩ := open_string Try.underlying9 (hval 3 9 v3 rfl rfl) h3
  obtain ⟨a4, rfl, rfl, rfl, w4⟩ := open_string Try.underlying9 (hval 4 9 v4 rfl rfl) h4
  clear hA0 hval0
  refine (walk x0 a1 a2 a3 a4 W w0 w1 w2 w3 w4).mono fun e W' ⟨he, bel⟩ => ?_
  subst he
  exact ⟨_, rfl, _, _, _, [], _, [], hW', trodAll_mk1 (shut_bool Try.underlying4 _), (trodAll_cons_mk (Below.trod laidOut (by kernel_rfl) (of_decide_eq_true (by kernel_rfl)) k0 bel lt0) (trodAll_cons_mk (shut_int Try.underlying3 w1) (trodAll_cons_mk (shut_string Try.underlying9 w2) (trodAll_cons_mk (shut_string Try.underlying9 w3) (trodAll_cons_mk (shut_string Try.underlying9 w4) trodAll_mk0))))), rfl, bel.frame _, fun h => by cases h⟩

theorem k_0 : (Rows.refsSetsRow.wf (OpenSpec.ofChange Rows.refsSetsSpec)) = true := by kernel_rfl
theorem k_3 : (Try.f11.params.all (Try.pinned.checked.prog.readableRec ·)) = true := by kernel_rfl
theorem k_4 : (namedTie Try.pinned.checked.prog Rows.refsSetsRow.named Rows.refsSetsSpec.vars) = true := by kernel_rfl
theorem k_5 : ((Rows.refsSetsRow.stops == [])) = true := by kernel_rfl
theorem k_7 : ((Rows.refsSetsRow.knobs == [])) = true := by kernel_rfl
theorem k_9 : ((Rows.refsSetsRow.inPlace == Try.pinned.checked.prog.inPlace 11)) = true := by kernel_rfl
theorem k_10 : ((Rows.refsSetsRow.unfollowed == Try.pinned.checked.prog.unfollowed 11)) = true := by kernel_rfl
theorem k_11 : ((Rows.refsSetsRow.recurses == Try.pinned.checked.prog.recurses 11)) = true := by kernel_rfl
theorem k_12 : ((Rows.refsSetsRow.named == Try.pinned.checked.prog.varsNamed 11)) = true := by kernel_rfl
theorem k_13 : ((Rows.refsSetsRow.maps == (Try.f11.params.toList ++ Rows.refsSetsSpec.plain.varTypes Try.pinned.checked.prog).any (Try.pinned.checked.prog.mapsRec ·))) = true := by kernel_rfl
theorem k_14 : ((Rows.refsSetsRow.ifaces == (Try.f11.params.toList ++ Rows.refsSetsSpec.plain.varTypes Try.pinned.checked.prog).any (Try.pinned.checked.prog.ifacesRec ·))) = true := by kernel_rfl
theorem k_15 : ((Rows.refsSetsRow.mapsOut == Try.pinned.checked.prog.mapsAmong Try.f11.resultTypes.toList)) = true := by kernel_rfl
theorem k_16 : ((Rows.refsSetsRow.loops == (Try.f11.params.toList ++ Rows.refsSetsSpec.plain.varTypes Try.pinned.checked.prog).any (Try.pinned.checked.prog.loopsFrom ·))) = true := by kernel_rfl
theorem k_17 : ((Rows.refsSetsRow.wideKeys == (Try.f11.params.toList ++ Rows.refsSetsSpec.plain.varTypes Try.pinned.checked.prog ++ Try.f11.resultTypes.toList).any (Try.pinned.checked.prog.wideKeysFrom ·))) = true := by kernel_rfl
theorem k_18 : (Rows.refsSetsSpec.vars.all (Try.pinned.checked.prog.varReadable ·)) = true := by kernel_rfl
theorem k_19 : (Try.f11.resultTypes.all (fun t => Try.pinned.checked.prog.readableRec t && decide (t < Try.pinned.checked.prog.types.size))) = true := by kernel_rfl
theorem k_20 : ((Rows.refsSetsRow.ifacesOut == Try.f11.resultTypes.toList.any (Try.pinned.checked.prog.ifacesRec ·))) = true := by kernel_rfl
theorem k_21 : ((Rows.refsSetsRow.loopsOut == Try.f11.resultTypes.toList.any (Try.pinned.checked.prog.loopsFrom ·))) = true := by kernel_rfl
theorem k_23 : (Rows.refsSetsRow.shortTexts.isNone) = true := by kernel_rfl
theorem k_28 : ((Rows.refsSetsRow.kinds == (if Rows.refsSetsRow.domain.isEmpty then [] else Try.f11.params.toList.map fun t => match Try.pinned.checked.prog.underlying t with | some (.int k) => some k | _ => none))) = true := by kernel_rfl
theorem k_29 : ((Rows.refsSetsRow.pinned == Rows.refsSetsRow.pinnedBy)) = true := by kernel_rfl
theorem k_30 : ((Rows.refsSetsRow.veiled == (Try.f11.params.toList ++ Rows.refsSetsSpec.plain.varTypes Try.pinned.checked.prog ++ Try.f11.resultTypes.toList).any (Try.pinned.checked.prog.veiledRec ·))) = true := by kernel_rfl
theorem k_31 : (Rows.refsSetsRow.veiledFits Try.pinned.checked.prog Try.f11.params.toList (Try.f11.params.toList ++ Rows.refsSetsSpec.plain.varTypes Try.pinned.checked.prog ++ Try.f11.resultTypes.toList)) = true := by kernel_rfl
set_option maxRecDepth 100000 in
theorem closed : joinedFacts Try.pinned.checked.prog 11 Try.f11 Rows.refsSetsSpec Rows.refsSetsRow = true := by
  unfold joinedFacts
  exact band (band (band (band (band (band (band (band (band (band (band (band (band (band (band (band (band (band (band (band (band (band (band (band (band (band (band (band (band (band (band k_0 pf_1) pf_2) k_3) k_4) k_5) pf_6) k_7) pf_8) k_9) k_10) k_11) k_12) k_13) k_14) k_15) k_16) k_17) k_18) k_19) k_20) k_21) pf_22) k_23) pf_24) pf_25) pf_26) pf_27) k_28) k_29) k_30) k_31

theorem over : Rows.refsSetsRow.holds Try.pinned (OpenSpec.ofChange Rows.refsSetsSpec) :=
  OpenClaim.holds_of_wide 11 Try.f11 rfl rfl rfl rfl rfl rfl rfl ⟨rfl, rfl, rfl, rfl, rfl⟩ rfl rfl rfl rfl rfl (by kernel_rfl) Try.func11 closed
    (of_decide_eq_true (by kernel_rfl)) (by unfold Func.isWrapper; first | (rw [if_pos (by decide +kernel)]; kernel_rfl) | (rw [if_neg (by decide +kernel)]; exact ⟨rfl, rfl⟩))
    (fun os started H enc _ => lifted os started H enc)

theorem proved : Rows.RefsSetsSaid :=
  over
end Go.Proofs.Ytbjngbacnkmjhaa.refsSets
