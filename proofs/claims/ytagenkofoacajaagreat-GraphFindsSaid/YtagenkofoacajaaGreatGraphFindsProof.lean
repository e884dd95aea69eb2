/- P26.2: in any graph that may be: any node, any edge, the edges from a node and to it, the nodes with a label. -/
import Derived.Test.YtagenkofoacajaaGreatRows
import Derived.WalkKit
import Derived.Test.YtagenkofoacajaaGreatLgfnds
import Derived.Test.YtagenkofoacajaaGreatPf
import Derived.Test.YtagenkofoacajaaGreatSh
import Derived.ProofKit
import Derived.OpenShut
import Derived.ShutString
import Derived.ChangeOld
import Derived.Below
namespace Go.Proofs.YtagenkofoacajaaGreat.graphFinds
open Go.ChangeShapes Go.WideShapes Go.ChangeAt Go.RowKit
open Go.ChangeMaps (open_string shut_string)
set_option linter.unusedVariables false

theorem own : ownKnob Tryz.prog.godebug = none := pf_own
theorem laidOut : laidOutB Tryz.prog = true := pf_laid


theorem walk (x0 : Sh.Den (.pair (.slice (.pair (.str) (.pair (.slice (.str)) (.slice (.pair (.str) (.pair (.int .i64) (.pair (.int .i64) (.str)))))))) (.slice (.pair (.str) (.pair (.str) (.pair (.str) (.pair (.slice (.str)) (.slice (.pair (.str) (.pair (.int .i64) (.pair (.int .i64) (.str)))))))))))) (a1 : ByteArray) (a2 : ByteArray) (w : World) (w0 : Sh.Ok w (.pair (.slice (.pair (.str) (.pair (.slice (.str)) (.slice (.pair (.str) (.pair (.int .i64) (.pair (.int .i64) (.str)))))))) (.slice (.pair (.str) (.pair (.str) (.pair (.str) (.pair (.slice (.str)) (.slice (.pair (.str) (.pair (.int .i64) (.pair (.int .i64) (.str))))))))))) x0) (w1 : a1.size ≤ maxLen) (w2 : a2.size ≤ maxLen) :
    Calls Tryz.prog 3 #[.agg ⟨Sh.cells (.pair (.slice (.pair (.str) (.pair (.slice (.str)) (.slice (.pair (.str) (.pair (.int .i64) (.pair (.int .i64) (.str)))))))) (.slice (.pair (.str) (.pair (.str) (.pair (.str) (.pair (.slice (.str)) (.slice (.pair (.str) (.pair (.int .i64) (.pair (.int .i64) (.str))))))))))) x0⟩, .string a1, .string a2] w fun e w' => e = .returned (.bool true) ∧ Below w.heap.size w w' := by
  obtain ⟨q1, q2⟩ := gr_of x0.1 x0.2 w0.1 w0.2
  exact LGraphFinds.walk x0.1.a x0.2.a x0.1.n x0.1.c x0.2.n x0.2.c _ _ a1 a2 w q1 q2

set_option maxRecDepth 100000 in
theorem lifted (os : Os) (started : os.Started) (H : Type) (enc : TypeId × Value → H) :
    ReturnsInHanded {} Tryz.checked os 3 .any (Rows.graphFindsSpec.pre6 enc Tryz.prog Tryz.f3 Rows.graphFindsRow.domain false) (Rows.graphFindsSpec.post enc Tryz.prog Tryz.f3 false true false false) := by
  refine returnsInHanded_of_change (C := Tryz.checked) own started (by kernel_rfl) Tryz.func3
    (ChangeSpec.witness6 (enc := enc) (C := Tryz.checked) false ⟨#[], #[.agg #[.slice none 0 0, .slice none 0 0], .string ByteArray.empty, .string ByteArray.empty], []⟩ 8 (by kernel_rfl) (by kernel_rfl) (by kernel_rfl) (by kernel_rfl)) ?_
  intro W base args ds gs before hval0 hW hcnd _
  have hval : ∀ (j : Nat) t v, Tryz.f3.params[j]? = some t → args[j]? = some v → Value.okWide Tryz.prog W .any base t v := hval0
  have hW' := hW
  obtain ⟨p, q, hA0, hV, rfl, hfz, hnd⟩ := hW
  have hA : DataW.TrodAll enc Tryz.prog W 0 (fun _ => true) true Tryz.f3.params.toList args.toList ds p := hA0
  rw [Tryz.params3] at hA hval
  obtain ⟨v0, vs0, d0, ds0, p0, q0, hargs, rfl, rfl, h0, r0⟩ := trodAll_cons hA
  obtain ⟨v1, vs1, d1, ds1, p1, q1, rfl, rfl, rfl, h1, r1⟩ := trodAll_cons r0
  obtain ⟨v2, vs2, d2, ds2, p2, q2, rfl, rfl, rfl, h2, r2⟩ := trodAll_cons r1
  obtain ⟨rfl, rfl, rfl⟩ := trodAll_nil r2
  obtain rfl : args = #[v0, v1, v2] := by first | exact Array.ext' hargs | exact Array.ext' hargs.symm | (cases args; simp_all)
  obtain ⟨rfl, rfl⟩ := trodVars_none hV
  have k0 := h0
  have lt0 : ∀ x ∈ p0, x.block < W.heap.size := by obtain ⟨m, hm⟩ := k0; exact DataW.trod_lt m _ _ _ hm
  obtain ⟨x0, rfl, w0⟩ := Sh.open_struct 30 (.pair (.slice (.pair (.str) (.pair (.slice (.str)) (.slice (.pair (.str) (.pair (.int .i64) (.pair (.int .i64) (.str)))))))) (.slice (.pair (.str) (.pair (.str) (.pair (.str) (.pair (.slice (.str)) (.slice (.pair (.str) (.pair (.int .i64) (.pair (.int .i64) (.str))))))))))) Tryz.underlying25 (by kernel_rfl) (hval 0 25 v0 rfl rfl) h0
  obtain ⟨a1, rfl, rfl, rfl, w1⟩ := open_string Tryz.underlying9 (hval 1 9 v1 rfl rfl) h1
  obtain ⟨a2, rfl, rfl, rfl, w2⟩ := open_string Tryz.underlying9 (hval 2 9 v2 rfl rfl) h2
  clear hA0 hval0
  refine (walk x0 a1 a2 W w0 w1 w2).mono fun e W' ⟨he, bel⟩ => ?_
  subst he
  exact ⟨_, rfl, _, _, _, [], _, [], hW', trodAll_mk1 (shut_bool Tryz.underlying4 _), (trodAll_cons_mk (Below.trod laidOut (by kernel_rfl) (of_decide_eq_true (by kernel_rfl)) k0 bel lt0) (trodAll_cons_mk (shut_string Tryz.underlying9 w1) (trodAll_cons_mk (shut_string Tryz.underlying9 w2) trodAll_mk0))), rfl, bel.frame _, fun h => by cases h⟩

theorem k_0 : (Rows.graphFindsRow.wf (OpenSpec.ofChange Rows.graphFindsSpec)) = true := by kernel_rfl
theorem k_3 : (Tryz.f3.params.all (Tryz.pinned.checked.prog.readableRec ·)) = true := by kernel_rfl
theorem k_4 : (namedTie Tryz.pinned.checked.prog Rows.graphFindsRow.named Rows.graphFindsSpec.vars) = true := by kernel_rfl
theorem k_5 : ((Rows.graphFindsRow.stops == [])) = true := by kernel_rfl
theorem k_7 : ((Rows.graphFindsRow.knobs == [])) = true := by kernel_rfl
theorem k_9 : ((Rows.graphFindsRow.inPlace == Tryz.pinned.checked.prog.inPlace 3)) = true := by kernel_rfl
theorem k_10 : ((Rows.graphFindsRow.unfollowed == Tryz.pinned.checked.prog.unfollowed 3)) = true := by kernel_rfl
theorem k_11 : ((Rows.graphFindsRow.recurses == Tryz.pinned.checked.prog.recurses 3)) = true := by kernel_rfl
theorem k_12 : ((Rows.graphFindsRow.named == Tryz.pinned.checked.prog.varsNamed 3)) = true := by kernel_rfl
theorem k_13 : ((Rows.graphFindsRow.maps == (Tryz.f3.params.toList ++ Rows.graphFindsSpec.plain.varTypes Tryz.pinned.checked.prog).any (Tryz.pinned.checked.prog.mapsRec ·))) = true := by kernel_rfl
theorem k_14 : ((Rows.graphFindsRow.ifaces == (Tryz.f3.params.toList ++ Rows.graphFindsSpec.plain.varTypes Tryz.pinned.checked.prog).any (Tryz.pinned.checked.prog.ifacesRec ·))) = true := by kernel_rfl
theorem k_15 : ((Rows.graphFindsRow.mapsOut == Tryz.pinned.checked.prog.mapsAmong Tryz.f3.resultTypes.toList)) = true := by kernel_rfl
theorem k_16 : ((Rows.graphFindsRow.loops == (Tryz.f3.params.toList ++ Rows.graphFindsSpec.plain.varTypes Tryz.pinned.checked.prog).any (Tryz.pinned.checked.prog.loopsFrom ·))) = true := by kernel_rfl
theorem k_17 : ((Rows.graphFindsRow.wideKeys == (Tryz.f3.params.toList ++ Rows.graphFindsSpec.plain.varTypes Tryz.pinned.checked.prog ++ Tryz.f3.resultTypes.toList).any (Tryz.pinned.checked.prog.wideKeysFrom ·))) = true := by kernel_rfl
theorem k_18 : (Rows.graphFindsSpec.vars.all (Tryz.pinned.checked.prog.varReadable ·)) = true := by kernel_rfl
theorem k_19 : (Tryz.f3.resultTypes.all (fun t => Tryz.pinned.checked.prog.readableRec t && decide (t < Tryz.pinned.checked.prog.types.size))) = true := by kernel_rfl
theorem k_20 : ((Rows.graphFindsRow.ifacesOut == Tryz.f3.resultTypes.toList.any (Tryz.pinned.checked.prog.ifacesRec ·))) = true := by kernel_rfl
theorem k_21 : ((Rows.graphFindsRow.loopsOut == Tryz.f3.resultTypes.toList.any (Tryz.pinned.checked.prog.loopsFrom ·))) = true := by kernel_rfl
theorem k_23 : (Rows.graphFindsRow.shortTexts.isNone) = true := by kernel_rfl
theorem k_28 : ((Rows.graphFindsRow.kinds == (if Rows.graphFindsRow.domain.isEmpty then [] else Tryz.f3.params.toList.map fun t => match Tryz.pinned.checked.prog.underlying t with | some (.int k) => some k | _ => none))) = true := by kernel_rfl
theorem k_29 : ((Rows.graphFindsRow.pinned == Rows.graphFindsRow.pinnedBy)) = true := by kernel_rfl
theorem k_30 : ((Rows.graphFindsRow.veiled == (Tryz.f3.params.toList ++ Rows.graphFindsSpec.plain.varTypes Tryz.pinned.checked.prog ++ Tryz.f3.resultTypes.toList).any (Tryz.pinned.checked.prog.veiledRec ·))) = true := by kernel_rfl
theorem k_31 : (Rows.graphFindsRow.veiledFits Tryz.pinned.checked.prog Tryz.f3.params.toList (Tryz.f3.params.toList ++ Rows.graphFindsSpec.plain.varTypes Tryz.pinned.checked.prog ++ Tryz.f3.resultTypes.toList)) = true := by kernel_rfl
set_option maxRecDepth 100000 in
theorem closed : joinedFacts Tryz.pinned.checked.prog 3 Tryz.f3 Rows.graphFindsSpec Rows.graphFindsRow = true := by
  unfold joinedFacts
  exact band (band (band (band (band (band (band (band (band (band (band (band (band (band (band (band (band (band (band (band (band (band (band (band (band (band (band (band (band (band (band k_0 pf_1) pf_2) k_3) k_4) k_5) pf_6) k_7) pf_8) k_9) k_10) k_11) k_12) k_13) k_14) k_15) k_16) k_17) k_18) k_19) k_20) k_21) pf_22) k_23) pf_24) pf_25) pf_26) pf_27) k_28) k_29) k_30) k_31

theorem over : Rows.graphFindsRow.holds Tryz.pinned (OpenSpec.ofChange Rows.graphFindsSpec) :=
  OpenClaim.holds_of_wide 3 Tryz.f3 rfl rfl rfl rfl rfl rfl rfl ⟨rfl, rfl, rfl, rfl, rfl⟩ rfl rfl rfl rfl rfl (by kernel_rfl) Tryz.func3 closed
    (of_decide_eq_true (by kernel_rfl)) (by unfold Func.isWrapper; first | (rw [if_pos (by decide +kernel)]; kernel_rfl) | (rw [if_neg (by decide +kernel)]; exact ⟨rfl, rfl⟩))
    (fun os started H enc _ => lifted os started H enc)

theorem proved : Rows.GraphFindsSaid :=
  over
end Go.Proofs.YtagenkofoacajaaGreat.graphFinds
