/- P7.1: of any image there is the disk that has it, or none. -/
import Derived.Test.YtiagbadnmkeokaaRows
import Derived.WalkKit
import Derived.Test.YtiagbadnmkeokaaLdkloads
import Derived.Test.YtiagbadnmkeokaaPf
import Derived.Test.YtiagbadnmkeokaaSz
import Derived.ProofKit
import Derived.OpenShut
import Derived.ShutString
import Derived.ChangeOld
import Derived.Below
namespace Go.Proofs.Ytiagbadnmkeokaa.diskLoads
open Go.ChangeShapes Go.WideShapes Go.ChangeAt Go.RowKit
open Go.ChangeMaps (open_string shut_string)
set_option linter.unusedVariables false

theorem own : ownKnob Try.prog.godebug = none := pf_own
theorem laidOut : laidOutB Try.prog = true := pf_laid


theorem walk (x0 : Sh.Den (.pair (.slice (.str)) (.slice (.pair (.int .i64) (.str))))) (x1 : SlX (Sh.Den (.pair (.int .i64) (.pair (.int .i64) (.pair (.int .i64) (.pair (.str) (.pair (.bool) (.slice (.int .i64))))))))) (w : World) (w0 : Sh.Ok w (.pair (.slice (.str)) (.slice (.pair (.int .i64) (.str)))) x0) (w1 : RdX (Sh.cells (.pair (.int .i64) (.pair (.int .i64) (.pair (.int .i64) (.pair (.str) (.pair (.bool) (.slice (.int .i64)))))))) (Sh.size (.pair (.int .i64) (.pair (.int .i64) (.pair (.int .i64) (.pair (.str) (.pair (.bool) (.slice (.int .i64)))))))) w x1.a x1.n x1.l ∧ x1.n ≤ x1.c ∧ x1.c ≤ maxLen ∧ ∀ y ∈ x1.l, Sh.Ok w (.pair (.int .i64) (.pair (.int .i64) (.pair (.int .i64) (.pair (.str) (.pair (.bool) (.slice (.int .i64))))))) y) (z1 : ∀ y ∈ x1.l, Sh.Oz reachBytes (.pair (.int .i64) (.pair (.int .i64) (.pair (.int .i64) (.pair (.str) (.pair (.bool) (.slice (.int .i64))))))) y) :
    Calls Try.prog 4 #[.agg ⟨Sh.cells (.pair (.slice (.str)) (.slice (.pair (.int .i64) (.str)))) x0⟩, .slice x1.a x1.n x1.c] w fun e w' => e = .returned (.bool true) ∧ Below w.heap.size w w' := by
  have rdm : ∀ {α β : Type} {f : α → List Value} {g : β → List Value} {s : Nat} {w : World} {A : Option Addr} {n : Nat} {l : List α} (φ : α → β), (∀ x, g (φ x) = f x) → RdX f s w A n l → RdX g s w A n (l.map φ) := by
    intro α β f g s w A n l φ hf h
    refine ⟨by rw [List.length_map]; exact h.1, fun hn => ?_⟩
    obtain ⟨b, off, e, hb, hc⟩ := h.2 hn
    refine ⟨b, off, e, hb, fun k x j u hx hu => ?_⟩
    rw [List.getElem?_map] at hx
    obtain ⟨y, hy, rfl⟩ := Option.map_eq_some_iff.1 hx
    rw [hf] at hu
    exact hc k y j u hy hu
  exact LDiskLoads x0.1.a x0.1.n x0.1.c x0.2.a x0.2.n x0.2.c (x0.1.l.map (fun s : Sh.Den .str => (s : ByteArray))) (x0.2.l.map (fun y : Sh.Den (.pair (.int .i64) .str) => ((y.1, y.2) : Wr))) x1.a x1.n x1.c (x1.l.map (fun y : Sh.Den (.pair (.int .i64) (.pair (.int .i64) (.pair (.int .i64) (.pair .str (.pair .bool (.slice (.int .i64))))))) => (⟨y.1, y.2.1, y.2.2.1, y.2.2.2.1, y.2.2.2.2.1, y.2.2.2.2.2.a, y.2.2.2.2.2.n, y.2.2.2.2.2.c, y.2.2.2.2.2.l⟩ : Ac))) w (rdm _ (fun _ => rfl) w0.1.1) (rdm _ (fun _ => rfl) w0.2.1) (rdm _ (fun _ => rfl) w1.1) (fun a ha => by
    obtain ⟨y, hy, rfl⟩ := List.mem_map.1 ha
    obtain ⟨q1, q2, q3, _, _, q6⟩ := w1.2.2.2 y hy
    have r := z1 y hy
    exact ⟨q6.1, q6.2.2.2, q3, q2, q1, Nat.le_trans r.2.2.2.1 (by decide), q6.2.1, q6.2.2.1⟩) (Nat.le_trans w1.2.1 w1.2.2.1)

set_option maxRecDepth 100000 in
theorem lifted (os : Os) (started : os.Started) (H : Type) (enc : TypeId × Value → H) :
    ReturnsInHanded {} Try.checked os 4 .any (Rows.diskLoadsSpec.pre6 enc Try.prog Try.f4 Rows.diskLoadsRow.domain false) (Rows.diskLoadsSpec.post enc Try.prog Try.f4 false true false false) := by
  refine returnsInHanded_of_change_sized (C := Try.checked) own started (by kernel_rfl) Try.func4
    (ChangeSpec.witness6 (enc := enc) (C := Try.checked) false ⟨#[], #[.agg #[.slice none 0 0, .slice none 0 0], .slice none 0 0], []⟩ 8 (by kernel_rfl) (by kernel_rfl) (by kernel_rfl) (by kernel_rfl)) ?_
  intro W base args ds gs before hval0 hW hcnd hsz _
  have hval : ∀ (j : Nat) t v, Try.f4.params[j]? = some t → args[j]? = some v → Value.okWide Try.prog W .any base t v := hval0
  have hW' := hW
  obtain ⟨p, q, hA0, hV, rfl, hfz, hnd⟩ := hW
  have hA : DataW.TrodAll enc Try.prog W 0 (fun _ => true) true Try.f4.params.toList args.toList ds p := hA0
  rw [Try.params4] at hA hval hsz
  obtain ⟨v0, vs0, d0, ds0, p0, q0, hargs, rfl, rfl, h0, r0⟩ := trodAll_cons hA
  obtain ⟨v1, vs1, d1, ds1, p1, q1, rfl, rfl, rfl, h1, r1⟩ := trodAll_cons r0
  obtain ⟨rfl, rfl, rfl⟩ := trodAll_nil r1
  obtain rfl : args = #[v0, v1] := by first | exact Array.ext' hargs | exact Array.ext' hargs.symm | (cases args; simp_all)
  obtain ⟨rfl, rfl⟩ := trodVars_none hV
  have k0 := h0
  have lt0 : ∀ x ∈ p0, x.block < W.heap.size := by obtain ⟨m, hm⟩ := k0; exact DataW.trod_lt m _ _ _ hm
  obtain ⟨x0, rfl, w0⟩ := Sh.open_struct 30 (.pair (.slice (.str)) (.slice (.pair (.int .i64) (.str)))) Try.underlying32 (by kernel_rfl) (hval 0 32 v0 rfl rfl) h0
  have k1 := h1
  have lt1 : ∀ x ∈ p1, x.block < W.heap.size := by obtain ⟨m, hm⟩ := k1; exact DataW.trod_lt m _ _ _ hm
  have zz1 : ∀ k ∈ d1.weights Try.prog 22, k ≤ reachBytes := fun k hk => by
    have q := List.all_eq_true.1 hsz k (DataW.weights_mem_each (P := Try.prog) (j := 1) (t := 22) rfl rfl k hk)
    exact of_decide_eq_true q
  obtain ⟨x1, rfl, w1, z1⟩ := Sh.open_slXz 30 (.pair (.int .i64) (.pair (.int .i64) (.pair (.int .i64) (.pair (.str) (.pair (.bool) (.slice (.int .i64))))))) Try.underlying22 (by kernel_rfl) (hval 1 22 v1 rfl rfl) h1 zz1
  clear hA0 hval0
  refine (walk x0 x1 W w0 w1 z1).mono fun e W' ⟨he, bel⟩ => ?_
  subst he
  exact ⟨_, rfl, _, _, _, [], _, [], hW', trodAll_mk1 (shut_bool Try.underlying4 _), (trodAll_cons_mk (Below.trod laidOut (by kernel_rfl) (of_decide_eq_true (by kernel_rfl)) k0 bel lt0) (trodAll_cons_mk (Below.trod laidOut (by kernel_rfl) (of_decide_eq_true (by kernel_rfl)) k1 bel lt1) trodAll_mk0)), rfl, bel.frame _, fun h => by cases h⟩

theorem k_0 : (Rows.diskLoadsRow.wf (OpenSpec.ofChange Rows.diskLoadsSpec)) = true := by kernel_rfl
theorem k_3 : (Try.f4.params.all (Try.pinned.checked.prog.readableRec ·)) = true := by kernel_rfl
theorem k_4 : (namedTie Try.pinned.checked.prog Rows.diskLoadsRow.named Rows.diskLoadsSpec.vars) = true := by kernel_rfl
theorem k_5 : ((Rows.diskLoadsRow.stops == [])) = true := by kernel_rfl
theorem k_7 : ((Rows.diskLoadsRow.knobs == [])) = true := by kernel_rfl
theorem k_9 : ((Rows.diskLoadsRow.inPlace == Try.pinned.checked.prog.inPlace 4)) = true := by kernel_rfl
theorem k_10 : ((Rows.diskLoadsRow.unfollowed == Try.pinned.checked.prog.unfollowed 4)) = true := by kernel_rfl
theorem k_11 : ((Rows.diskLoadsRow.recurses == Try.pinned.checked.prog.recurses 4)) = true := by kernel_rfl
theorem k_12 : ((Rows.diskLoadsRow.named == Try.pinned.checked.prog.varsNamed 4)) = true := by kernel_rfl
theorem k_13 : ((Rows.diskLoadsRow.maps == (Try.f4.params.toList ++ Rows.diskLoadsSpec.plain.varTypes Try.pinned.checked.prog).any (Try.pinned.checked.prog.mapsRec ·))) = true := by kernel_rfl
theorem k_14 : ((Rows.diskLoadsRow.ifaces == (Try.f4.params.toList ++ Rows.diskLoadsSpec.plain.varTypes Try.pinned.checked.prog).any (Try.pinned.checked.prog.ifacesRec ·))) = true := by kernel_rfl
theorem k_15 : ((Rows.diskLoadsRow.mapsOut == Try.pinned.checked.prog.mapsAmong Try.f4.resultTypes.toList)) = true := by kernel_rfl
theorem k_16 : ((Rows.diskLoadsRow.loops == (Try.f4.params.toList ++ Rows.diskLoadsSpec.plain.varTypes Try.pinned.checked.prog).any (Try.pinned.checked.prog.loopsFrom ·))) = true := by kernel_rfl
theorem k_17 : ((Rows.diskLoadsRow.wideKeys == (Try.f4.params.toList ++ Rows.diskLoadsSpec.plain.varTypes Try.pinned.checked.prog ++ Try.f4.resultTypes.toList).any (Try.pinned.checked.prog.wideKeysFrom ·))) = true := by kernel_rfl
theorem k_18 : (Rows.diskLoadsSpec.vars.all (Try.pinned.checked.prog.varReadable ·)) = true := by kernel_rfl
theorem k_19 : (Try.f4.resultTypes.all (fun t => Try.pinned.checked.prog.readableRec t && decide (t < Try.pinned.checked.prog.types.size))) = true := by kernel_rfl
theorem k_20 : ((Rows.diskLoadsRow.ifacesOut == Try.f4.resultTypes.toList.any (Try.pinned.checked.prog.ifacesRec ·))) = true := by kernel_rfl
theorem k_21 : ((Rows.diskLoadsRow.loopsOut == Try.f4.resultTypes.toList.any (Try.pinned.checked.prog.loopsFrom ·))) = true := by kernel_rfl
theorem k_23 : (Rows.diskLoadsRow.shortTexts.isNone) = true := by kernel_rfl
theorem k_28 : ((Rows.diskLoadsRow.kinds == (if Rows.diskLoadsRow.domain.isEmpty then [] else Try.f4.params.toList.map fun t => match Try.pinned.checked.prog.underlying t with | some (.int k) => some k | _ => none))) = true := by kernel_rfl
theorem k_29 : ((Rows.diskLoadsRow.pinned == Rows.diskLoadsRow.pinnedBy)) = true := by kernel_rfl
theorem k_30 : ((Rows.diskLoadsRow.veiled == (Try.f4.params.toList ++ Rows.diskLoadsSpec.plain.varTypes Try.pinned.checked.prog ++ Try.f4.resultTypes.toList).any (Try.pinned.checked.prog.veiledRec ·))) = true := by kernel_rfl
theorem k_31 : (Rows.diskLoadsRow.veiledFits Try.pinned.checked.prog Try.f4.params.toList (Try.f4.params.toList ++ Rows.diskLoadsSpec.plain.varTypes Try.pinned.checked.prog ++ Try.f4.resultTypes.toList)) = true := by kernel_rfl
set_option maxRecDepth 100000 in
theorem closed : joinedFacts Try.pinned.checked.prog 4 Try.f4 Rows.diskLoadsSpec Rows.diskLoadsRow = true := by
  unfold joinedFacts
  exact band (band (band (band (band (band (band (band (band (band (band (band (band (band (band (band (band (band (band (band (band (band (band (band (band (band (band (band (band (band (band k_0 pf_1) pf_2) k_3) k_4) k_5) pf_6) k_7) pf_8) k_9) k_10) k_11) k_12) k_13) k_14) k_15) k_16) k_17) k_18) k_19) k_20) k_21) pf_22) k_23) pf_24) pf_25) pf_26) pf_27) k_28) k_29) k_30) k_31

theorem over : Rows.diskLoadsRow.holds Try.pinned (OpenSpec.ofChange Rows.diskLoadsSpec) :=
  OpenClaim.holds_of_wide 4 Try.f4 rfl rfl rfl rfl rfl rfl rfl ⟨rfl, rfl, rfl, rfl, rfl⟩ rfl rfl rfl rfl rfl (by kernel_rfl) Try.func4 closed
    (of_decide_eq_true (by kernel_rfl)) (by unfold Func.isWrapper; first | (rw [if_pos (by decide +kernel)]; kernel_rfl) | (rw [if_neg (by decide +kernel)]; exact ⟨rfl, rfl⟩))
    (fun os started H enc _ => lifted os started H enc)

theorem proved : Rows.DiskLoadsSaid :=
  over
end Go.Proofs.Ytiagbadnmkeokaa.diskLoads
