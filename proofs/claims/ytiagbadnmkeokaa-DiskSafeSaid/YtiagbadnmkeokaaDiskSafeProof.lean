/- P7.4: behind a crash each sector has what was safe, or the last one of those writes to it that were kept. -/
import Derived.Test.YtiagbadnmkeokaaRows
import Derived.WalkKit
import Derived.Test.YtiagbadnmkeokaaLdksafe
import Derived.Test.YtiagbadnmkeokaaPf
import Derived.Test.YtiagbadnmkeokaaSz
import Derived.ProofKit
import Derived.OpenShut
import Derived.ShutString
import Derived.ChangeOld
import Derived.Below
namespace Go.Proofs.Ytiagbadnmkeokaa.diskSafe
open Go.ChangeShapes Go.WideShapes Go.ChangeAt Go.RowKit
open Go.ChangeMaps (open_string shut_string)
set_option linter.unusedVariables false

theorem own : ownKnob Try.prog.godebug = none := pf_own
theorem laidOut : laidOutB Try.prog = true := pf_laid


theorem walk (x0 : SlX (Sh.Den (.pair (.int .i64) (.pair (.int .i64) (.pair (.int .i64) (.pair (.str) (.pair (.bool) (.slice (.int .i64))))))))) (x1 : SlX (Sh.Den (.pair (.int .i64) (.pair (.int .i64) (.pair (.int .i64) (.pair (.str) (.pair (.bool) (.slice (.int .i64))))))))) (x2 : SlX (Sh.Den (.int .i64))) (w : World) (w0 : RdX (Sh.cells (.pair (.int .i64) (.pair (.int .i64) (.pair (.int .i64) (.pair (.str) (.pair (.bool) (.slice (.int .i64)))))))) (Sh.size (.pair (.int .i64) (.pair (.int .i64) (.pair (.int .i64) (.pair (.str) (.pair (.bool) (.slice (.int .i64)))))))) w x0.a x0.n x0.l ∧ x0.n ≤ x0.c ∧ x0.c ≤ maxLen ∧ ∀ y ∈ x0.l, Sh.Ok w (.pair (.int .i64) (.pair (.int .i64) (.pair (.int .i64) (.pair (.str) (.pair (.bool) (.slice (.int .i64))))))) y) (z0 : ∀ y ∈ x0.l, Sh.Oz reachBytes (.pair (.int .i64) (.pair (.int .i64) (.pair (.int .i64) (.pair (.str) (.pair (.bool) (.slice (.int .i64))))))) y) (w1 : RdX (Sh.cells (.pair (.int .i64) (.pair (.int .i64) (.pair (.int .i64) (.pair (.str) (.pair (.bool) (.slice (.int .i64)))))))) (Sh.size (.pair (.int .i64) (.pair (.int .i64) (.pair (.int .i64) (.pair (.str) (.pair (.bool) (.slice (.int .i64)))))))) w x1.a x1.n x1.l ∧ x1.n ≤ x1.c ∧ x1.c ≤ maxLen ∧ ∀ y ∈ x1.l, Sh.Ok w (.pair (.int .i64) (.pair (.int .i64) (.pair (.int .i64) (.pair (.str) (.pair (.bool) (.slice (.int .i64))))))) y) (z1 : ∀ y ∈ x1.l, Sh.Oz reachBytes (.pair (.int .i64) (.pair (.int .i64) (.pair (.int .i64) (.pair (.str) (.pair (.bool) (.slice (.int .i64))))))) y) (w2 : RdX (Sh.cells (.int .i64)) (Sh.size (.int .i64)) w x2.a x2.n x2.l ∧ x2.n ≤ x2.c ∧ x2.c ≤ maxLen ∧ ∀ y ∈ x2.l, Sh.Ok w (.int .i64) y) (z2 : ∀ y ∈ x2.l, Sh.Oz reachBytes (.int .i64) y) :
    Calls Try.prog 5 #[.slice x0.a x0.n x0.c, .slice x1.a x1.n x1.c, .slice x2.a x2.n x2.c] w fun e w' => e = .returned (.bool true) ∧ Below w.heap.size w w' := by
  have rdm : ∀ {α β : Type} {f : α → List Value} {g : β → List Value} {s : Nat} {w : World} {A : Option Addr} {n : Nat} {l : List α} (φ : α → β), (∀ x, g (φ x) = f x) → RdX f s w A n l → RdX g s w A n (l.map φ) := by
    intro α β f g s w A n l φ hf h
    refine ⟨by rw [List.length_map]; exact h.1, fun hn => ?_⟩
    obtain ⟨b, off, e, hb, hc⟩ := h.2 hn
    refine ⟨b, off, e, hb, fun k x j u hx hu => ?_⟩
    rw [List.getElem?_map] at hx
    obtain ⟨y, hy, rfl⟩ := Option.map_eq_some_iff.1 hx
    rw [hf] at hu
    exact hc k y j u hy hu
  exact dsafe_any x0.a x0.n x0.c (x0.l.map (fun y : Sh.Den (.pair (.int .i64) (.pair (.int .i64) (.pair (.int .i64) (.pair .str (.pair .bool (.slice (.int .i64))))))) => (⟨y.1, y.2.1, y.2.2.1, y.2.2.2.1, y.2.2.2.2.1, y.2.2.2.2.2.a, y.2.2.2.2.2.n, y.2.2.2.2.2.c, y.2.2.2.2.2.l⟩ : Ac)))
    x1.a x1.n x1.c (x1.l.map (fun y : Sh.Den (.pair (.int .i64) (.pair (.int .i64) (.pair (.int .i64) (.pair .str (.pair .bool (.slice (.int .i64))))))) => (⟨y.1, y.2.1, y.2.2.1, y.2.2.2.1, y.2.2.2.2.1, y.2.2.2.2.2.a, y.2.2.2.2.2.n, y.2.2.2.2.2.c, y.2.2.2.2.2.l⟩ : Ac)))
    x2.a x2.n x2.c (x2.l.map (fun z : Sh.Den (.int .i64) => (z : Int))) w (rdm _ (fun _ => rfl) w0.1) (fun a ha => by
    obtain ⟨y, hy, rfl⟩ := List.mem_map.1 ha
    obtain ⟨q1, q2, q3, _, _, q6⟩ := w0.2.2.2 y hy
    have r := z0 y hy
    exact ⟨q6.1, q6.2.2.2, q3, q2, q1, Nat.le_trans r.2.2.2.1 (by decide), q6.2.1, q6.2.2.1⟩) (Nat.le_trans w0.2.1 w0.2.2.1) (rdm _ (fun _ => rfl) w1.1) (fun a ha => by
    obtain ⟨y, hy, rfl⟩ := List.mem_map.1 ha
    obtain ⟨q1, q2, q3, _, _, q6⟩ := w1.2.2.2 y hy
    have r := z1 y hy
    exact ⟨q6.1, q6.2.2.2, q3, q2, q1, Nat.le_trans r.2.2.2.1 (by decide), q6.2.1, q6.2.2.1⟩) (Nat.le_trans w1.2.1 w1.2.2.1) (rdm _ (fun _ => rfl) w2.1) (fun x hx => by
    obtain ⟨y, hy, rfl⟩ := List.mem_map.1 hx
    exact w2.2.2.2 y hy) (Nat.le_trans w2.2.1 w2.2.2.1)

set_option maxRecDepth 100000 in
theorem lifted (os : Os) (started : os.Started) (H : Type) (enc : TypeId × Value → H) :
    ReturnsInHanded {} Try.checked os 5 .any (Rows.diskSafeSpec.pre6 enc Try.prog Try.f5 Rows.diskSafeRow.domain false) (Rows.diskSafeSpec.post enc Try.prog Try.f5 false true false false) := by
  refine returnsInHanded_of_change_sized (C := Try.checked) own started (by kernel_rfl) Try.func5
    (ChangeSpec.witness6 (enc := enc) (C := Try.checked) false ⟨#[], #[.slice none 0 0, .slice none 0 0, .slice none 0 0], []⟩ 8 (by kernel_rfl) (by kernel_rfl) (by kernel_rfl) (by kernel_rfl)) ?_
  intro W base args ds gs before hval0 hW hcnd hsz _
  have hval : ∀ (j : Nat) t v, Try.f5.params[j]? = some t → args[j]? = some v → Value.okWide Try.prog W .any base t v := hval0
  have hW' := hW
  obtain ⟨p, q, hA0, hV, rfl, hfz, hnd⟩ := hW
  have hA : DataW.TrodAll enc Try.prog W 0 (fun _ => true) true Try.f5.params.toList args.toList ds p := hA0
  rw [Try.params5] at hA hval hsz
  obtain ⟨v0, vs0, d0, ds0, p0, q0, hargs, rfl, rfl, h0, r0⟩ := trodAll_cons hA
  obtain ⟨v1, vs1, d1, ds1, p1, q1, rfl, rfl, rfl, h1, r1⟩ := trodAll_cons r0
  obtain ⟨v2, vs2, d2, ds2, p2, q2, rfl, rfl, rfl, h2, r2⟩ := trodAll_cons r1
  obtain ⟨rfl, rfl, rfl⟩ := trodAll_nil r2
  obtain rfl : args = #[v0, v1, v2] := by first | exact Array.ext' hargs | exact Array.ext' hargs.symm | (cases args; simp_all)
  obtain ⟨rfl, rfl⟩ := trodVars_none hV
  have k0 := h0
  have lt0 : ∀ x ∈ p0, x.block < W.heap.size := by obtain ⟨m, hm⟩ := k0; exact DataW.trod_lt m _ _ _ hm
  have zz0 : ∀ k ∈ d0.weights Try.prog 22, k ≤ reachBytes := fun k hk => by
    have q := List.all_eq_true.1 hsz k (DataW.weights_mem_each (P := Try.prog) (j := 0) (t := 22) rfl rfl k hk)
    exact of_decide_eq_true q
  obtain ⟨x0, rfl, w0, z0⟩ := Sh.open_slXz 30 (.pair (.int .i64) (.pair (.int .i64) (.pair (.int .i64) (.pair (.str) (.pair (.bool) (.slice (.int .i64))))))) Try.underlying22 (by kernel_rfl) (hval 0 22 v0 rfl rfl) h0 zz0
  have k1 := h1
  have lt1 : ∀ x ∈ p1, x.block < W.heap.size := by obtain ⟨m, hm⟩ := k1; exact DataW.trod_lt m _ _ _ hm
  have zz1 : ∀ k ∈ d1.weights Try.prog 22, k ≤ reachBytes := fun k hk => by
    have q := List.all_eq_true.1 hsz k (DataW.weights_mem_each (P := Try.prog) (j := 1) (t := 22) rfl rfl k hk)
    exact of_decide_eq_true q
  obtain ⟨x1, rfl, w1, z1⟩ := Sh.open_slXz 30 (.pair (.int .i64) (.pair (.int .i64) (.pair (.int .i64) (.pair (.str) (.pair (.bool) (.slice (.int .i64))))))) Try.underlying22 (by kernel_rfl) (hval 1 22 v1 rfl rfl) h1 zz1
  have k2 := h2
  have lt2 : ∀ x ∈ p2, x.block < W.heap.size := by obtain ⟨m, hm⟩ := k2; exact DataW.trod_lt m _ _ _ hm
  have zz2 : ∀ k ∈ d2.weights Try.prog 37, k ≤ reachBytes := fun k hk => by
    have q := List.all_eq_true.1 hsz k (DataW.weights_mem_each (P := Try.prog) (j := 2) (t := 37) rfl rfl k hk)
    exact of_decide_eq_true q
  obtain ⟨x2, rfl, w2, z2⟩ := Sh.open_slXz 30 (.int .i64) Try.underlying37 (by kernel_rfl) (hval 2 37 v2 rfl rfl) h2 zz2
  clear hA0 hval0
  refine (walk x0 x1 x2 W w0 z0 w1 z1 w2 z2).mono fun e W' ⟨he, bel⟩ => ?_
  subst he
  exact ⟨_, rfl, _, _, _, [], _, [], hW', trodAll_mk1 (shut_bool Try.underlying4 _), (trodAll_cons_mk (Below.trod laidOut (by kernel_rfl) (of_decide_eq_true (by kernel_rfl)) k0 bel lt0) (trodAll_cons_mk (Below.trod laidOut (by kernel_rfl) (of_decide_eq_true (by kernel_rfl)) k1 bel lt1) (trodAll_cons_mk (Below.trod laidOut (by kernel_rfl) (of_decide_eq_true (by kernel_rfl)) k2 bel lt2) trodAll_mk0))), rfl, bel.frame _, fun h => by cases h⟩

theorem k_0 : (Rows.diskSafeRow.wf (OpenSpec.ofChange Rows.diskSafeSpec)) = true := by kernel_rfl
theorem k_3 : (Try.f5.params.all (Try.pinned.checked.prog.readableRec ·)) = true := by kernel_rfl
theorem k_4 : (namedTie Try.pinned.checked.prog Rows.diskSafeRow.named Rows.diskSafeSpec.vars) = true := by kernel_rfl
theorem k_5 : ((Rows.diskSafeRow.stops == [])) = true := by kernel_rfl
theorem k_7 : ((Rows.diskSafeRow.knobs == [])) = true := by kernel_rfl
theorem k_9 : ((Rows.diskSafeRow.inPlace == Try.pinned.checked.prog.inPlace 5)) = true := by kernel_rfl
theorem k_10 : ((Rows.diskSafeRow.unfollowed == Try.pinned.checked.prog.unfollowed 5)) = true := by kernel_rfl
theorem k_11 : ((Rows.diskSafeRow.recurses == Try.pinned.checked.prog.recurses 5)) = true := by kernel_rfl
theorem k_12 : ((Rows.diskSafeRow.named == Try.pinned.checked.prog.varsNamed 5)) = true := by kernel_rfl
theorem k_13 : ((Rows.diskSafeRow.maps == (Try.f5.params.toList ++ Rows.diskSafeSpec.plain.varTypes Try.pinned.checked.prog).any (Try.pinned.checked.prog.mapsRec ·))) = true := by kernel_rfl
theorem k_14 : ((Rows.diskSafeRow.ifaces == (Try.f5.params.toList ++ Rows.diskSafeSpec.plain.varTypes Try.pinned.checked.prog).any (Try.pinned.checked.prog.ifacesRec ·))) = true := by kernel_rfl
theorem k_15 : ((Rows.diskSafeRow.mapsOut == Try.pinned.checked.prog.mapsAmong Try.f5.resultTypes.toList)) = true := by kernel_rfl
theorem k_16 : ((Rows.diskSafeRow.loops == (Try.f5.params.toList ++ Rows.diskSafeSpec.plain.varTypes Try.pinned.checked.prog).any (Try.pinned.checked.prog.loopsFrom ·))) = true := by kernel_rfl
theorem k_17 : ((Rows.diskSafeRow.wideKeys == (Try.f5.params.toList ++ Rows.diskSafeSpec.plain.varTypes Try.pinned.checked.prog ++ Try.f5.resultTypes.toList).any (Try.pinned.checked.prog.wideKeysFrom ·))) = true := by kernel_rfl
theorem k_18 : (Rows.diskSafeSpec.vars.all (Try.pinned.checked.prog.varReadable ·)) = true := by kernel_rfl
theorem k_19 : (Try.f5.resultTypes.all (fun t => Try.pinned.checked.prog.readableRec t && decide (t < Try.pinned.checked.prog.types.size))) = true := by kernel_rfl
theorem k_20 : ((Rows.diskSafeRow.ifacesOut == Try.f5.resultTypes.toList.any (Try.pinned.checked.prog.ifacesRec ·))) = true := by kernel_rfl
theorem k_21 : ((Rows.diskSafeRow.loopsOut == Try.f5.resultTypes.toList.any (Try.pinned.checked.prog.loopsFrom ·))) = true := by kernel_rfl
theorem k_23 : (Rows.diskSafeRow.shortTexts.isNone) = true := by kernel_rfl
theorem k_28 : ((Rows.diskSafeRow.kinds == (if Rows.diskSafeRow.domain.isEmpty then [] else Try.f5.params.toList.map fun t => match Try.pinned.checked.prog.underlying t with | some (.int k) => some k | _ => none))) = true := by kernel_rfl
theorem k_29 : ((Rows.diskSafeRow.pinned == Rows.diskSafeRow.pinnedBy)) = true := by kernel_rfl
theorem k_30 : ((Rows.diskSafeRow.veiled == (Try.f5.params.toList ++ Rows.diskSafeSpec.plain.varTypes Try.pinned.checked.prog ++ Try.f5.resultTypes.toList).any (Try.pinned.checked.prog.veiledRec ·))) = true := by kernel_rfl
theorem k_31 : (Rows.diskSafeRow.veiledFits Try.pinned.checked.prog Try.f5.params.toList (Try.f5.params.toList ++ Rows.diskSafeSpec.plain.varTypes Try.pinned.checked.prog ++ Try.f5.resultTypes.toList)) = true := by kernel_rfl
set_option maxRecDepth 100000 in
theorem closed : joinedFacts Try.pinned.checked.prog 5 Try.f5 Rows.diskSafeSpec Rows.diskSafeRow = true := by
  unfold joinedFacts
  exact band (band (band (band (band (band (band (band (band (band (band (band (band (band (band (band (band (band (band (band (band (band (band (band (band (band (band (band (band (band (band k_0 pf_1) pf_2) k_3) k_4) k_5) pf_6) k_7) pf_8) k_9) k_10) k_11) k_12) k_13) k_14) k_15) k_16) k_17) k_18) k_19) k_20) k_21) pf_22) k_23) pf_24) pf_25) pf_26) pf_27) k_28) k_29) k_30) k_31

theorem over : Rows.diskSafeRow.holds Try.pinned (OpenSpec.ofChange Rows.diskSafeSpec) :=
  OpenClaim.holds_of_wide 5 Try.f5 rfl rfl rfl rfl rfl rfl rfl ⟨rfl, rfl, rfl, rfl, rfl⟩ rfl rfl rfl rfl rfl (by kernel_rfl) Try.func5 closed
    (of_decide_eq_true (by kernel_rfl)) (by unfold Func.isWrapper; first | (rw [if_pos (by decide +kernel)]; kernel_rfl) | (rw [if_neg (by decide +kernel)]; exact ⟨rfl, rfl⟩))
    (fun os started H enc _ => lifted os started H enc)

theorem proved : Rows.DiskSafeSaid :=
  over
end Go.Proofs.Ytiagbadnmkeokaa.diskSafe
