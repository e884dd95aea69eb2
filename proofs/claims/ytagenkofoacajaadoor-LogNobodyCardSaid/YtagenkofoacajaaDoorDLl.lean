/- What a disk's sector shows, over this translation. Condition: less than a million writes. -/
import Derived.Test.YtagenkofoacajaaDoorDLk
namespace Go.Proofs.YtagenkofoacajaaDoor
open Go.RowKit Go.Shelf Vi
attribute [local go_sem] Oper.semAt_some

/-- what a sector shows -/
def shwL (i : Int) : List Wr → ByteArray → ByteArray
  | [], s => s
  | x :: r, s => shwL i r (if x.1 = i then x.2 else s)
def shw (SS : List ByteArray) (CC : List Wr) (i : Int) : ByteArray := shwL i CC ((SS[i.toNat]?).getD ⟨#[]⟩)
theorem shwL_snoc (i : Int) : ∀ (l : List Wr) (x : Wr) (s : ByteArray), shwL i (l ++ [x]) s = if x.1 = i then x.2 else shwL i l s
  | [], _, _ => rfl
  | _ :: r, x, _ => shwL_snoc i r x _
theorem shwL_none (i : Int) : ∀ (l : List Wr) (s : ByteArray), (∀ x ∈ l, x.1 ≠ i) → shwL i l s = s
  | [], _, _ => rfl
  | y :: r, s, h => by
    show shwL i r _ = s
    rw [if_neg (h y (by simp))]
    exact shwL_none i r s (fun x hx => h x (List.mem_cons_of_mem _ hx))
theorem bwU_get (CC : List Wr) (k : Nat) (h : k < CC.length) : (bwU CC CC.length)[k]? = some (((CC.length - 1 - k : Nat) : Int), CC[CC.length - 1 - k]'(by omega)) := by
  unfold bwU
  rw [List.getElem?_map, List.getElem?_range h]
  simp
  rw [List.getElem?_eq_getElem (by omega)]
  rfl
/-- the first that is met, from behind, is what is shown -/
theorem shw_hit {SS : List ByteArray} {CC : List Wr} {i : Int} {q : List (Int × Wr)} {x : Int × Wr} (hp : q ++ [x] <+: bwU CC CC.length) (hq : ∀ y ∈ q, y.2.1 ≠ i) (hx : x.2.1 = i) : shw SS CC i = x.2.2 := by
  have hl := hp.length_le
  rw [bwU_len, List.length_append] at hl
  simp at hl
  have hk : q.length < CC.length := by omega
  have hat : ∀ j, j < q.length + 1 → (q ++ [x])[j]? = (bwU CC CC.length)[j]? := fun j hj => by
    obtain ⟨t, ht⟩ := hp
    rw [← ht, List.getElem?_append_left (l₁ := q ++ [x]) (by rw [List.length_append]; exact hj)]
  have hxe : x.2 = CC[CC.length - 1 - q.length]'(by omega) := by
    have e := hat q.length (by omega)
    rw [bwU_get CC _ hk] at e
    have e2 : (q ++ [x])[q.length]? = some x := by rw [List.getElem?_append_right (Nat.le_refl _), Nat.sub_self]; rfl
    rw [e2] at e
    injection e with e
    rw [e]
  have hne : ∀ j (_ : CC.length - 1 - q.length < j) (hj : j < CC.length), CC[j].1 ≠ i := fun j h1 hj => by
    have e := hat (CC.length - 1 - j) (by omega)
    rw [bwU_get CC _ (by omega), List.getElem?_append_left (by omega), List.getElem?_eq_getElem (by omega)] at e
    have h2 := hq _ (List.getElem_mem (l := q) (n := CC.length - 1 - j) (by omega))
    injection e with e
    rw [e] at h2
    have e2 : CC.length - 1 - (CC.length - 1 - j) = j := by omega
    simpa [e2] using h2
  have hs : CC = CC.take (CC.length - 1 - q.length) ++ [x.2] ++ CC.drop (CC.length - q.length) := by
    have e1 : CC.length - q.length = CC.length - 1 - q.length + 1 := by omega
    rw [hxe, List.append_assoc, List.singleton_append, e1, ← List.drop_eq_getElem_cons (by omega), List.take_append_drop]
  have app : ∀ (l m : List Wr) (s : ByteArray), shwL i (l ++ m) s = shwL i m (shwL i l s) := fun l => by
    induction l with
    | nil => intro m s; rfl
    | cons y r ih => intro m s; exact ih m _
  unfold shw
  rw [hs, app, shwL_snoc, if_pos hx]
  refine shwL_none i _ _ (fun y hy => ?_)
  obtain ⟨j, hj, e⟩ := List.getElem_of_mem hy
  rw [← e, List.getElem_drop]
  rw [List.length_drop] at hj
  exact hne _ (by omega) (by omega)
theorem shw_miss {SS : List ByteArray} {CC : List Wr} {i : Int} (hq : ∀ y ∈ bwU CC CC.length, y.2.1 ≠ i) : shw SS CC i = (SS[i.toNat]?).getD ⟨#[]⟩ := by
  refine shwL_none i CC _ (fun x hx => ?_)
  obtain ⟨j, hj, e⟩ := List.getElem_of_mem hx
  have h := bwU_get CC (CC.length - 1 - j) (by omega)
  have h2 := hq _ (List.mem_of_getElem? h)
  have e2 : CC.length - 1 - (CC.length - 1 - j) = j := by omega
  rw [← e]
  simpa [e2] using h2
theorem row_own {β : Type} (B : Nat) (o : Obj) (hc : o.isCells = true) : Own (fun (_ : β) (W : World) => W.heap[B]? = some o) := fun _ X Y row hs hg hrow => by
  have hs : X.heap[B]? = some o := hs
  show Y.heap[B]? = some o
  rw [hg.block B (lt_of_block hs) (fun e => by
    obtain ⟨o', ho, hc'⟩ := hrow B (by first | exact e | exact e.symm)
    rw [hs] at ho
    cases ho
    rw [hc] at hc'
    cases hc')]
  exact hs
set_option maxRecDepth 100000 in
set_option maxHeartbeats 4000000 in
theorem dshow_in (F : Fence) (n : Nat) (h3 : F.fn 72) (h4 : F.fn 99) (h5 : F.fn 127) (hro : F.round = none) (hn : 6 ≤ n)
    (D : Nat) (SS : List ByteArray) (CC : List Wr) (dn : Bool) (ops fu : Int) (i : Int) (w : World) (h : DK D SS CC dn ops fu w) (hi : 0 ≤ i ∧ i < (SS.length : Int)) (hl : CC.length ≤ 1000000) :
    CallsIn F n Tryd.prog 72 #[.pointer (some ⟨D, 0, none⟩), .int .i64 i] w fun e W' => e = .returned (.string (shw SS CC i)) ∧ Below w.heap.size w W' := by
  have h1 : 1 ≤ n := by omega
  obtain ⟨⟨sa, sn, sc, ca, cn, cc, g1, g2, g3⟩, _⟩ := h
  have HD := Lib.hid g1
  have H2 := Lib.hid g2
  obtain ⟨A, c, e, hr, _, _⟩ := g3.rd wrC_len
  injection e with e1 e2 e3
  subst e1 e2 e3
  have HR := Lib.hid hr
  have HOA := Lib.hid (fun b o (e : ca = some ⟨b, o, none⟩) => show b < w.heap.size from by subst e; exact own_lt g3)
  obtain ⟨c0, c1, c2, c3, c4, c5⟩ := dk_cells g1
  have HI := Lib.hid hi
  have c1b : ((w.alloc (.cells #[.int .i64 i] 3)).alloc (.cells #[.string ⟨#[]⟩] 9)).cell? ⟨D, 1, none⟩ = some (.slice ca CC.length cc) := (dk_cells (blk_alloc (blk_alloc g1 _) _)).2.1
  clear g1 g2 g3 hr hi
  refine callsIn_of_wp_marks Tryd.func72 rfl h3 ?_ hro
  simp only [Tryd.ntmps72, List.size_toArray, List.length_cons, List.length_nil, Nat.reduceAdd, Nat.reduceSub, Array.replicate_succ, Array.replicate_zero, List.push_toArray, List.append_toArray, List.nil_append, List.cons_append]
  gi_wp2_with (gi_at_call 99; refine (back_in F (n - 1) h4 hro _ _ _ _).mono ?_; rintro e w' ⟨rfl, rfl⟩)
  have bI := ((Boxed.new w 3 (.int .i64 i)).alloc (.cells #[.string ⟨#[]⟩] 9)).alloc (.cells #[.slice ca CC.length cc] 92)
  have bR := (Boxed.new (w.alloc (.cells #[.int .i64 i] 3)) 9 (.string ⟨#[]⟩)).alloc (.cells #[.slice ca CC.length cc] 92)
  have bS := Boxed.new ((w.alloc (.cells #[.int .i64 i] 3)).alloc (.cells #[.string ⟨#[]⟩] 9)) 92 (.slice ca CC.length cc)
  simp only [World.size_alloc] at bR bS
  have hB0 : Below w.heap.size w (((w.alloc (.cells #[.int .i64 i] 3)).alloc (.cells #[.string ⟨#[]⟩] 9)).alloc (.cells #[.slice ca CC.length cc] 92)) := (((Below.refl _ w).alloc (Nat.le_refl _) _).alloc (by simp) _).alloc (by simp; omega) _
  have hsz : (((w.alloc (.cells #[.int .i64 i] 3)).alloc (.cells #[.string ⟨#[]⟩] 9)).alloc (.cells #[.slice ca CC.length cc] 92)).heap.size = w.heap.size + 3 := by simp
  clear c0 c1 c2 c3 c4 c5 c1b
  obtain ⟨W0, hW0⟩ : ∃ W0, ((w.alloc (.cells #[.int .i64 i] 3)).alloc (.cells #[.string ⟨#[]⟩] 9)).alloc (.cells #[.slice ca CC.length cc] 92) = W0 := ⟨_, rfl⟩
  rw [hW0] at bI bR bS hB0 hsz ⊢
  clear hW0
  have HB0 := Lib.hid hB0
  refine wpIn_rangeFunc_ownH hro h1 (gf := 127) (lb := #[.pointer (some ⟨w.heap.size + 1 + 1, 0, none⟩)]) rfl h5 (enters_of Tryd.func127 (by kernel_rfl) rfl)
    (back_stops F (n - 1) h5 hro (by omega) (w.heap.size + 1 + 1) ca cc CC hl W0 (by omega) bS.cell (HR.out.below hB0) (fun b o e => by have := HOA.out b o e; omega)) belowK_t (belowK_b (by omega)) (Below.refl _ _) (fun _ => rfl)
    (fun pre W => (Boxed W w.heap.size 3 (.int .i64 i) ∧ Boxed W (w.heap.size + 1) 9 (.string ⟨#[]⟩)) ∧ Hid (∀ y ∈ pre, y.2.1 ≠ i) ∧ Below W0.heap.size W0 W)
    (fun c pre W => (Boxed W (w.heap.size + 1) 9 (.string (((pre.getLast?).map (·.2.2)).getD ⟨#[]⟩))) ∧ Hid (c = .ret ∧ ∃ q x, pre = q ++ [x] ∧ (∀ y ∈ q, y.2.1 ≠ i) ∧ x.2.1 = i) ∧ Below w.heap.size w W)
    (OwnFrom.and (OwnFrom.and (Own.from (boxed_own _ _ _) _) (Own.from (boxed_own _ _ _) _)) (OwnFrom.and (ownFrom_pure _ _) (ownFrom_below (Nat.le_refl _) (by omega))))
    (fun c => OwnFrom.and (Own.from (boxed_own _ _ _) _) (OwnFrom.and (ownFrom_pure _ _) (ownFrom_below (Nat.le_refl _) (by omega))))
    ⟨⟨bI, bR⟩, Lib.hid (by simp), Below.refl _ _⟩
    (fun x a' W => ∃ Bx, w.heap.size + 1 < Bx ∧ W.heap[Bx]? = some (.cells #[.int .i64 x.2.1, .string x.2.2] 112 (0, 0)) ∧ a' = { tmps := #[.pointer (some ⟨D, 0, none⟩), .int .i64 i, undef, .pointer (some ⟨w.heap.size, 0, none⟩), .pointer (some ⟨w.heap.size + 1, 0, none⟩), undef, .pointer (some ⟨Bx, 0, none⟩), .pointer (some ⟨D, 0, none⟩), .pointer (some ⟨D, 0, none⟩), .pointer (some ⟨D, 1, none⟩), .slice ca CC.length cc, .func (.func 127) #[] #[.pointer (some ⟨w.heap.size + 1 + 1, 0, none⟩)], .int .i64 x.1, .agg #[.int .i64 x.2.1, .string x.2.2], undef, undef, undef, undef, undef, undef, undef, undef, undef, undef, undef, undef, undef], defers := [] })
    (fun x a' _ X Y row hs hg hr => by obtain ⟨Bx, h1, h2, h3⟩ := hs; exact ⟨Bx, h1, row_own Bx _ rfl () X Y row h2 hg (fun r e => (hr r e).2), h3⟩)
    ?assign ?body ?done ?stop
  case assign =>
    rintro l pre x W K ⟨⟨bI1, bR1⟩, hne, hB⟩ hK
    gi_wp2
    exact hK _ _ ((KeepsOthers.alloc _ _).from _) ((Below.refl _ W).alloc hB.size _) ⟨⟨bI1.alloc _, bR1.alloc _⟩, hne, hB.alloc hB.size _⟩ ⟨W.heap.size, by have := hB.size; omega, blk_new W _, rfl⟩
  case body =>
    rintro l pre x a' W hl ⟨r, hr⟩ ⟨⟨bI1, bR1⟩, hne, hB⟩ ⟨Bx, hBx, hX, rfl⟩ hlt
    have HN := Lib.hid hne
    have HB := Lib.hid hB
    have HX := Lib.hid hX
    have cI := bI1.cell
    have cR := bR1.cell
    have fR := bR1.frozen
    have x0 : W.cell? ⟨Bx, 0, none⟩ = some (.int .i64 x.2.1) := (cell_of_row _ _ 0 _ _ _ hX).trans rfl
    have x1 : W.cell? ⟨Bx, 1, none⟩ = some (.string x.2.2) := (cell_of_row _ _ 1 _ _ _ hX).trans rfl
    have hWs := hB.size
    clear hne hB hX hr
    by_cases hq : x.2.1 = i
    · have d1 : (x.2.1 == i) = true := by simpa using hq
      have HQ := Lib.hid hq
      clear hq
      gi_wp2
      refine ⟨(KeepsOthers.setCell _ _ _).from _, ?_, Lib.hid ⟨rfl, pre, x, rfl, HN.out, HQ.out⟩, (HB0.out.trans (HB.out.mono (by omega))).setCell (p := ⟨w.heap.size + 1, 0, none⟩) (by show w.heap.size ≤ w.heap.size + 1; omega) _⟩
      have hv : (((pre ++ [x]).getLast?).map (fun y : Int × Wr => y.2.2)).getD ⟨#[]⟩ = x.2.2 := by simp
      rw [hv]
      exact bR1.set _
    · have d1 : (x.2.1 == i) = false := by rw [beq_eq_false_iff_ne]; exact hq
      have HQ := Lib.hid hq
      clear hq
      gi_wp2
      exact ⟨KeepsFrom.refl _ _, Below.refl _ _, ⟨bI1, bR1⟩, Lib.hid (fun y hy => by
        rcases List.mem_append.1 hy with hy | hy
        · exact HN.out y hy
        · obtain rfl : y = x := (by simpa using hy)
          exact HQ.out), HB.out⟩
  case done =>
    rintro Dd xs W hD rfl ⟨⟨bI1, bR1⟩, hne, hB⟩ hK
    have HN := Lib.hid hne
    have HBw := Lib.hid (HB0.out.trans (hB.mono (by omega)))
    have HDW := Lib.hid (blk_below HD.out HBw.out)
    have H2W := Lib.hid (H2.out.kept HBw.out)
    have HK := Lib.hid hK
    have cI := bI1.cell
    have cR := bR1.cell
    have fR := bR1.frozen
    clear hne hB hK
    obtain ⟨hi0, hi1⟩ := HI.out
    obtain ⟨k, rfl⟩ : ∃ k : Nat, i = (k : Int) := ⟨i.toNat, by omega⟩
    have hk : k < SS.length := by omega
    obtain ⟨A2, c2, e, hr2, _, _⟩ := H2W.out.rd stC_len
    injection e with e1 e2 e3
    subst e1 e2 e3
    obtain ⟨b, off, _, rfl, _, hcell⟩ := hr2.at hk
    have c2 := hcell 0 (.string SS[k]) rfl
    rw [Nat.mul_one, Nat.add_zero] at c2
    have c0 : W.cell? ⟨D, 0, none⟩ = some (.slice (some ⟨b, off, none⟩) SS.length _) := (dk_cells HDW.out).1
    have HE := Lib.hid (show shw SS CC (k : Int) = SS[k] by rw [shw_miss HN.out]; simp [hk])
    clear hcell hr2
    obtain ⟨s, hs⟩ : ∃ s, s = SS[k] := ⟨_, rfl⟩
    rw [← hs] at c2 HE
    clear hs
    gi_wp2
    gi_region
    all_goals
      gi_wp2
      have hK' : ((W.setCell ⟨w.heap.size + 1, 0, none⟩ (.string s)).drew).heap[Dd]? = some (.deferred (some [])) := (KeepsOthers.setCell W ⟨w.heap.size + 1, 0, none⟩ (.string s)).same Dd _ HK.out rfl
      have hc5 : ((W.setCell ⟨w.heap.size + 1, 0, none⟩ (.string s)).drew).cell? ⟨w.heap.size + 1, 0, none⟩ = some (.string s) := World.cell?_setCell_same' W ⟨w.heap.size + 1, 0, none⟩ (.string s) (by rw [cR]; rfl)
      refine ⟨by simp, .inl ⟨_, _, rfl, run_takeDeferred hK', ?_⟩⟩
      have hc6 := cell_kept hc5 (grownBy_putObj' _ Dd (.deferred none)) (fun r e => by cases e; exact ⟨_, hK', rfl⟩)
      refine ⟨.string s, ?_, by rw [HE.out], ((HBw.out.setCell (p := ⟨w.heap.size + 1, 0, none⟩) (by show w.heap.size ≤ w.heap.size + 1; omega) _).drew).trans (belowK_b (w := w) (Nat.le_refl _) _ Dd _ _ (by omega) hK' rfl rfl)⟩
      simp [results, Tryd.f72, go_sem, hc6]
  case stop =>
    rintro Dd c pre W hD hpre ⟨bR1, hx, hB⟩ hK
    obtain ⟨rfl, q, x, rfl, hq, hxi⟩ := hx.out
    have hv : (((q ++ [x]).getLast?).map (fun y : Int × Wr => y.2.2)).getD ⟨#[]⟩ = x.2.2 := by simp
    rw [hv] at bR1
    have HS := Lib.hid (shw_hit (SS := SS) hpre hq hxi)
    gi_wp2
    refine ⟨by simp, .inl ⟨_, _, rfl, run_takeDeferred hK, ?_⟩⟩
    have hc5 := cell_kept bR1.cell (grownBy_putObj' _ Dd (.deferred none)) (fun r e => by cases e; exact ⟨_, hK, rfl⟩)
    refine ⟨.string x.2.2, ?_, by rw [HS.out], hB.trans (belowK_b (w := w) (Nat.le_refl _) W Dd _ _ (by omega) hK rfl rfl)⟩
    simp [results, Tryd.f72, go_sem, hc5]
end Go.Proofs.YtagenkofoacajaaDoor
