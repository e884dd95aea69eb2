/- Which blocks are a shelf's own; add. Conditions: few enough of all, names no longer than a text may be. -/
import Derived.Test.YtpjpegmjcgkonaaDoorQShelfNobodySFb
namespace Go.Proofs.YtpjpegmjcgkonaaDoor
open Go.RowKit Vi

/-- a block is a shelf's own: its box, its row of objects, its map -/
def InS (D : Nat) (w : World) (b : Nat) : Prop := b = D ∨ (∃ o n c, w.cell? ⟨D, 0, none⟩ = some (.slice (some ⟨b, o, none⟩) n c)) ∨ w.cell? ⟨D, 1, none⟩ = some (.map (some b))
/-- only a shelf's own blocks have turned, and no other old one has become its own -/
structure Ks (D : Nat) (w w' : World) : Prop where
  os : w'.os = w.os
  tape : w'.tape = w.tape
  output : w'.output = w.output
  size : w.heap.size ≤ w'.heap.size
  block : ∀ b, b < w.heap.size → ¬ InS D w b → w'.heap[b]? = w.heap[b]?
  ind : ∀ b, b < w.heap.size → InS D w' b → InS D w b
theorem Ks.refl (D : Nat) (w : World) : Ks D w w := ⟨rfl, rfl, rfl, Nat.le_refl _, fun _ _ _ => rfl, fun _ _ h => h⟩
theorem Ks.trans {D : Nat} {a b c : World} (h : Ks D a b) (k : Ks D b c) : Ks D a c :=
  ⟨k.os.trans h.os, k.tape.trans h.tape, k.output.trans h.output, Nat.le_trans h.size k.size, fun i hi hn => (k.block i (Nat.lt_of_lt_of_le hi h.size) (fun q => hn (h.ind i hi q))).trans (h.block i hi hn), fun i hi q => h.ind i hi (k.ind i (Nat.lt_of_lt_of_le hi h.size) q)⟩
theorem Ks.of_below {D : Nat} {w w' : World} (hb : Below w.heap.size w w') (hD : D < w.heap.size) : Ks D w w' :=
  ⟨hb.os, hb.tape, hb.output, hb.size, fun b hb' _ => hb.block b hb', fun b _ q => by
    rcases q with q | ⟨o, n, c, q⟩ | q
    · exact .inl q
    · exact .inr (.inl ⟨o, n, c, by rw [← hb.cell (p := ⟨D, 0, none⟩) hD]; exact q⟩)
    · exact .inr (.inr (by rw [← hb.cell (p := ⟨D, 1, none⟩) hD]; exact q))⟩
section
variable {D : Nat} {oa : Option Addr} {on oc : Nat} {pm : Option Nat} {c0 c1 : ByteArray} {w : World}
theorem InS.row {g o : Nat} (h : w.heap[D]? = some (shO (some ⟨g, o, none⟩) on oc pm c0 c1)) : InS D w g := .inr (.inl ⟨o, on, oc, (sh_cells h).1⟩)
theorem InS.map {B : Nat} (h : w.heap[D]? = some (shO oa on oc (some B) c0 c1)) : InS D w B := .inr (.inr (sh_cells h).2.1)
theorem InS.cases {b : Nat} (h : w.heap[D]? = some (shO oa on oc pm c0 c1)) (q : InS D w b) : b = D ∨ (∃ o, oa = some ⟨b, o, none⟩) ∨ pm = some b := by
  rcases q with q | ⟨o, n, c, q⟩ | q
  · exact .inl q
  · rw [(sh_cells h).1] at q
    cases q
    exact .inr (.inl ⟨o, rfl⟩)
  · rw [(sh_cells h).2.1] at q
    cases q
    exact .inr (.inr rfl)
end
theorem own_ltS {α : Type} {f : α → List Value} {s : Nat} {T : TypeId} {w : World} {B g o n c : Nat} {l : List α} (h : OwX f s T w B (.slice (some ⟨g, o, none⟩) n c) l) : g < w.heap.size := by
  rcases h.2 with ⟨e, _⟩ | ⟨g', cap, cur, e, _, h4, _⟩
  · cases e
  · injection e with e _ _
    injection e with e
    injection e with e _ _
    subst e
    exact lt_of_block h4
/-- what is new is none of a shelf's own -/
theorem SK.new {D : Nat} {L : List Ob} {c0 c1 : ByteArray} {k : Nat} {w : World} (h : SK D L c0 c1 k w) {b : Nat} (q : InS D w b) : b < w.heap.size := by
  obtain ⟨oa, on, oc, B, h1, h2, h3⟩ := h
  rcases q.cases h1 with q | ⟨o, q⟩ | q
  · subst q; exact lt_of_block h1
  · subst q; exact own_ltS h2
  · cases q; exact h3.lt
theorem pos_snoc {L : List Ob} {o : Ob} (h : posO L o.1 = none) (s : ByteArray) : updF (posO L) o.1 (L.length : Int) s = posO (L ++ [o]) s := by
  unfold updF
  by_cases e : o.1 = s
  · subst e
    rw [if_pos (by simp)]
    unfold posO at h ⊢
    rw [Option.map_eq_none_iff] at h
    rw [List.findIdx?_append, h]
    simp
  · have hf : (o.1.toList == s.toList) = false := by
      cases q : (o.1.toList == s.toList) with
      | false => rfl
      | true => exact absurd (ba_eq.1 q) e
    rw [if_neg (by rw [hf]; simp)]
    unfold posO
    rw [List.findIdx?_append]
    cases L.findIdx? (fun x => x.1.toList == s.toList) with
    | some i => simp
    | none => simp [hf]
theorem OwX.kkD {α : Type} {f : α → List Value} {s : Nat} {T : TypeId} {w W : World} {B g : Nat} {v : Value} {l : List α} {cs : Array Value} {T' : TypeId} {fr : Nat × Nat} (h : OwX f s T w B v l) (k : KK [g] w W) (hg : w.heap[g]? = some (.cells cs T' fr)) (hT : T ≠ T') : OwX f s T W B v l := by
  rcases h with ⟨h1, h | ⟨b, cap, cur, h2, h3, h4, h5⟩⟩
  · exact ⟨h1, .inl h⟩
  · exact ⟨h1, .inr ⟨b, cap, cur, h2, h3, k.blk h4 (fun e => by
      have e1 : b = g := by simpa using e
      subst e1
      rw [hg] at h4
      cases h4
      exact hT rfl), h5⟩⟩
theorem OwX.sl0S {α : Type} {f : α → List Value} {s : Nat} {T : TypeId} {w : World} {B : Nat} {A : Option Addr} {n c : Nat} {l : List α} (h : OwX f s T w B (.slice A n c) l) : ∀ b o, A = some ⟨b, o, none⟩ → (Value.slice A n c).ownBlock = some b := by
  intro b o e
  rcases h.2 with ⟨q, _⟩ | ⟨g, _, _, q, _⟩
  · injection q with q _ _
    rw [e] at q; cases q
  · subst e
    rfl
theorem MapI.notRow {α : Type} {f : α → List Value} {s : Nat} {T : TypeId} {w w' : World} {B0 B k : Nat} {v : Value} {l : List α} {g : ByteArray → Option Int} (m : MapI w B k g) (h : OwX f s T w B0 v l) (hg : w.grownBy w' v.ownBlock) : MapI w' B k g := by
  refine m.kept (hg.block B m.lt (fun e => ?_))
  obtain ⟨n, D, ⟨es, cl, q, _⟩, _⟩ := m
  rcases h.2 with ⟨hv, _⟩ | ⟨b, cap, cur, hv, hB, h6, _⟩
  · rw [hv] at e; simp [Value.ownBlock] at e
  · rw [hv] at e
    simp [Value.ownBlock] at e
    subst e
    rw [h6] at q
    cases q
theorem info_ob : (Tryd.prog.info? 81).map (fun i => (i.zero, i.size, i.bytes)) = some (some (.agg #[.string ⟨#[]⟩, .string ⟨#[]⟩]), 2, 32) := by kernel_rfl
/-- w to W: below n all as it was but block B, which may have turned -/
structure KB (n B : Nat) (w W : World) : Prop where
  os : W.os = w.os
  tape : W.tape = w.tape
  output : W.output = w.output
  size : w.heap.size ≤ W.heap.size
  block : ∀ b, b < n → b ≠ B → W.heap[b]? = w.heap[b]?
theorem kk_grown {w v W : World} {B n : Nat} (h : Below n w v) (g : v.grownBy W (some B)) (hn : n ≤ v.heap.size) : KB n B w W :=
  ⟨g.os.trans h.os, g.tape.trans h.tape, g.output.trans h.output, Nat.le_trans h.size g.size, fun b hb hne => (g.block b (Nat.lt_of_lt_of_le hb hn) (fun e => hne (by injection e with e))).trans (h.block b hb)⟩
theorem KB.drew2 {w W : World} {B n : Nat} (h : KB n B w W) : KB n B w W.drew := ⟨h.os, h.tape, h.output, h.size, h.block⟩
theorem KB.allocK {w W : World} {B n : Nat} (h : KB n B w W) (o : Obj) (hn : n ≤ W.heap.size) : KB n B w (W.alloc o) :=
  ⟨h.os, h.tape, h.output, Nat.le_trans h.size (by show _ ≤ (W.heap.push o).size; simp), fun b hb hne => ((Below.heap_alloc W o b (Nat.lt_of_lt_of_le hb hn))).trans (h.block b hb hne)⟩
theorem ks_app {D B : Nat} {oa : Option Addr} {on oc : Nat} {c0 c1 : ByteArray} {A : Option Addr} {n c : Nat} {d0 d1 : ByteArray} {w v w7 w8 : World} (hD : D < w.heap.size)
    (h : w.heap[D]? = some (shO oa on oc (some B) c0 c1)) (h8 : w8.heap[D]? = some (shO A n c (some B) d0 d1)) (hb : KB w.heap.size B w v) (hg : v.grownBy w7 (Value.slice oa on oc).ownBlock) (hk : KK [D] w7 w8)
    (how : ∀ g, (Value.slice oa on oc).ownBlock = some g → g < w.heap.size ∧ InS D w g) (ha : (Value.slice A n c).ownBlock = (Value.slice oa on oc).ownBlock ∨ (Value.slice A n c).ownBlock = some v.heap.size) (hs : ∀ b o, A = some ⟨b, o, none⟩ → (Value.slice A n c).ownBlock = some b) : Ks D w w8 := by
  have hv := hb.size
  refine ⟨hk.os.trans (hg.os.trans hb.os), hk.tape.trans (hg.tape.trans hb.tape), hk.output.trans (hg.output.trans hb.output), Nat.le_trans hv (Nat.le_trans hg.size hk.size), fun b hbl hn => ?_, fun b hbl q => ?_⟩
  · rw [hk.block b (Nat.lt_of_lt_of_le hbl (Nat.le_trans hv hg.size)) (fun e => hn (by obtain rfl : b = D := (by simpa using e); exact .inl rfl))]
    rw [hg.block b (Nat.lt_of_lt_of_le hbl hv) (fun e => hn (how b (by first | exact e | exact e.symm)).2)]
    exact hb.block b hbl (fun e => hn (by subst e; exact InS.map h))
  · rcases q.cases h8 with q | ⟨o, q⟩ | q
    · subst q; exact .inl rfl
    · have e := hs b o q
      rcases ha with ha | ha
      · rw [e] at ha
        exact (how b ha.symm).2
      · rw [e] at ha
        injection ha with ha
        omega
    · cases q
      exact InS.map h
theorem OwX.notMap {α : Type} {f : α → List Value} {s : Nat} {T : TypeId} {w w' : World} {B0 B k : Nat} {v : Value} {l : List α} {g : ByteArray → Option Int} (h : OwX f s T w B0 v l) (m : MapI w B k g) (hg : w.grownBy w' (some B)) : OwX f s T w' B0 v l := by
  rcases h with ⟨h1, h | ⟨b, cap, cur, h2, h3, h4, h5⟩⟩
  · exact ⟨h1, .inl h⟩
  · refine ⟨h1, .inr ⟨b, cap, cur, h2, h3, (hg.block b (lt_of_block h4) (fun e => ?_)).trans h4, h5⟩⟩
    injection e with e
    subst e
    obtain ⟨n, D, ⟨es, cl, q, _⟩, _⟩ := m
    rw [h4] at q
    cases q
structure SD (D X : Nat) (cs os : Array Value) (k : Nat) (L : Array Bool) (W : World) : Prop where
  x : W.heap[X]? = some (.cells os 81 (0, 0))
  d : L.getD k false = false → W.heap[D]? = some (.cells cs 55 (0, 0))
theorem SD.set {D X : Nat} {cs os : Array Value} {k j : Nat} (h1 : j ≠ k) (L : Array Bool) (w : World) : SD D X cs os k (L.setIfInBounds j true) w ↔ SD D X cs os k L w :=
  ⟨fun h => ⟨h.x, fun q => h.d (by rw [getF_set L j k h1]; exact q)⟩, fun h => ⟨h.x, fun q => h.d (by rw [getF_set L j k h1] at q; exact q)⟩⟩
theorem SD.dOf {md : Region.Mode} {ops : Array Oper} {D X : Nat} {cs os : Array Value} {k j : Nat} {w : World} (h : SI md ops (SD D X cs os k) j w) (f : Nat) (hw : waits md ops f k j = true) : w.heap[D]? = some (.cells cs 55 (0, 0)) := by
  obtain ⟨L, hs, hi, hS⟩ := h
  exact hS.d (shut_of hs hi f k hw)
theorem SD.xOf {md : Region.Mode} {ops : Array Oper} {D X : Nat} {cs os : Array Value} {k j : Nat} {w : World} (h : SI md ops (SD D X cs os k) j w) : w.heap[X]? = some (.cells os 81 (0, 0)) := by
  obtain ⟨L, _, _, hS⟩ := h
  exact hS.x
set_option linter.unusedSimpArgs false in
set_option maxRecDepth 100000 in
set_option maxHeartbeats 4000000 in
theorem sadd_any (D : Nat) (L : List Ob) (c0 c1 : ByteArray) (k : Nat) (s t : ByteArray) (w : World) (h : SK D L c0 c1 k w) (hp : posO L s = none) (hs : s.size ≤ maxLen) (hk : k < 1000000) (hl : L.length < 1000000) :
    Calls Tryd.prog 56 #[.pointer (some ⟨D, 0, none⟩), .agg #[.string s, .string t]] w fun e w' => e = .returned (.tuple #[]) ∧ SK D (L ++ [(s, t)]) c0 c1 (k + 1) w' ∧ Ks D w w' := by
  have HBn := Lib.hid ((Below.refl w.heap.size w).alloc (Nat.le_refl _) (.cells #[.string s, .string t] 81 (0, 0)))
  have HLT := Lib.hid h.lt
  have HNEW := Lib.hid (fun (b : Nat) (q : InS D w b) => h.new q)
  obtain ⟨oa, on, oc, B, h1, h2, h3⟩ := h
  have HW1 := Lib.hid h1
  have HX0 := Lib.hid (blk_new w (.cells #[.string s, .string t] 81 (0, 0)))
  have HD0 := Lib.hid (blk_alloc h1 (.cells #[.string s, .string t] 81 (0, 0)))
  have HO0 := Lib.hid (h2.alloc (.cells #[.string s, .string t] 81 (0, 0)))
  have HM0 := Lib.hid (h3.kept (w' := w.alloc (.cells #[.string s, .string t] 81 (0, 0))) (HBn.out.block B h3.lt))
  have hon : L.length = on := by
    obtain ⟨_, _, e, hr, _, _⟩ := h2.rd obC_len
    injection e with _ e _
    exact e.symm
  have HP := Lib.hid hp
  have HOB := Lib.hid (fun (g : Nat) (e : (Value.slice oa on oc).ownBlock = some g) => show g < w.heap.size ∧ InS D w g from by
    rcases h2.2 with ⟨q, _⟩ | ⟨g', _, _, q, _, h4, _⟩
    · rw [q] at e; simp [Value.ownBlock] at e
    · injection q with q1 _ _
      subst q1
      simp [Value.ownBlock] at e
      subst e
      exact ⟨lt_of_block h4, InS.row h1⟩)
  have hBl := h3.lt
  have hDB : D ≠ B := fun e => by
    obtain ⟨n, Dm, ⟨es, cl, q, _⟩, _⟩ := h3
    rw [← e, h1] at q
    cases q
  clear h1 h2 h3 hp
  obtain ⟨v, hv⟩ : ∃ v, v = w.alloc (.cells #[.string s, .string t] 81 (0, 0)) := ⟨_, rfl⟩
  have HV := Lib.hid hv
  rw [← hv] at HBn HX0 HD0 HO0 HM0
  clear hv
  go_enter Tryd.func56, Tryd.ntmps56
  go_upto_region 1 with (fail)
  rw [← HV.out]
  clear HV
  have HBn := Lib.hid HBn.out.drew
  have HX0 := Lib.hid (show v.drew.heap[w.heap.size]? = some (.cells #[.string s, .string t] 81 (0, 0)) from HX0.out)
  have HD0 := Lib.hid (show v.drew.heap[D]? = some (shO oa on oc (some B) c0 c1) from HD0.out)
  have HO0 := Lib.hid HO0.out.drew
  have HM0 := Lib.hid (HM0.out.kept (w' := v.drew) rfl)
  refine wp_region_L_drew (S := fun _ W => W.heap[w.heap.size]? = some (.cells #[.string s, .string t] 81 (0, 0)) ∧ W.heap[D]? = some (shO oa on oc (some B) c0 c1)) (by kernel_rfl) ⟨HX0.out, HD0.out⟩ (fun hS hC => ?_)
  generalize v.drew = v0 at *
  have hwf : (Lit.int .i64 (on : Int)).wf = true := by simp [Lit.wf, IntKind.min, IntKind.max, IntKind.bits, IntKind.signed]; omega
  obtain ⟨v1, hrun, hm1, hg1⟩ := HM0.out.put s (on : Int) hs hwf (Nat.lt_of_lt_of_le hk (by decide))
  refine wpAnyL_take (i := 0) (oi := { dst := some 4, op := .move (.tmp 0), type := _, pos := _, after := _, guard := none }) (v := ?_) rfl (by kernel_rfl) (by kernel_rfl) (by kernel_rfl) (fun _ _ _ h => h) (fun _ _ => Iff.rfl) hC (Or.inl ⟨by rfl, ?_⟩) hS (fun hC hS => ?_)
  rotate_left
  · intro W9 hSw; skip; go_simp; try (with_reducible rfl)
  try simp only [Act.put, List.setIfInBounds_toArray, List.set_cons_zero, List.set_cons_succ]
  refine wpAnyL_take (i := 1) (oi := { dst := some 5, op := .nilCheck (.tmp 4), type := _, pos := _, after := _, guard := none }) (v := ?_) rfl (by kernel_rfl) (by kernel_rfl) (by kernel_rfl) (fun _ _ _ h => h) (fun _ _ => Iff.rfl) hC (Or.inl ⟨by rfl, ?_⟩) hS (fun hC hS => ?_)
  rotate_left
  · intro W9 hSw; skip; go_simp; try (with_reducible rfl)
  try simp only [Act.put, List.setIfInBounds_toArray, List.set_cons_zero, List.set_cons_succ]
  refine wpAnyL_take (i := 2) (oi := { dst := some 6, op := .fieldAddr 55 (.tmp 5) 1, type := _, pos := _, after := _, guard := none }) (v := ?_) rfl (by kernel_rfl) (by kernel_rfl) (by kernel_rfl) (fun _ _ _ h => h) (fun _ _ => Iff.rfl) hC (Or.inl ⟨by rfl, ?_⟩) hS (fun hC hS => ?_)
  rotate_left
  · intro W9 hSw; skip; go_simp; try (with_reducible rfl)
  try simp only [Act.put, List.setIfInBounds_toArray, List.set_cons_zero, List.set_cons_succ]
  refine wpAnyL_take (i := 3) (oi := { dst := some 7, op := .load 52 (.tmp 6), type := _, pos := _, after := _, guard := none }) (v := ?_) rfl (by kernel_rfl) (by kernel_rfl) (by kernel_rfl) (fun _ _ _ h => h) (fun _ _ => Iff.rfl) hC (Or.inl ⟨by rfl, ?_⟩) hS (fun hC hS => ?_)
  rotate_left
  · intro W9 hSw; have q1 := (cell_of_row _ _ 1 _ _ _ (hSw.choose_spec.2.2.2)).trans rfl; go_simp; try (with_reducible rfl)
  try simp only [Act.put, List.setIfInBounds_toArray, List.set_cons_zero, List.set_cons_succ]
  refine wpAnyL_take (i := 4) (oi := { dst := some 8, op := .fieldAddr 81 (.tmp 3) 0, type := _, pos := _, after := _, guard := none }) (v := ?_) rfl (by kernel_rfl) (by kernel_rfl) (by kernel_rfl) (fun _ _ _ h => h) (fun _ _ => Iff.rfl) hC (Or.inl ⟨by rfl, ?_⟩) hS (fun hC hS => ?_)
  rotate_left
  · intro W9 hSw; skip; go_simp; try (with_reducible rfl)
  try simp only [Act.put, List.setIfInBounds_toArray, List.set_cons_zero, List.set_cons_succ]
  refine wpAnyL_take (i := 5) (oi := { dst := some 9, op := .load 9 (.tmp 8), type := _, pos := _, after := _, guard := none }) (v := ?_) rfl (by kernel_rfl) (by kernel_rfl) (by kernel_rfl) (fun _ _ _ h => h) (fun _ _ => Iff.rfl) hC (Or.inl ⟨by rfl, ?_⟩) hS (fun hC hS => ?_)
  rotate_left
  · intro W9 hSw; have q0 := (cell_of_row _ _ 0 _ _ _ (hSw.choose_spec.2.2.1)).trans rfl; go_simp; try (with_reducible rfl)
  try simp only [Act.put, List.setIfInBounds_toArray, List.set_cons_zero, List.set_cons_succ]
  refine wpAnyL_take (i := 6) (oi := { dst := some 10, op := .move (.tmp 0), type := _, pos := _, after := _, guard := none }) (v := ?_) rfl (by kernel_rfl) (by kernel_rfl) (by kernel_rfl) (fun _ _ _ h => h) (fun _ _ => Iff.rfl) hC (Or.inl ⟨by rfl, ?_⟩) hS (fun hC hS => ?_)
  rotate_left
  · intro W9 hSw; skip; go_simp; try (with_reducible rfl)
  try simp only [Act.put, List.setIfInBounds_toArray, List.set_cons_zero, List.set_cons_succ]
  refine wpAnyL_take (i := 7) (oi := { dst := some 11, op := .nilCheck (.tmp 10), type := _, pos := _, after := _, guard := none }) (v := ?_) rfl (by kernel_rfl) (by kernel_rfl) (by kernel_rfl) (fun _ _ _ h => h) (fun _ _ => Iff.rfl) hC (Or.inl ⟨by rfl, ?_⟩) hS (fun hC hS => ?_)
  rotate_left
  · intro W9 hSw; skip; go_simp; try (with_reducible rfl)
  try simp only [Act.put, List.setIfInBounds_toArray, List.set_cons_zero, List.set_cons_succ]
  refine wpAnyL_take (i := 8) (oi := { dst := some 12, op := .fieldAddr 55 (.tmp 11) 0, type := _, pos := _, after := _, guard := none }) (v := ?_) rfl (by kernel_rfl) (by kernel_rfl) (by kernel_rfl) (fun _ _ _ h => h) (fun _ _ => Iff.rfl) hC (Or.inl ⟨by rfl, ?_⟩) hS (fun hC hS => ?_)
  rotate_left
  · intro W9 hSw; skip; go_simp; try (with_reducible rfl)
  try simp only [Act.put, List.setIfInBounds_toArray, List.set_cons_zero, List.set_cons_succ]
  refine wpAnyL_take (i := 9) (oi := { dst := some 13, op := .load 51 (.tmp 12), type := _, pos := _, after := _, guard := none }) (v := ?_) rfl (by kernel_rfl) (by kernel_rfl) (by kernel_rfl) (fun _ _ _ h => h) (fun _ _ => Iff.rfl) hC (Or.inl ⟨by rfl, ?_⟩) hS (fun hC hS => ?_)
  rotate_left
  · intro W9 hSw; have q0 := (cell_of_row _ _ 0 _ _ _ (hSw.choose_spec.2.2.2)).trans rfl; go_simp; try (with_reducible rfl)
  try simp only [Act.put, List.setIfInBounds_toArray, List.set_cons_zero, List.set_cons_succ]
  refine wpAnyL_take (i := 10) (oi := { dst := some 14, op := .call { callee := .builtin .len, args := #[.tmp 13], argTypes := #[51] }, type := _, pos := _, after := _, guard := none }) (v := ?_) rfl (by kernel_rfl) (by kernel_rfl) (by kernel_rfl) (fun _ _ _ h => h) (fun _ _ => Iff.rfl) hC (Or.inl ⟨by rfl, ?_⟩) hS (fun hC hS => ?_)
  rotate_left
  · intro W9 hSw; skip; go_simp; try (with_reducible rfl)
  try simp only [Act.put, List.setIfInBounds_toArray, List.set_cons_zero, List.set_cons_succ]
  refine wpAnyL_ready (rs := [11]) (by kernel_rfl) (by simp) hC ?_
  refine AllReadyL.cons (o := { dst := none, op := .mapUpdate 52 (.tmp 7) (.tmp 9) (.tmp 14), type := _, pos := _, after := _, guard := none }) rfl (fun K9 hK => ?_) ?_
  · skip
    go_simp
    have HBv := Lib.hid (kk_grown HBn.out hg1 HBn.out.size)
    have HX1 := Lib.hid ((hg1.block _ (lt_of_block HX0.out) (fun e => by have e := Option.some.inj e; omega)).trans HX0.out)
    have HD1 := Lib.hid ((hg1.block _ (lt_of_block HD0.out) (fun e => hDB (Option.some.inj e))).trans HD0.out)
    have HO1 := Lib.hid (HO0.out.notMap HM0.out hg1)
    have HM1 := Lib.hid (hm1.of (g := posO (L ++ [(s, t)])) (fun z => by rw [← hon]; exact pos_snoc (o := (s, t)) HP.out z))
    clear hm1 hrun HX0 HD0 HO0
    refine hK _ _ ⟨HX1.out, HD1.out⟩ (fun hC => ?_)
    clear hK K9
    try simp only [Act.put, List.setIfInBounds_toArray, List.set_cons_zero, List.set_cons_succ]
    refine wpAnyL_done (by kernel_rfl) ?_ _
    clear hS hC
    go_upto_region 2 with (fail)
    have HX1 := Lib.hid (show v1.drew.heap[w.heap.size]? = some (.cells #[.string s, .string t] 81 (0, 0)) from HX1.out)
    have HD1 := Lib.hid (show v1.drew.heap[D]? = some (shO oa on oc (some B) c0 c1) from HD1.out)
    have HO1 := Lib.hid HO1.out.drew
    have HM1 := Lib.hid (HM1.out.kept (w' := v1.drew) rfl)
    have HBv := Lib.hid HBv.out.drew2
    refine wp_region_L_drew (S := SD D w.heap.size #[.slice oa on oc, .map (some B), .string c0, .string c1] #[.string s, .string t] 10) (by kernel_rfl) ⟨HX1.out, fun _ => HD1.out⟩ (fun hS hC => ?_)
    generalize v1.drew = u0 at *
    have HX2 := Lib.hid (blk_alloc HX1.out (.cells #[.string s, .string t] 81 (0, 0)))
    have HD2 := Lib.hid (blk_alloc HD1.out (.cells #[.string s, .string t] 81 (0, 0)))
    have HO2 := Lib.hid (HO1.out.alloc (.cells #[.string s, .string t] 81 (0, 0)))
    have HM2 := Lib.hid (HM1.out.kept (w' := u0.alloc (.cells #[.string s, .string t] 81 (0, 0))) (Below.heap_alloc u0 (.cells #[.string s, .string t] 81 (0, 0)) B HM1.out.lt))
    have HB2 := Lib.hid (HBv.out.allocK (.cells #[.string s, .string t] 81 (0, 0)) HBv.out.size)
    have HN2 := Lib.hid (blk_new u0 (.cells #[.string s, .string t] 81 (0, 0)))
    refine wpAnyL_take (i := 0) (oi := { dst := some 15, op := .move (.tmp 0), type := _, pos := _, after := _, guard := none }) (v := ?_) rfl (by kernel_rfl) (by kernel_rfl) (by kernel_rfl) (fun _ _ _ h => h) (SD.set (by decide)) hC (Or.inl ⟨by rfl, ?_⟩) hS (fun hC hS => ?_)
    rotate_left
    · intro W9 hSw; skip; go_simp; try (with_reducible rfl)
    try simp only [Act.put, List.setIfInBounds_toArray, List.set_cons_zero, List.set_cons_succ]
    refine wpAnyL_take (i := 1) (oi := { dst := some 16, op := .move (.tmp 0), type := _, pos := _, after := _, guard := none }) (v := ?_) rfl (by kernel_rfl) (by kernel_rfl) (by kernel_rfl) (fun _ _ _ h => h) (SD.set (by decide)) hC (Or.inl ⟨by rfl, ?_⟩) hS (fun hC hS => ?_)
    rotate_left
    · intro W9 hSw; skip; go_simp; try (with_reducible rfl)
    try simp only [Act.put, List.setIfInBounds_toArray, List.set_cons_zero, List.set_cons_succ]
    refine wpAnyL_take (i := 2) (oi := { dst := some 17, op := .nilCheck (.tmp 16), type := _, pos := _, after := _, guard := none }) (v := ?_) rfl (by kernel_rfl) (by kernel_rfl) (by kernel_rfl) (fun _ _ _ h => h) (SD.set (by decide)) hC (Or.inl ⟨by rfl, ?_⟩) hS (fun hC hS => ?_)
    rotate_left
    · intro W9 hSw; skip; go_simp; try (with_reducible rfl)
    try simp only [Act.put, List.setIfInBounds_toArray, List.set_cons_zero, List.set_cons_succ]
    refine wpAnyL_take (i := 3) (oi := { dst := some 18, op := .fieldAddr 55 (.tmp 17) 0, type := _, pos := _, after := _, guard := none }) (v := ?_) rfl (by kernel_rfl) (by kernel_rfl) (by kernel_rfl) (fun _ _ _ h => h) (SD.set (by decide)) hC (Or.inl ⟨by rfl, ?_⟩) hS (fun hC hS => ?_)
    rotate_left
    · intro W9 hSw; skip; go_simp; try (with_reducible rfl)
    try simp only [Act.put, List.setIfInBounds_toArray, List.set_cons_zero, List.set_cons_succ]
    refine wpAnyL_take (i := 4) (oi := { dst := some 19, op := .load 51 (.tmp 18), type := _, pos := _, after := _, guard := none }) (v := ?_) rfl (by kernel_rfl) (by kernel_rfl) (by kernel_rfl) (fun _ _ _ h => h) (SD.set (by decide)) hC (Or.inl ⟨by rfl, ?_⟩) hS (fun hC hS => ?_)
    rotate_left
    · intro W9 hSw; have q0 := (cell_of_row _ _ 0 _ _ _ (SD.dOf hSw 12 (by kernel_rfl))).trans rfl; go_simp; try (with_reducible rfl)
    try simp only [Act.put, List.setIfInBounds_toArray, List.set_cons_zero, List.set_cons_succ]
    refine wpAnyL_take (i := 5) (oi := { dst := some 20, op := .load 81 (.tmp 3), type := _, pos := _, after := _, guard := none }) (v := ?_) rfl (by kernel_rfl) (by kernel_rfl) (by kernel_rfl) (fun _ _ _ h => h) (SD.set (by decide)) hC (Or.inl ⟨by rfl, ?_⟩) hS (fun hC hS => ?_)
    rotate_left
    · intro W9 hSw; have q0 := (cell_of_row _ _ 0 _ _ _ (SD.xOf hSw)).trans rfl; have q1 := (cell_of_row _ _ 1 _ _ _ (SD.xOf hSw)).trans rfl; go_simp; try (with_reducible rfl)
    try simp only [Act.put, List.setIfInBounds_toArray, List.set_cons_zero, List.set_cons_succ]
    refine wpAnyL_ready (rs := [6]) (by kernel_rfl) (by simp) hC ?_
    refine AllReadyL.cons (o := { dst := some 21, op := .buildSlice 51 1 #[(0, .tmp 20)], type := _, pos := _, after := _, guard := none }) rfl (fun K9 hK => ?_) ?_
    · skip
      go_simp
      refine hK _ _ ⟨HX2.out, fun _ => HD2.out⟩ (fun hC => ?_)
      clear hK K9
      try simp only [Act.put, List.setIfInBounds_toArray, List.set_cons_zero, List.set_cons_succ]
      refine wpAnyL_ready (rs := [7]) (by kernel_rfl) (by simp) hC ?_
      refine AllReadyL.cons (o := { dst := some 22, op := .call { callee := .builtin .append, args := #[.tmp 19, .tmp 21], argTypes := #[51, 51] }, type := _, pos := _, after := _, guard := none }) rfl (fun K9 hK => ?_) ?_
      · skip
        refine step_appPo rfl (.tmp 19) (.tmp 21) 51 81 _ 32 rfl Tryd.underlying51 info_ob rfl (by omega) (by omega) obC_len obC_one 0 (u0.alloc (.cells #[.string s, .string t] 81 (0, 0))) (Below.refl _ _) (Nat.zero_le _) (.slice oa on oc) L rfl HO2.out u0.heap.size 1 (s, t) #[.string s, .string t] 81 (0, 0) rfl HN2.out rfl (by omega) ?_
        intro v7 w7 HO7 HB7 HG7 HA7
        have HX7 := Lib.hid ((HG7.out.block _ (lt_of_block HX2.out) (fun e => by have := (HOB.out _ e.symm).1; omega)).trans HX2.out)
        have HD7 := Lib.hid (HO2.out.box HG7.out HD2.out (Or.inl (by decide)))
        have HM7 := Lib.hid (HM2.out.notRow HO2.out HG7.out)
        have z7 : w7.frozen? ⟨D, 0, none⟩ = false := frozen_of_row _ _ _ _ _ HD7.out
        have q7 : w7.cell? ⟨D, 0, none⟩ = some (.slice oa on oc) := (cell_of_row _ _ 0 _ _ _ HD7.out).trans rfl
        obtain ⟨A7, n7, c7, rfl⟩ := HO7.out.sl3
        refine hK _ _ ⟨HX7.out, fun _ => HD7.out⟩ (fun hC => ?_)
        clear hK K9
        try simp only [Act.put, List.setIfInBounds_toArray, List.set_cons_zero, List.set_cons_succ]
        refine wpAnyL_take (i := 8) (oi := { dst := some 23, op := .nilCheck (.tmp 15), type := _, pos := _, after := _, guard := none }) (v := ?_) rfl (by kernel_rfl) (by kernel_rfl) (by kernel_rfl) (fun _ _ _ h => h) (SD.set (by decide)) hC (Or.inl ⟨by rfl, ?_⟩) ⟨HX7.out, fun _ => HD7.out⟩ (fun hC hS => ?_)
        rotate_left
        · intro W9 hSw; skip; go_simp; try (with_reducible rfl)
        try simp only [Act.put, List.setIfInBounds_toArray, List.set_cons_zero, List.set_cons_succ]
        refine wpAnyL_take (i := 9) (oi := { dst := some 24, op := .fieldAddr 55 (.tmp 23) 0, type := _, pos := _, after := _, guard := none }) (v := ?_) rfl (by kernel_rfl) (by kernel_rfl) (by kernel_rfl) (fun _ _ _ h => h) (SD.set (by decide)) hC (Or.inl ⟨by rfl, ?_⟩) ⟨HX7.out, fun _ => HD7.out⟩ (fun hC hS => ?_)
        rotate_left
        · intro W9 hSw; skip; go_simp; try (with_reducible rfl)
        try simp only [Act.put, List.setIfInBounds_toArray, List.set_cons_zero, List.set_cons_succ]
        refine wpAnyL_ready (rs := [10]) (by kernel_rfl) (by simp) hC ?_
        refine AllReadyL.cons (o := { dst := none, op := .store 51 (.tmp 24) (.tmp 22), type := _, pos := _, after := _, guard := none }) rfl (fun K9 hK => ?_) ?_
        · skip
          go_simp
          have HK := Lib.hid ((KK.refl [D] w7).set (b := D) (by simp) 0 (.slice A7 n7 c7))
          have HD8 := Lib.hid (show (w7.setCell ⟨D, 0, none⟩ (.slice A7 n7 c7)).heap[D]? = some (shO A7 n7 c7 (some B) c0 c1) from heap_setCell_at (i := 0) (u := .slice A7 n7 c7) HD7.out)
          have HX8 := Lib.hid (HK.out.blk HX7.out (by have := HLT.out; simp; omega))
          have HO8 := Lib.hid (HO7.out.kkD HK.out HD7.out (by decide))
          have HM8 := Lib.hid (HM7.out.kept (HK.out.block B HM7.out.lt (by simpa using fun e => hDB e.symm)))
          refine hK _ _ ⟨HX8.out, fun q => absurd q (by decide)⟩ (fun hC => ?_)
          clear hK K9
          try simp only [Act.put, List.setIfInBounds_toArray, List.set_cons_zero, List.set_cons_succ]
          refine wpAnyL_done (by kernel_rfl) ?_ _
          clear hS hC
          refine bodyPost_end (results_none rfl _ _ _) rfl ?_
          exact ⟨rfl, ⟨A7, n7, c7, B, HD8.out, HO8.out, HM8.out⟩, ks_app HLT.out HW1.out HD8.out HB2.out HG7.out HK.out HOB.out HA7.out HO7.out.sl0S⟩
        exact AllReadyL.nil
      exact AllReadyL.nil
    exact AllReadyL.nil
  exact AllReadyL.nil
end Go.Proofs.YtpjpegmjcgkonaaDoor
