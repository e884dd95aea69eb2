/- Several texts of one family, merged for a claim. Conditions as in its parts. -/
import Derived.Test.YtiflieaemgamkaaDoorG5
import Derived.Test.YtiflieaemgamkaaDoorG2
namespace Go.Proofs.YtiflieaemgamkaaDoor
open Go.RowKit Vi

/-- a commit as data -/
structure Cm where
  k : Int
  P : List ByteArray
  g : ByteArray
  t : ByteArray
/-- the raw cells of a commit in a row -/
abbrev RC := Int × (Option Addr × Nat × Nat) × ByteArray × ByteArray
def rcC (x : RC) : List Value := [.int .i64 x.1, .slice x.2.1.1 x.2.1.2.1 x.2.1.2.2, .string x.2.2.1, .string x.2.2.2]
theorem rcC_len (x : RC) : (rcC x).length = 4 := rfl
theorem rcC_one (x : RC) : ∀ u ∈ rcC x, u.oneCell' = true := by
  intro u hu
  simp only [rcC, List.mem_cons, List.mem_nil_iff, or_false] at hu
  rcases hu with rfl | rfl | rfl | rfl <;> rfl
/-- the box of a row: over the shelf D -/
def rwO (D : Nat) (na : Option Addr) (nn nc : Nat) (ca : Option Addr) (cn cc B : Nat) : Obj := .cells #[.pointer (some ⟨D, 0, none⟩), .slice na nn nc, .slice ca cn cc, .map (some B)] 59 (0, 0)
/-- a block is a row's own -/
def InR (R : Nat) (w : World) (b : Nat) : Prop := b = R ∨ (∃ o n c, w.cell? ⟨R, 1, none⟩ = some (.slice (some ⟨b, o, none⟩) n c)) ∨ (∃ o n c, w.cell? ⟨R, 2, none⟩ = some (.slice (some ⟨b, o, none⟩) n c)) ∨ w.cell? ⟨R, 3, none⟩ = some (.map (some b))
/-- raw cells read as a commit; its parents' row is such as Q says -/
structure RcIs (Q : Nat → Prop) (w : World) (x : RC) (c : Cm) : Prop where
  k : x.1 = c.k
  g : x.2.2.1 = c.g
  t : x.2.2.2 = c.t
  r : RdX stC 1 w x.2.1.1 x.2.1.2.1 c.P
  f : ∀ b o, x.2.1.1 = some ⟨b, o, none⟩ → 0 < x.2.1.2.1 → Q b
abbrev Nc := ByteArray × Cm
/-- where a name stands among those that are met -/
def posC (acc : List Nc) (s : ByteArray) : Option Int := Option.map (fun k : Nat => (Int.ofNat k : Int)) (acc.findIdx? fun x => x.1.toList == s.toList)
structure Rw (D R : Nat) (acc : List Nc) (rcs : List RC) (w : World) : Prop where
  box : ∃ (na : Option Addr) (nn nc : Nat) (ca : Option Addr) (cn cc B : Nat), w.heap[R]? = some (rwO D na nn nc ca cn cc B) ∧ OwG stC 1 9 w (.slice na nn nc) (acc.map (·.1)) ∧ OwG rcC 4 41 w (.slice ca cn cc) rcs ∧ MapI w B acc.length (posC acc)
  len : rcs.length = acc.length
  at' : ∀ (i : Nat) x c, rcs[i]? = some x → acc[i]? = some c → RcIs (fun b => ¬ InR R w b) w x c.2
section
variable {D R : Nat} {na : Option Addr} {nn nc : Nat} {ca : Option Addr} {cn cc B : Nat} {w w' : World}
theorem rw_cells (h : w.heap[R]? = some (rwO D na nn nc ca cn cc B)) : w.cell? ⟨R, 0, none⟩ = some (.pointer (some ⟨D, 0, none⟩)) ∧ w.cell? ⟨R, 1, none⟩ = some (.slice na nn nc) ∧ w.cell? ⟨R, 2, none⟩ = some (.slice ca cn cc) ∧ w.cell? ⟨R, 3, none⟩ = some (.map (some B)) :=
  ⟨(cell_of_row _ _ 0 _ _ _ h).trans rfl, (cell_of_row _ _ 1 _ _ _ h).trans rfl, (cell_of_row _ _ 2 _ _ _ h).trans rfl, (cell_of_row _ _ 3 _ _ _ h).trans rfl⟩
theorem InR.cases {b : Nat} (h : w.heap[R]? = some (rwO D na nn nc ca cn cc B)) (q : InR R w b) : b = R ∨ (∃ o, na = some ⟨b, o, none⟩) ∨ (∃ o, ca = some ⟨b, o, none⟩) ∨ b = B := by
  obtain ⟨_, h1, h2, h3⟩ := rw_cells h
  rcases q with q | ⟨o, n, c, q⟩ | ⟨o, n, c, q⟩ | q
  · exact .inl q
  · rw [h1] at q; cases q; exact .inr (.inl ⟨o, rfl⟩)
  · rw [h2] at q; cases q; exact .inr (.inr (.inl ⟨o, rfl⟩))
  · rw [h3] at q; cases q; exact .inr (.inr (.inr rfl))
theorem InR.n (h : w.heap[R]? = some (rwO D na nn nc ca cn cc B)) {b o : Nat} (e : na = some ⟨b, o, none⟩) : InR R w b := .inr (.inl ⟨o, nn, nc, by rw [(rw_cells h).2.1, e]⟩)
theorem InR.c (h : w.heap[R]? = some (rwO D na nn nc ca cn cc B)) {b o : Nat} (e : ca = some ⟨b, o, none⟩) : InR R w b := .inr (.inr (.inl ⟨o, cn, cc, by rw [(rw_cells h).2.2.1, e]⟩))
theorem InR.m (h : w.heap[R]? = some (rwO D na nn nc ca cn cc B)) : InR R w B := .inr (.inr (.inr (rw_cells h).2.2.2))
theorem InR.same {b : Nat} (hb : w'.heap[R]? = w.heap[R]?) (q : InR R w' b) : InR R w b := by
  have hc : ∀ i, w'.cell? ⟨R, i, none⟩ = w.cell? ⟨R, i, none⟩ := fun i => World.cell?_of_block hb
  unfold InR at q ⊢
  simp only [hc] at q
  exact q
end
/-- w to W: all blocks but such as Q says are as they were -/
structure Kp (Q : Nat → Prop) (w W : World) : Prop where
  os : W.os = w.os
  tape : W.tape = w.tape
  output : W.output = w.output
  size : w.heap.size ≤ W.heap.size
  block : ∀ b, b < w.heap.size → ¬ Q b → W.heap[b]? = w.heap[b]?
section
variable {Q : Nat → Prop} {w W W' : World}
theorem Kp.refl : Kp Q w w := ⟨rfl, rfl, rfl, Nat.le_refl _, fun _ _ _ => rfl⟩
theorem Kp.of_below (hb : Below w.heap.size w W) : Kp Q w W := ⟨hb.os, hb.tape, hb.output, hb.size, fun b h _ => hb.block b h⟩
theorem Kp.below (h : Kp Q w W) (hb : Below W.heap.size W W') : Kp Q w W' := ⟨hb.os.trans h.os, hb.tape.trans h.tape, hb.output.trans h.output, Nat.le_trans h.size hb.size, fun b q hn => (hb.block b (Nat.lt_of_lt_of_le q h.size)).trans (h.block b q hn)⟩
theorem Kp.grown (h : Kp Q w W) {r : Option Nat} (hg : W.grownBy W' r) (hr : ∀ g, r = some g → g < w.heap.size → Q g) : Kp Q w W' :=
  ⟨hg.os.trans h.os, hg.tape.trans h.tape, hg.output.trans h.output, Nat.le_trans h.size hg.size, fun b q hn => (hg.block b (Nat.lt_of_lt_of_le q h.size) (fun e => hn (hr b (by first | exact e | exact e.symm) q))).trans (h.block b q hn)⟩
theorem Kp.set (h : Kp Q w W) {g : Nat} (k : KK [g] W W') (hq : Q g) : Kp Q w W' :=
  ⟨k.os.trans h.os, k.tape.trans h.tape, k.output.trans h.output, Nat.le_trans h.size k.size, fun b q hn => (k.block b (Nat.lt_of_lt_of_le q h.size) (fun e => hn (by obtain rfl : b = g := (by simpa using e); exact hq))).trans (h.block b q hn)⟩
end
/-- only a row's own blocks have turned -/
structure Kr (R : Nat) (w w' : World) : Prop where
  kp : Kp (InR R w) w w'
  ind : ∀ b, b < w.heap.size → InR R w' b → InR R w b
theorem Kr.refl (R : Nat) (w : World) : Kr R w w := ⟨Kp.refl, fun _ _ h => h⟩
theorem Kr.of_below {R : Nat} {w w' : World} (hb : Below w.heap.size w w') (hR : R < w.heap.size) : Kr R w w' := ⟨Kp.of_below hb, fun _ _ q => q.same (hb.block R hR)⟩
theorem Kr.trans {R : Nat} {a b c : World} (h : Kr R a b) (k : Kr R b c) : Kr R a c :=
  ⟨⟨k.kp.os.trans h.kp.os, k.kp.tape.trans h.kp.tape, k.kp.output.trans h.kp.output, Nat.le_trans h.kp.size k.kp.size, fun i hi hn => (k.kp.block i (Nat.lt_of_lt_of_le hi h.kp.size) (fun q => hn (h.ind i hi q))).trans (h.kp.block i hi hn)⟩, fun i hi q => h.ind i hi (k.ind i (Nat.lt_of_lt_of_le hi h.kp.size) q)⟩
theorem RdX.blocksC {α : Type} {f : α → List Value} {s n : Nat} {A : Option Addr} {l : List α} {w w' : World} (h : RdX f s w A n l) (hb : ∀ b o, A = some ⟨b, o, none⟩ → 0 < n → b < w.heap.size → w'.heap[b]? = w.heap[b]?) (hs : w.heap.size ≤ w'.heap.size) : RdX f s w' A n l := by
  refine ⟨h.1, fun hp => ?_⟩
  obtain ⟨b, off, rfl, h1, hc⟩ := h.2 hp
  exact ⟨b, off, rfl, Nat.lt_of_lt_of_le h1 hs, fun i x j u hx hu => by
    have q := hc i x j u hx hu
    rw [World.cell?_of_block (hb b off rfl hp h1)]
    exact q⟩
theorem RdX.ltC {α : Type} {f : α → List Value} {s n : Nat} {A : Option Addr} {l : List α} {w : World} (h : RdX f s w A n l) {b o : Nat} (e : A = some ⟨b, o, none⟩) (hn : 0 < n) : b < w.heap.size := by
  obtain ⟨b', off, e2, h1, _⟩ := h.2 hn
  rw [e] at e2
  cases e2
  exact h1
section
variable {D R : Nat} {acc : List Nc} {rcs : List RC} {w w' : World}
theorem RcIs.kr {x : RC} {c : Cm} (h : RcIs (fun b => ¬ InR R w b) w x c) (k : Kr R w w') : RcIs (fun b => ¬ InR R w' b) w' x c :=
  ⟨h.k, h.g, h.t, h.r.blocksC (fun b o e hn hl => k.kp.block b hl (h.f b o e hn)) k.kp.size, fun b o e hn q => h.f b o e hn (k.ind b (h.r.ltC e hn) q)⟩
theorem Rw.lt (h : Rw D R acc rcs w) : R < w.heap.size := by
  obtain ⟨⟨_, _, _, _, _, _, _, h1, _⟩, _, _⟩ := h
  exact lt_of_block h1
theorem own_ltC {α : Type} {f : α → List Value} {s : Nat} {T : TypeId} {g o n c : Nat} {l : List α} (h : OwG f s T w (.slice (some ⟨g, o, none⟩) n c) l) : g < w.heap.size := by
  rcases h.form with ⟨e, _⟩ | ⟨g', c', e⟩
  · cases e
  · cases e
    exact (h.own (g := g) rfl).1
/-- what is new is none of a row's own -/
theorem Rw.new (h : Rw D R acc rcs w) {b : Nat} (q : InR R w b) : b < w.heap.size := by
  obtain ⟨⟨na, nn, nc, ca, cn, cc, B, h1, h2, h3, h4⟩, _, _⟩ := h
  rcases q.cases h1 with q | ⟨o, q⟩ | ⟨o, q⟩ | q
  · subst q; exact lt_of_block h1
  · subst q; exact own_ltC h2
  · subst q; exact own_ltC h3
  · subst q; exact h4.lt
theorem Rw.kept (h : Rw D R acc rcs w) (hb : Below w.heap.size w w') : Rw D R acc rcs w' := by
  have hR := h.lt
  obtain ⟨⟨na, nn, nc, ca, cn, cc, B, h1, h2, h3, h4⟩, h5, h6⟩ := h
  exact ⟨⟨na, nn, nc, ca, cn, cc, B, blk_below h1 hb, h2.kept hb, h3.kept hb, h4.kept (hb.block B h4.lt)⟩, h5, fun i x c hx hc => (h6 i x c hx hc).kr (Kr.of_below hb hR)⟩
end
/-- a row whose own blocks lie from m on; below m all is as in w0 -/
structure RX (m : Nat) (w0 : World) (D R : Nat) (acc : List Nc) (rcs : List RC) (w : World) : Prop where
  rw : Rw D R acc rcs w
  far : ∀ b, InR R w b → m ≤ b
  bel : Below m w0 w
  sz : m ≤ w.heap.size
section
variable {m : Nat} {w0 : World} {D R : Nat} {acc acc' : List Nc} {rcs rcs' : List RC} {w w' : World}
theorem RX.kr (h : RX m w0 D R acc rcs w) (k : Kr R w w') (h' : Rw D R acc' rcs' w') : RX m w0 D R acc' rcs' w' :=
  ⟨h', fun b q => Nat.le_of_not_lt fun hl => by
    have := h.far b (k.ind b (Nat.lt_of_lt_of_le hl h.sz) q)
    omega, h.bel.trans ⟨k.kp.os, k.kp.tape, k.kp.output, k.kp.size, fun b hb => k.kp.block b (Nat.lt_of_lt_of_le hb h.sz) (fun q => by have := h.far b q; omega)⟩, Nat.le_trans h.sz k.kp.size⟩
theorem RX.kept (h : RX m w0 D R acc rcs w) (hb : Below w.heap.size w w') : RX m w0 D R acc rcs w' := h.kr (Kr.of_below hb h.rw.lt) (h.rw.kept hb)
end
theorem posC_snoc {acc : List Nc} {o : Nc} (h : posC acc o.1 = none) (s : ByteArray) : updF (posC acc) o.1 (acc.length : Int) s = posC (acc ++ [o]) s := by
  unfold updF
  by_cases e : o.1 = s
  · subst e
    rw [if_pos (by simp)]
    unfold posC at h ⊢
    rw [Option.map_eq_none_iff] at h
    rw [List.findIdx?_append, h]
    simp
  · have hf : (o.1.toList == s.toList) = false := by
      cases q : (o.1.toList == s.toList) with
      | false => rfl
      | true => exact absurd (ba_eq.1 q) e
    rw [if_neg (by rw [hf]; simp)]
    unfold posC
    rw [List.findIdx?_append]
    cases acc.findIdx? (fun x => x.1.toList == s.toList) with
    | some i => simp
    | none => simp [hf]
theorem posC_some {acc : List Nc} {s : ByteArray} {i : Int} (h : posC acc s = some i) : ∃ (k : Nat) (hk : k < acc.length), i = (k : Int) ∧ acc[k].1 = s := by
  unfold posC at h
  rw [Option.map_eq_some_iff] at h
  obtain ⟨k, hk, rfl⟩ := h
  rw [List.findIdx?_eq_some_iff_getElem] at hk
  obtain ⟨hk, h1, _⟩ := hk
  exact ⟨k, hk, rfl, ba_eq.1 h1⟩
theorem posC_none {acc : List Nc} {s : ByteArray} (h : posC acc s = none) : ∀ x ∈ acc, x.1 ≠ s := by
  unfold posC at h
  rw [Option.map_eq_none_iff, List.findIdx?_eq_none_iff] at h
  intro x hx e
  have := h x hx
  rw [ba_eq.2 e] at this
  cases this
/-- the commit with a name -/
noncomputable def ldC (L : List Ob) (s : ByteArray) : Option Cm := by
  classical exact if h : ∃ c : Cm, cmok c.k c.P c.g c.t = true ∧ (getO L s).getD ⟨#[]⟩ = cmT c.k c.P c.g c.t then some h.choose else none
theorem ldC_yes {L : List Ob} {s : ByteArray} {k : Int} {P : List ByteArray} {g t : ByteArray} (h : cmok k P g t = true) (e : (getO L s).getD ⟨#[]⟩ = cmT k P g t) : ldC L s = some ⟨k, P, g, t⟩ := by
  unfold ldC
  have hx : ∃ c : Cm, cmok c.k c.P c.g c.t = true ∧ (getO L s).getD ⟨#[]⟩ = cmT c.k c.P c.g c.t := ⟨⟨k, P, g, t⟩, h, e⟩
  rw [dif_pos hx]
  obtain ⟨h1, h2⟩ := hx.choose_spec
  obtain ⟨a, b, c, d⟩ := cm_inj h1 h (h2.symm.trans e)
  generalize hx.choose = z at *
  cases z
  simp only at a b c d
  subst a b c d
  rfl
theorem ldC_no {L : List Ob} {s : ByteArray} (h : ∀ k P g t, cmok k P g t = true → (getO L s).getD ⟨#[]⟩ ≠ cmT k P g t) : ldC L s = none := by
  unfold ldC
  rw [dif_neg]
  rintro ⟨c, h1, h2⟩
  exact h _ _ _ _ h1 h2
/-- meet, each, and the walk, as plain functions over how a name is loaded -/
def mtC (ld : ByteArray → Option Cm) (acc : List Nc) (s : ByteArray) : List Nc × Bool :=
  if (posC acc s).isSome = true then (acc, true) else match ld s with
  | none => (acc, false)
  | some c => (acc ++ [(s, c)], true)
def eaC (ld : ByteArray → Option Cm) : List ByteArray → List Nc → List Nc × Bool
  | [], acc => (acc, true)
  | s :: r, acc => if (mtC ld acc s).2 = true then eaC ld r (mtC ld acc s).1 else mtC ld acc s
def wkC (ld : ByteArray → Option Cm) : Nat → Nat → List Nc × Bool → List Nc × Bool
  | 0, _, a => a
  | f + 1, i, a => if a.2 = true then (match a.1[i]? with | none => a | some x => wkC ld f (i + 1) (eaC ld x.2.P a.1)) else a
section
variable {ld : ByteArray → Option Cm}
theorem mtC_met {acc : List Nc} {s : ByteArray} {i : Int} (h : posC acc s = some i) : mtC ld acc s = (acc, true) := by unfold mtC; rw [h]; rfl
theorem mtC_no {acc : List Nc} {s : ByteArray} (h : posC acc s = none) (hl : ld s = none) : mtC ld acc s = (acc, false) := by unfold mtC; rw [h, hl]; rfl
theorem mtC_new {acc : List Nc} {s : ByteArray} {c : Cm} (h : posC acc s = none) (hl : ld s = some c) : mtC ld acc s = (acc ++ [(s, c)], true) := by unfold mtC; rw [h, hl]; rfl
theorem eaC_no {s : ByteArray} {r : List ByteArray} {acc : List Nc} {z : List Nc × Bool} (h : eaC ld (s :: r) acc = z) (q : (mtC ld acc s).2 = false) : z = mtC ld acc s := by rw [eaC, if_neg (by rw [q]; simp)] at h; exact h.symm
theorem eaC_yes {s : ByteArray} {r : List ByteArray} {acc : List Nc} {z : List Nc × Bool} (h : eaC ld (s :: r) acc = z) (q : (mtC ld acc s).2 = true) : eaC ld r (mtC ld acc s).1 = z := by rw [eaC, if_pos q] at h; exact h
theorem nodup_len {α : Type} [DecidableEq α] : ∀ (xs ys : List α), xs.Nodup → (∀ x ∈ xs, x ∈ ys) → xs.length ≤ ys.length
  | [], _, _, _ => Nat.zero_le _
  | x :: xs, ys, hn, hs => by
    have hx : x ∈ ys := hs x (by simp)
    have hn2 := List.nodup_cons.1 hn
    have h1 := nodup_len xs (ys.erase x) hn2.2 (fun y hy => (List.mem_erase_of_ne (fun e => hn2.1 (by rw [← e]; exact hy))).2 (hs y (by simp [hy])))
    rw [List.length_erase_of_mem hx] at h1
    have : 0 < ys.length := List.length_pos_of_mem hx
    rw [List.length_cons]
    omega
/-- what holds of those that are met: each once, each as it is loaded -/
structure AccOk (ld : ByteArray → Option Cm) (acc : List Nc) : Prop where
  nd : (acc.map (·.1)).Nodup
  ld : ∀ x ∈ acc, ld x.1 = some x.2
theorem AccOk.nil : AccOk ld [] := ⟨List.nodup_nil, fun _ h => by cases h⟩
theorem AccOk.mt {acc : List Nc} (h : AccOk ld acc) (s : ByteArray) : AccOk ld (mtC ld acc s).1 ∧ acc <+: (mtC ld acc s).1 ∧ ((mtC ld acc s).2 = true → s ∈ (mtC ld acc s).1.map (·.1)) := by
  cases hp : posC acc s with
  | some i =>
    rw [mtC_met hp]
    obtain ⟨k, hk, _, e⟩ := posC_some hp
    exact ⟨h, List.prefix_refl _, fun _ => by rw [← e]; exact List.mem_map.2 ⟨_, List.getElem_mem hk, rfl⟩⟩
  | none =>
    cases hl : ld s with
    | none => rw [mtC_no hp hl]; exact ⟨h, List.prefix_refl _, fun q => by cases q⟩
    | some c =>
      rw [mtC_new hp hl]
      refine ⟨⟨?_, fun x hx => ?_⟩, List.prefix_append _ _, fun _ => by simp⟩
      · rw [List.map_append, List.map_singleton, List.nodup_append]
        refine ⟨h.nd, by simp, fun a ha b hb => ?_⟩
        obtain rfl := List.mem_singleton.1 hb
        obtain ⟨x, hx, rfl⟩ := List.mem_map.1 ha
        exact posC_none hp x hx
      · rcases List.mem_append.1 hx with q | q
        · exact h.ld x q
        · obtain rfl := List.mem_singleton.1 q
          exact hl
theorem AccOk.ea : ∀ (r : List ByteArray) {acc : List Nc}, AccOk ld acc → AccOk ld (eaC ld r acc).1 ∧ acc <+: (eaC ld r acc).1 ∧ ((eaC ld r acc).2 = true → ∀ s ∈ r, s ∈ (eaC ld r acc).1.map (·.1))
  | [], _, h => ⟨h, List.prefix_refl _, fun _ _ q => by cases q⟩
  | s :: r, acc, h => by
    obtain ⟨h1, h2, h3⟩ := h.mt s
    rw [eaC]
    split
    · next q =>
      obtain ⟨g1, g2, g3⟩ := AccOk.ea r h1
      refine ⟨g1, h2.trans g2, fun e x hx => ?_⟩
      rcases List.mem_cons.1 hx with rfl | hx
      · obtain ⟨y, hy, rfl⟩ := List.mem_map.1 (h3 q)
        exact List.mem_map.2 ⟨y, g2.subset hy, rfl⟩
      · exact g3 e x hx
    · next q => exact ⟨h1, h2, fun e => absurd e q⟩
theorem AccOk.len {L : List Ob} {acc : List Nc} (h : AccOk (ldC L) acc) : acc.length ≤ L.length := by
  have := nodup_len (acc.map (·.1)) (L.map (·.1)) h.nd (fun s hs => by
    obtain ⟨x, hx, rfl⟩ := List.mem_map.1 hs
    have e := h.ld x hx
    have : getO L x.1 ≠ none := fun q => by
      rw [ldC_no (fun k P g t hk => by rw [q]; exact fun e2 => (cmT_size hk).2 (by rw [← e2]; rfl))] at e
      cases e
    unfold getO at this
    cases q : L.find? (fun y => y.1.toList == x.1.toList) with
    | none => rw [q] at this; exact absurd rfl this
    | some y =>
      have h1 := List.find?_some q
      exact List.mem_map.2 ⟨y, List.mem_of_find?_eq_some q, ba_eq.1 h1⟩)
  simpa using this
end
end Go.Proofs.YtiflieaemgamkaaDoor

namespace Go.Proofs.YtiflieaemgamkaaDoor
open Go.RowKit Vi

structure SQ (k g : Nat) (o : Obj) (A : World → Prop) (L : Array Bool) (W : World) : Prop where
  a : A W
  d : L.getD k false = false → W.heap[g]? = some o
theorem SQ.set {k g j : Nat} {o : Obj} {A : World → Prop} (h1 : j ≠ k) (L : Array Bool) (w : World) : SQ k g o A (L.setIfInBounds j true) w ↔ SQ k g o A L w :=
  ⟨fun h => ⟨h.a, fun q => h.d (by rw [getF_set L j k h1]; exact q)⟩, fun h => ⟨h.a, fun q => h.d (by rw [getF_set L j k h1] at q; exact q)⟩⟩
theorem SQ.dOf {md : Region.Mode} {ops : Array Oper} {k g j : Nat} {o : Obj} {A : World → Prop} {w : World} (h : SI md ops (SQ k g o A) j w) (f : Nat) (hw : waits md ops f k j = true) : w.heap[g]? = some o := by
  obtain ⟨L, hs, hi, hS⟩ := h
  exact hS.d (shut_of hs hi f k hw)
theorem SQ.aOf {md : Region.Mode} {ops : Array Oper} {k g j : Nat} {o : Obj} {A : World → Prop} {w : World} (h : SI md ops (SQ k g o A) j w) : A w := by
  obtain ⟨L, _, _, hS⟩ := h
  exact hS.a
theorem info_sC : (Tryd.prog.info? 9).map (fun i => (i.zero, i.size, i.bytes)) = some (some (.string ⟨#[]⟩), 1, 16) := by kernel_rfl
theorem info_cC : (Tryd.prog.info? 41).map (fun i => (i.zero, i.size, i.bytes)) = some (some (.agg #[.int .i64 0, .slice none 0 0, .string ⟨#[]⟩, .string ⟨#[]⟩]), 4, 64) := by kernel_rfl
theorem Kp.drewC {Q : Nat → Prop} {w W : World} (h : Kp Q w W) : Kp Q w W.drew := ⟨h.os, h.tape, h.output, h.size, h.block⟩
theorem Kp.allocC {Q : Nat → Prop} {w W : World} (h : Kp Q w W) (o : Obj) : Kp Q w (W.alloc o) := h.below ((Below.refl _ _).alloc (Nat.le_refl _) o)
theorem OwG.growO {α β : Type} {f : α → List Value} {f' : β → List Value} {s s' : Nat} {T T' : TypeId} {w w' : World} {v v2 : Value} {l : List α} {l2 : List β} (h : OwG f s T w v l) (k : OwG f' s' T' w v2 l2) (hT : T ≠ T') (hg : w.grownBy w' v2.ownBlock) : OwG f s T w' v l :=
  h.blk (fun g e hl => hg.block g hl (fun e2 => by
    obtain ⟨_, cur, h1⟩ := h.own e
    obtain ⟨_, cur2, h2⟩ := k.own (g := g) (by first | exact e2 | exact e2.symm)
    rw [h1] at h2
    cases h2
    exact hT rfl))
theorem rw_push {D R : Nat} {acc : List Nc} {rcs : List RC} {v W : World} {s : ByteArray} {c : Cm} {x : RC} {na : Option Addr} {nn nc : Nat} {ca : Option Addr} {cn cc B : Nat} (h : Rw D R acc rcs v) (hx : RcIs (fun b => ¬ InR R v b) v x c) (k : Kr R v W) (hp : posC acc s = none)
    (h1 : W.heap[R]? = some (rwO D na nn nc ca cn cc B)) (h2 : OwG stC 1 9 W (.slice na nn nc) (acc.map (·.1) ++ [s])) (h3 : OwG rcC 4 41 W (.slice ca cn cc) (rcs ++ [x])) (h4 : MapI W B (acc.length + 1) (updF (posC acc) s (acc.length : Int))) : Rw D R (acc ++ [(s, c)]) (rcs ++ [x]) W := by
  refine ⟨⟨na, nn, nc, ca, cn, cc, B, h1, by rw [List.map_append]; exact h2, h3, by rw [List.length_append]; exact h4.of (fun z => posC_snoc (o := (s, c)) hp z)⟩, by rw [List.length_append, List.length_append, h.len]; rfl, fun i y d hy hd => ?_⟩
  rcases Nat.lt_or_ge i acc.length with q | q
  · rw [List.getElem?_append_left q] at hd
    rw [List.getElem?_append_left (by rw [h.len]; exact q)] at hy
    exact (h.at' i y d hy hd).kr k
  · rw [List.getElem?_append_right q] at hd
    rw [List.getElem?_append_right (by rw [h.len]; exact q), h.len] at hy
    obtain ⟨z, hz⟩ : ∃ z, z = i - acc.length := ⟨_, rfl⟩
    rw [← hz] at hy hd
    cases z with
    | zero =>
      simp only [List.getElem?_cons_zero, Option.some.injEq] at hy hd
      subst hy hd
      exact hx.kr k
    | succ z => simp at hy
section
variable {m : Nat} {w0 w : World} {D R : Nat} {acc : List Nc} {rcs : List RC}
/-- what meet leaves -/
def MetP (m : Nat) (w0 : World) (D R : Nat) (a : List Nc) (z : Int) (w : World) (e : Ending) (w' : World) : Prop := e = .returned (.int .i64 z) ∧ ∃ rcs', RX m w0 D R a rcs' w' ∧ Kr R w w'
set_option maxRecDepth 100000 in
set_option maxHeartbeats 4000000 in
theorem meet_met (s : ByteArray) (h : RX m w0 D R acc rcs w) (hs : s.size ≤ maxLen) (i : Int) (hp : posC acc s = some i) :
    Calls Tryd.prog 31 #[.pointer (some ⟨R, 0, none⟩), .string s] w (MetP m w0 D R acc 0 w) := by
  have HX := Lib.hid h
  obtain ⟨na, nn, nc, ca, cn, cc, B, h1, h2, h3, h4⟩ := h.rw.box
  have x3 := (rw_cells h1).2.2.2
  have hl := h4.look2 s hs
  rw [hp] at hl
  simp only [Option.isSome_some, Option.getD_some] at hl
  clear h h1 h2 h3 h4 hp
  go_enter Tryd.func31, Tryd.ntmps31
  go_wp2_with fail
  go_ret
  exact ⟨rfl, _, HX.out, Kr.refl _ _⟩
set_option maxRecDepth 100000 in
set_option maxHeartbeats 4000000 in
theorem meet_no {L : List Ob} {c0 c1 : ByteArray} {z : Nat} (s T : ByteArray) (h : RX w0.heap.size w0 D R acc rcs w) (hS : SK D L c0 c1 z w0) (hs : s.size ≤ maxLen) (hp : posC acc s = none) (hT : (getO L s).getD ⟨#[]⟩ = T) (hz : T.size ≤ 1000000) (hno : ∀ k P g t, cmok k P g t = true → T ≠ cmT k P g t) :
    Calls Tryd.prog 31 #[.pointer (some ⟨R, 0, none⟩), .string s] w (MetP w0.heap.size w0 D R acc 13 w) := by
  have HX := Lib.hid h
  obtain ⟨na, nn, nc, ca, cn, cc, B, h1, h2, h3, h4⟩ := h.rw.box
  obtain ⟨x0, _, _, x3⟩ := rw_cells h1
  have hl := h4.look2 s hs
  rw [hp] at hl
  simp only [Option.isSome_none, Option.getD_none] at hl
  have HLD := Lib.hid (cload_any s T (hS.kept h.bel) hs hT hz)
  have HNO := Lib.hid hno
  have HK0 := Lib.hid h.rw.lt
  clear h h1 h2 h3 h4 hp hS hT hno
  go_enter Tryd.func31, Tryd.ntmps31
  go_wp2_with fail
  refine HLD.out.mono ?_
  rintro e w1 (⟨k, P, g, t, A, n, c, hok, hTT, rfl, hrd, hnc, hAr, hb⟩ | ⟨hn, rfl, hb⟩)
  · exact absurd hTT (HNO.out k P g t hok)
  · have HX1 := Lib.hid (HX.out.kept hb)
    have HK1 := Lib.hid (Kr.of_below hb HK0.out)
    have hb2 : Below w1.heap.size w1 (w1.alloc (.cells #[.int .i64 0, .slice none 0 0, .string ⟨#[]⟩, .string ⟨#[]⟩] 41 (0, 0))) := (Below.refl _ _).alloc (Nat.le_refl _) _
    have HX2 := Lib.hid (HX1.out.kept hb2)
    have HK2 := Lib.hid (HK1.out.trans (Kr.of_below hb2 HX1.out.rw.lt))
    clear hb hb2 hn HX HX1 HK0 HK1 HLD HNO hl x0 x3
    go_wp2_with fail
    go_ret
    exact ⟨rfl, _, HX2.out, HK2.out⟩
set_option linter.unusedSimpArgs false in
set_option maxRecDepth 100000 in
set_option maxHeartbeats 16000000 in
theorem meet_new {L : List Ob} {c0 c1 : ByteArray} {z : Nat} (s : ByteArray) (k : Int) (P : List ByteArray) (g t : ByteArray) (h : RX w0.heap.size w0 D R acc rcs w) (hS : SK D L c0 c1 z w0) (hs : s.size ≤ maxLen) (hp : posC acc s = none) (hok : cmok k P g t = true) (hT : (getO L s).getD ⟨#[]⟩ = cmT k P g t) (hla : acc.length ≤ 100000) :
    Calls Tryd.prog 31 #[.pointer (some ⟨R, 0, none⟩), .string s] w (MetP w0.heap.size w0 D R (acc ++ [(s, ⟨k, P, g, t⟩)]) 0 w) := by
  have HX := Lib.hid h
  obtain ⟨na, nn, nc, ca, cn, cc, B, h1, h2, h3, h4⟩ := h.rw.box
  obtain ⟨x0, _, _, x3⟩ := rw_cells h1
  have hl := h4.look2 s hs
  rw [hp] at hl
  simp only [Option.isSome_none, Option.getD_none] at hl
  have hz := (cmT_size hok).1
  have HLD := Lib.hid (cload_any s _ (hS.kept h.bel) hs hT (by omega))
  have HOK := Lib.hid hok
  have HP := Lib.hid hp
  have HK0 := Lib.hid h.rw.lt
  have HNEW := Lib.hid (fun (b : Nat) (q : InR R w b) => h.rw.new q)
  have HRB := Lib.hid h1
  have HON := Lib.hid h2
  have HOC := Lib.hid h3
  have HM := Lib.hid h4
  have HIS := Lib.hid h.rw.at'
  have HLEN := Lib.hid h.rw.len
  clear h h1 h2 h3 h4 hp hS hT hok hz
  go_enter Tryd.func31, Tryd.ntmps31
  go_wp2_with fail
  refine HLD.out.mono ?_
  rintro e w1 (⟨k1, P1, g1, t1, A, n, c, hok1, hTT, rfl, hrd, hnc, hAr, hb⟩ | ⟨hn, rfl, hb⟩)
  rotate_left
  · exact absurd rfl (hn _ _ _ _ HOK.out)
  obtain ⟨rfl, rfl, rfl, rfl⟩ := cm_inj HOK.out hok1 hTT
  clear hok1 hTT HLD hl x0 x3
  have hb2 : Below w1.heap.size w1 (w1.alloc (.cells #[.int .i64 k, .slice A n c, .string g, .string t] 41 (0, 0))) := (Below.refl _ _).alloc (Nat.le_refl _) _
  have hbb : Below w.heap.size w (w1.alloc (.cells #[.int .i64 k, .slice A n c, .string g, .string t] 41 (0, 0))) := hb.trans (hb2.mono hb.size)
  have HKW := Lib.hid (Kr.of_below hbb HK0.out)
  have HXB := Lib.hid (blk_new w1 (.cells #[.int .i64 k, .slice A n c, .string g, .string t] 41 (0, 0)))
  have hXW : w.heap.size ≤ w1.heap.size := hb.size
  have HRD := Lib.hid (hrd.below hb2)
  have HAR := Lib.hid hAr
  have HX := Lib.hid (HX.out.kept hbb)
  have HRB := Lib.hid (blk_below HRB.out hbb)
  have HON := Lib.hid (HON.out.kept hbb)
  have HOC := Lib.hid (HOC.out.kept hbb)
  have HM := Lib.hid (HM.out.kept (hbb.block B HM.out.lt))
  have HSM := Lib.hid (fun (b : Nat) (q : InR R (w1.alloc (.cells #[.int .i64 k, .slice A n c, .string g, .string t] 41 (0, 0))) b) => (q.same (hbb.block R HK0.out) : InR R w b))
  clear hrd hAr hb hb2 hbb HIS
  go_upto_region 7 with (fail)
  generalize w1.alloc (.cells #[.int .i64 k, .slice A n c, .string g, .string t] 41 (0, 0)) = v0 at *
  generalize w1.heap.size = X at *
  have HFAR := Lib.hid (fun (b o : Nat) (e : A = some ⟨b, o, none⟩) (_ : 0 < n) (q : InR R v0 b) => show False from by
    have h1 := HAR.out b o e
    have h2 := HNEW.out b (HSM.out b q)
    omega)
  have HCI : Hid (RcIs (fun b => ¬ InR R v0 b) v0 (k, (A, n, c), g, t) ⟨k, P, g, t⟩) := Lib.hid ⟨rfl, rfl, rfl, HRD.out, fun b o e hn q => HFAR.out b o e hn q⟩
  have HOBn := Lib.hid (fun (b : Nat) (e : (Value.slice na nn nc).ownBlock = some b) => show InR R v0 b from by
    rcases HON.out.form with ⟨q, _⟩ | ⟨g2, c2, q⟩
    · rw [q] at e; simp [Value.ownBlock] at e
    · injection q with q _ _
      subst q
      simp [Value.ownBlock] at e
      subst e
      exact InR.n HRB.out rfl)
  have HOBc := Lib.hid (fun (b : Nat) (e : (Value.slice ca cn cc).ownBlock = some b) => show InR R v0 b from by
    rcases HOC.out.form with ⟨q, _⟩ | ⟨g2, c2, q⟩
    · rw [q] at e; simp [Value.ownBlock] at e
    · injection q with q _ _
      subst q
      simp [Value.ownBlock] at e
      subst e
      exact InR.c HRB.out rfl)
  have HXN : Hid (¬ InR R v0 X) := Lib.hid (fun q => by have h2 := HNEW.out _ (HSM.out _ q); omega)
  have hXR : X ≠ R := fun e => HXN.out (.inl e)
  have hnn : acc.length = nn := by
    obtain ⟨_, _, e, hr, _, _⟩ := HON.out.rd stC_len
    injection e with _ e _
    rw [List.length_map] at e
    exact e.symm
  have hcn : rcs.length ≤ 100000 := by rw [HLEN.out]; exact hla
  have hBR : B ≠ R := fun e => by
    obtain ⟨n9, Dm, ⟨es, cl, q, _⟩, _⟩ := HM.out
    rw [e, HRB.out] at q
    cases q
  clear HAR HSM HNEW HRD
  have HRV := Lib.hid HRB.out
  have HRW := Lib.hid HX.out.rw
  have HRB := Lib.hid (show v0.drew.heap[R]? = some (rwO D na nn nc ca cn cc B) from HRB.out)
  have HXB := Lib.hid (show v0.drew.heap[X]? = some (.cells #[.int .i64 k, .slice A n c, .string g, .string t] 41 (0, 0)) from HXB.out)
  have HON := Lib.hid HON.out.drew
  have HOC := Lib.hid HOC.out.drew
  have HM := Lib.hid (HM.out.kept (w' := v0.drew) rfl)
  have HK := Lib.hid ((Kp.refl (Q := InR R v0) (w := v0)).drewC)
  refine wp_region_L_drew (S := fun _ W => W.heap[R]? = some (rwO D na nn nc ca cn cc B)) (by kernel_rfl) HRB.out (fun hS hC => ?_)
  generalize v0.drew = u0 at *
  have hwf : (Lit.int .i64 (nn : Int)).wf = true := by simp [Lit.wf, IntKind.min, IntKind.max, IntKind.bits, IntKind.signed]; omega
  obtain ⟨v1, hrun, hm1, hg1⟩ := HM.out.put s (nn : Int) hs hwf (Nat.lt_of_le_of_lt hla (by decide))
  refine wpAnyL_take (i := 0) (oi := { dst := some 31, op := .move (.tmp 0), type := _, pos := _, after := _, guard := none }) (v := ?_) rfl (by kernel_rfl) (by kernel_rfl) (by kernel_rfl) (fun _ _ _ h => h) (fun _ _ => Iff.rfl) hC (Or.inl ⟨by rfl, ?_⟩) HRB.out (fun hC hS => ?_)
  rotate_left
  · intro W9 hSw; skip; go_simp; try (with_reducible rfl)
  try simp only [Act.put, List.setIfInBounds_toArray, List.set_cons_zero, List.set_cons_succ]
  refine wpAnyL_take (i := 1) (oi := { dst := some 32, op := .nilCheck (.tmp 31), type := _, pos := _, after := _, guard := none }) (v := ?_) rfl (by kernel_rfl) (by kernel_rfl) (by kernel_rfl) (fun _ _ _ h => h) (fun _ _ => Iff.rfl) hC (Or.inl ⟨by rfl, ?_⟩) HRB.out (fun hC hS => ?_)
  rotate_left
  · intro W9 hSw; skip; go_simp; try (with_reducible rfl)
  try simp only [Act.put, List.setIfInBounds_toArray, List.set_cons_zero, List.set_cons_succ]
  refine wpAnyL_take (i := 2) (oi := { dst := some 33, op := .fieldAddr 59 (.tmp 32) 3, type := _, pos := _, after := _, guard := none }) (v := ?_) rfl (by kernel_rfl) (by kernel_rfl) (by kernel_rfl) (fun _ _ _ h => h) (fun _ _ => Iff.rfl) hC (Or.inl ⟨by rfl, ?_⟩) HRB.out (fun hC hS => ?_)
  rotate_left
  · intro W9 hSw; skip; go_simp; try (with_reducible rfl)
  try simp only [Act.put, List.setIfInBounds_toArray, List.set_cons_zero, List.set_cons_succ]
  refine wpAnyL_take (i := 3) (oi := { dst := some 34, op := .load 44 (.tmp 33), type := _, pos := _, after := _, guard := none }) (v := ?_) rfl (by kernel_rfl) (by kernel_rfl) (by kernel_rfl) (fun _ _ _ h => h) (fun _ _ => Iff.rfl) hC (Or.inl ⟨by rfl, ?_⟩) HRB.out (fun hC hS => ?_)
  rotate_left
  · intro W9 hSw; have q3 := (cell_of_row _ _ 3 _ _ _ (hSw.choose_spec.2.2)).trans rfl; go_simp; try (with_reducible rfl)
  try simp only [Act.put, List.setIfInBounds_toArray, List.set_cons_zero, List.set_cons_succ]
  refine wpAnyL_take (i := 4) (oi := { dst := some 35, op := .move (.tmp 1), type := _, pos := _, after := _, guard := none }) (v := ?_) rfl (by kernel_rfl) (by kernel_rfl) (by kernel_rfl) (fun _ _ _ h => h) (fun _ _ => Iff.rfl) hC (Or.inl ⟨by rfl, ?_⟩) HRB.out (fun hC hS => ?_)
  rotate_left
  · intro W9 hSw; skip; go_simp; try (with_reducible rfl)
  try simp only [Act.put, List.setIfInBounds_toArray, List.set_cons_zero, List.set_cons_succ]
  refine wpAnyL_take (i := 5) (oi := { dst := some 36, op := .move (.tmp 0), type := _, pos := _, after := _, guard := none }) (v := ?_) rfl (by kernel_rfl) (by kernel_rfl) (by kernel_rfl) (fun _ _ _ h => h) (fun _ _ => Iff.rfl) hC (Or.inl ⟨by rfl, ?_⟩) HRB.out (fun hC hS => ?_)
  rotate_left
  · intro W9 hSw; skip; go_simp; try (with_reducible rfl)
  try simp only [Act.put, List.setIfInBounds_toArray, List.set_cons_zero, List.set_cons_succ]
  refine wpAnyL_take (i := 6) (oi := { dst := some 37, op := .nilCheck (.tmp 36), type := _, pos := _, after := _, guard := none }) (v := ?_) rfl (by kernel_rfl) (by kernel_rfl) (by kernel_rfl) (fun _ _ _ h => h) (fun _ _ => Iff.rfl) hC (Or.inl ⟨by rfl, ?_⟩) HRB.out (fun hC hS => ?_)
  rotate_left
  · intro W9 hSw; skip; go_simp; try (with_reducible rfl)
  try simp only [Act.put, List.setIfInBounds_toArray, List.set_cons_zero, List.set_cons_succ]
  refine wpAnyL_take (i := 7) (oi := { dst := some 38, op := .fieldAddr 59 (.tmp 37) 1, type := _, pos := _, after := _, guard := none }) (v := ?_) rfl (by kernel_rfl) (by kernel_rfl) (by kernel_rfl) (fun _ _ _ h => h) (fun _ _ => Iff.rfl) hC (Or.inl ⟨by rfl, ?_⟩) HRB.out (fun hC hS => ?_)
  rotate_left
  · intro W9 hSw; skip; go_simp; try (with_reducible rfl)
  try simp only [Act.put, List.setIfInBounds_toArray, List.set_cons_zero, List.set_cons_succ]
  refine wpAnyL_take (i := 8) (oi := { dst := some 39, op := .load 22 (.tmp 38), type := _, pos := _, after := _, guard := none }) (v := ?_) rfl (by kernel_rfl) (by kernel_rfl) (by kernel_rfl) (fun _ _ _ h => h) (fun _ _ => Iff.rfl) hC (Or.inl ⟨by rfl, ?_⟩) HRB.out (fun hC hS => ?_)
  rotate_left
  · intro W9 hSw; have q1 := (cell_of_row _ _ 1 _ _ _ (hSw.choose_spec.2.2)).trans rfl; go_simp; try (with_reducible rfl)
  try simp only [Act.put, List.setIfInBounds_toArray, List.set_cons_zero, List.set_cons_succ]
  refine wpAnyL_take (i := 9) (oi := { dst := some 40, op := .call { callee := .builtin .len, args := #[.tmp 39], argTypes := #[22] }, type := _, pos := _, after := _, guard := none }) (v := ?_) rfl (by kernel_rfl) (by kernel_rfl) (by kernel_rfl) (fun _ _ _ h => h) (fun _ _ => Iff.rfl) hC (Or.inl ⟨by rfl, ?_⟩) HRB.out (fun hC hS => ?_)
  rotate_left
  · intro W9 hSw; skip; go_simp; try (with_reducible rfl)
  try simp only [Act.put, List.setIfInBounds_toArray, List.set_cons_zero, List.set_cons_succ]
  refine wpAnyL_ready (rs := [10]) (by kernel_rfl) (by simp) hC ?_
  refine AllReadyL.cons (o := { dst := none, op := .mapUpdate 44 (.tmp 34) (.tmp 35) (.tmp 40), type := _, pos := _, after := _, guard := none }) rfl (fun K9 hK => ?_) ?_
  · skip
    go_simp
    have HK := Lib.hid (HK.out.grown hg1 (fun g e _ => by have e := Option.some.inj e; subst e; exact InR.m HRV.out))
    have HXB := Lib.hid ((hg1.block _ (lt_of_block HXB.out) (fun e => HXN.out (by have e := Option.some.inj e; rw [e]; exact InR.m HRV.out))).trans HXB.out)
    have HRB := Lib.hid ((hg1.block _ (lt_of_block HRB.out) (fun e => hBR (Option.some.inj e).symm)).trans HRB.out)
    have HON := Lib.hid (HON.out.notMap HM.out hg1)
    have HOC := Lib.hid (HOC.out.notMap HM.out hg1)
    have HM := Lib.hid (by have y := hm1; rw [← hnn] at y; exact y : MapI v1 B (acc.length + 1) (updF (posC acc) s (acc.length : Int)))
    clear hm1 hrun hg1
    refine hK _ _ HRB.out (fun hC => ?_)
    clear hK K9
    try simp only [Act.put, List.setIfInBounds_toArray, List.set_cons_zero, List.set_cons_succ]
    refine wpAnyL_done (by kernel_rfl) ?_ _
    clear hS hC
    go_upto_region 8 with (fail)
    have HRB := Lib.hid (show v1.drew.heap[R]? = some (rwO D na nn nc ca cn cc B) from HRB.out)
    have HXB := Lib.hid (show v1.drew.heap[X]? = some (.cells #[.int .i64 k, .slice A n c, .string g, .string t] 41 (0, 0)) from HXB.out)
    have HON := Lib.hid HON.out.drew
    have HOC := Lib.hid HOC.out.drew
    have HM := Lib.hid (HM.out.kept (w' := v1.drew) rfl)
    have HK := Lib.hid HK.out.drewC
    refine wp_region_L_drew (S := SQ 18 R (rwO D na nn nc ca cn cc B) (fun W => W.heap[X]? = some (.cells #[.int .i64 k, .slice A n c, .string g, .string t] 41 (0, 0)))) (by kernel_rfl) ⟨HXB.out, fun _ => HRB.out⟩ (fun hS hC => ?_)
    generalize v1.drew = u0 at *
    refine wpAnyL_take (i := 0) (oi := { dst := some 41, op := .move (.tmp 0), type := _, pos := _, after := _, guard := none }) (v := ?_) rfl (by kernel_rfl) (by kernel_rfl) (by kernel_rfl) (fun _ _ _ h => h) (SQ.set (by decide)) hC (Or.inl ⟨by rfl, ?_⟩) ⟨HXB.out, fun _ => HRB.out⟩ (fun hC hS => ?_)
    rotate_left
    · intro W9 hSw; skip; go_simp; try (with_reducible rfl)
    try simp only [Act.put, List.setIfInBounds_toArray, List.set_cons_zero, List.set_cons_succ]
    refine wpAnyL_take (i := 1) (oi := { dst := some 42, op := .move (.tmp 0), type := _, pos := _, after := _, guard := none }) (v := ?_) rfl (by kernel_rfl) (by kernel_rfl) (by kernel_rfl) (fun _ _ _ h => h) (SQ.set (by decide)) hC (Or.inl ⟨by rfl, ?_⟩) ⟨HXB.out, fun _ => HRB.out⟩ (fun hC hS => ?_)
    rotate_left
    · intro W9 hSw; skip; go_simp; try (with_reducible rfl)
    try simp only [Act.put, List.setIfInBounds_toArray, List.set_cons_zero, List.set_cons_succ]
    refine wpAnyL_take (i := 2) (oi := { dst := some 43, op := .move (.tmp 0), type := _, pos := _, after := _, guard := none }) (v := ?_) rfl (by kernel_rfl) (by kernel_rfl) (by kernel_rfl) (fun _ _ _ h => h) (SQ.set (by decide)) hC (Or.inl ⟨by rfl, ?_⟩) ⟨HXB.out, fun _ => HRB.out⟩ (fun hC hS => ?_)
    rotate_left
    · intro W9 hSw; skip; go_simp; try (with_reducible rfl)
    try simp only [Act.put, List.setIfInBounds_toArray, List.set_cons_zero, List.set_cons_succ]
    refine wpAnyL_take (i := 3) (oi := { dst := some 44, op := .nilCheck (.tmp 43), type := _, pos := _, after := _, guard := none }) (v := ?_) rfl (by kernel_rfl) (by kernel_rfl) (by kernel_rfl) (fun _ _ _ h => h) (SQ.set (by decide)) hC (Or.inl ⟨by rfl, ?_⟩) ⟨HXB.out, fun _ => HRB.out⟩ (fun hC hS => ?_)
    rotate_left
    · intro W9 hSw; skip; go_simp; try (with_reducible rfl)
    try simp only [Act.put, List.setIfInBounds_toArray, List.set_cons_zero, List.set_cons_succ]
    refine wpAnyL_take (i := 4) (oi := { dst := some 45, op := .fieldAddr 59 (.tmp 44) 1, type := _, pos := _, after := _, guard := none }) (v := ?_) rfl (by kernel_rfl) (by kernel_rfl) (by kernel_rfl) (fun _ _ _ h => h) (SQ.set (by decide)) hC (Or.inl ⟨by rfl, ?_⟩) ⟨HXB.out, fun _ => HRB.out⟩ (fun hC hS => ?_)
    rotate_left
    · intro W9 hSw; skip; go_simp; try (with_reducible rfl)
    try simp only [Act.put, List.setIfInBounds_toArray, List.set_cons_zero, List.set_cons_succ]
    refine wpAnyL_take (i := 5) (oi := { dst := some 46, op := .load 22 (.tmp 45), type := _, pos := _, after := _, guard := none }) (v := ?_) rfl (by kernel_rfl) (by kernel_rfl) (by kernel_rfl) (fun _ _ _ h => h) (SQ.set (by decide)) hC (Or.inl ⟨by rfl, ?_⟩) ⟨HXB.out, fun _ => HRB.out⟩ (fun hC hS => ?_)
    rotate_left
    · intro W9 hSw; have q1 := (cell_of_row _ _ 1 _ _ _ (SQ.dOf hSw 22 (by kernel_rfl))).trans rfl; go_simp; try (with_reducible rfl)
    try simp only [Act.put, List.setIfInBounds_toArray, List.set_cons_zero, List.set_cons_succ]
    refine wpAnyL_take (i := 6) (oi := { dst := some 47, op := .move (.tmp 1), type := _, pos := _, after := _, guard := none }) (v := ?_) rfl (by kernel_rfl) (by kernel_rfl) (by kernel_rfl) (fun _ _ _ h => h) (SQ.set (by decide)) hC (Or.inl ⟨by rfl, ?_⟩) ⟨HXB.out, fun _ => HRB.out⟩ (fun hC hS => ?_)
    rotate_left
    · intro W9 hSw; skip; go_simp; try (with_reducible rfl)
    try simp only [Act.put, List.setIfInBounds_toArray, List.set_cons_zero, List.set_cons_succ]
    refine wpAnyL_take (i := 9) (oi := { dst := some 50, op := .move (.tmp 0), type := _, pos := _, after := _, guard := none }) (v := ?_) rfl (by kernel_rfl) (by kernel_rfl) (by kernel_rfl) (fun _ _ _ h => h) (SQ.set (by decide)) hC (Or.inl ⟨by rfl, ?_⟩) ⟨HXB.out, fun _ => HRB.out⟩ (fun hC hS => ?_)
    rotate_left
    · intro W9 hSw; skip; go_simp; try (with_reducible rfl)
    try simp only [Act.put, List.setIfInBounds_toArray, List.set_cons_zero, List.set_cons_succ]
    refine wpAnyL_take (i := 10) (oi := { dst := some 51, op := .nilCheck (.tmp 50), type := _, pos := _, after := _, guard := none }) (v := ?_) rfl (by kernel_rfl) (by kernel_rfl) (by kernel_rfl) (fun _ _ _ h => h) (SQ.set (by decide)) hC (Or.inl ⟨by rfl, ?_⟩) ⟨HXB.out, fun _ => HRB.out⟩ (fun hC hS => ?_)
    rotate_left
    · intro W9 hSw; skip; go_simp; try (with_reducible rfl)
    try simp only [Act.put, List.setIfInBounds_toArray, List.set_cons_zero, List.set_cons_succ]
    refine wpAnyL_take (i := 11) (oi := { dst := some 52, op := .fieldAddr 59 (.tmp 51) 2, type := _, pos := _, after := _, guard := none }) (v := ?_) rfl (by kernel_rfl) (by kernel_rfl) (by kernel_rfl) (fun _ _ _ h => h) (SQ.set (by decide)) hC (Or.inl ⟨by rfl, ?_⟩) ⟨HXB.out, fun _ => HRB.out⟩ (fun hC hS => ?_)
    rotate_left
    · intro W9 hSw; skip; go_simp; try (with_reducible rfl)
    try simp only [Act.put, List.setIfInBounds_toArray, List.set_cons_zero, List.set_cons_succ]
    refine wpAnyL_take (i := 12) (oi := { dst := some 53, op := .load 33 (.tmp 52), type := _, pos := _, after := _, guard := none }) (v := ?_) rfl (by kernel_rfl) (by kernel_rfl) (by kernel_rfl) (fun _ _ _ h => h) (SQ.set (by decide)) hC (Or.inl ⟨by rfl, ?_⟩) ⟨HXB.out, fun _ => HRB.out⟩ (fun hC hS => ?_)
    rotate_left
    · intro W9 hSw; have q2 := (cell_of_row _ _ 2 _ _ _ (SQ.dOf hSw 22 (by kernel_rfl))).trans rfl; go_simp; try (with_reducible rfl)
    try simp only [Act.put, List.setIfInBounds_toArray, List.set_cons_zero, List.set_cons_succ]
    refine wpAnyL_take (i := 13) (oi := { dst := some 54, op := .load 41 (.tmp 7), type := _, pos := _, after := _, guard := none }) (v := ?_) rfl (by kernel_rfl) (by kernel_rfl) (by kernel_rfl) (fun _ _ _ h => h) (SQ.set (by decide)) hC (Or.inl ⟨by rfl, ?_⟩) ⟨HXB.out, fun _ => HRB.out⟩ (fun hC hS => ?_)
    rotate_left
    · intro W9 hSw; have q0 := (cell_of_row _ _ 0 _ _ _ (SQ.aOf hSw)).trans rfl; have q1 := (cell_of_row _ _ 1 _ _ _ (SQ.aOf hSw)).trans rfl; have q2 := (cell_of_row _ _ 2 _ _ _ (SQ.aOf hSw)).trans rfl; have q3 := (cell_of_row _ _ 3 _ _ _ (SQ.aOf hSw)).trans rfl; go_simp; try (with_reducible rfl)
    try simp only [Act.put, List.setIfInBounds_toArray, List.set_cons_zero, List.set_cons_succ]
    refine wpAnyL_ready (rs := [7, 14]) (by kernel_rfl) (by simp) hC ?_
    refine AllReadyL.cons (o := { dst := some 48, op := .buildSlice 22 1 #[(0, .tmp 47)], type := _, pos := _, after := _, guard := none }) rfl (fun K9 hK => ?_) ?_
    · skip
      go_simp
      have HBN := Lib.hid (blk_new u0 (.cells #[.string s] 9 (0, 0)))
      have HRB := Lib.hid (blk_alloc HRB.out (.cells #[.string s] 9 (0, 0)))
      have HXB := Lib.hid (blk_alloc HXB.out (.cells #[.string s] 9 (0, 0)))
      have HON := Lib.hid (HON.out.alloc (.cells #[.string s] 9 (0, 0)))
      have HOC := Lib.hid (HOC.out.alloc (.cells #[.string s] 9 (0, 0)))
      have HM := Lib.hid (HM.out.kept (w' := u0.alloc (.cells #[.string s] 9 (0, 0))) (Below.heap_alloc u0 (.cells #[.string s] 9 (0, 0)) B HM.out.lt))
      have HK := Lib.hid (HK.out.allocC (.cells #[.string s] 9 (0, 0)))
      generalize u0.alloc (.cells #[.string s] 9 (0, 0)) = u1 at *
      generalize u0.heap.size = bN at *
      refine hK _ _ ⟨HXB.out, fun _ => HRB.out⟩ (fun hC => ?_)
      clear hK K9
      try simp only [Act.put, List.setIfInBounds_toArray, List.set_cons_zero, List.set_cons_succ]
      refine wpAnyL_ready (rs := [8, 14]) (by kernel_rfl) (by simp) hC ?_
      refine AllReadyL.cons (o := { dst := some 49, op := .call { callee := .builtin .append, args := #[.tmp 46, .tmp 48], argTypes := #[22, 22] }, type := _, pos := _, after := _, guard := none }) rfl (fun K9 hK => ?_) ?_
      · skip
        refine step_appPoG rfl (.tmp 46) (.tmp 48) 22 9 _ 16 rfl Tryd.underlying22 info_sC rfl (by omega) (by omega) stC_len stC_one u1 ((Below.refl u1.heap.size u1).mono (Nat.zero_le _)) (.slice na nn nc) (acc.map (·.1)) rfl HON.out bN 1 s #[.string s] 9 (0, 0) rfl HBN.out rfl (by rw [List.length_map]; omega) ?_
        intro v8 u2 HO8 _ HG8 HA8
        have hs8 : v0.heap.size ≤ u1.heap.size := HK.out.size
        have HRB := Lib.hid (HON.out.box HG8.out HRB.out (by decide))
        have HXB := Lib.hid (HON.out.box HG8.out HXB.out (by decide))
        have HOC := Lib.hid (HOC.out.growO HON.out (by decide) HG8.out)
        have HM := Lib.hid (HM.out.notRow HON.out HG8.out)
        have HK := Lib.hid (HK.out.grown HG8.out (fun g e _ => HOBn.out g e))
        have HON := Lib.hid HO8.out
        obtain ⟨A8, n8, c8, rfl⟩ := HO8.out.sl3
        clear HBN HO8 HG8
        refine hK _ _ ⟨HXB.out, fun _ => HRB.out⟩ (fun hC => ?_)
        clear hK K9
        try simp only [Act.put, List.setIfInBounds_toArray, List.set_cons_zero, List.set_cons_succ]
        refine wpAnyL_ready (rs := [14]) (by kernel_rfl) (by simp) hC ?_
        refine AllReadyL.cons (o := { dst := some 55, op := .buildSlice 33 1 #[(0, .tmp 54)], type := _, pos := _, after := _, guard := none }) rfl (fun K9 hK => ?_) ?_
        · skip
          go_simp
          have HBC := Lib.hid (blk_new u2 (.cells #[.int .i64 k, .slice A n c, .string g, .string t] 41 (0, 0)))
          have HRB := Lib.hid (blk_alloc HRB.out (.cells #[.int .i64 k, .slice A n c, .string g, .string t] 41 (0, 0)))
          have HXB := Lib.hid (blk_alloc HXB.out (.cells #[.int .i64 k, .slice A n c, .string g, .string t] 41 (0, 0)))
          have HON := Lib.hid (HON.out.alloc (.cells #[.int .i64 k, .slice A n c, .string g, .string t] 41 (0, 0)))
          have HOC := Lib.hid (HOC.out.alloc (.cells #[.int .i64 k, .slice A n c, .string g, .string t] 41 (0, 0)))
          have HM := Lib.hid (HM.out.kept (w' := u2.alloc (.cells #[.int .i64 k, .slice A n c, .string g, .string t] 41 (0, 0))) (Below.heap_alloc u2 (.cells #[.int .i64 k, .slice A n c, .string g, .string t] 41 (0, 0)) B HM.out.lt))
          have HK := Lib.hid (HK.out.allocC (.cells #[.int .i64 k, .slice A n c, .string g, .string t] 41 (0, 0)))
          generalize u2.alloc (.cells #[.int .i64 k, .slice A n c, .string g, .string t] 41 (0, 0)) = u3 at *
          generalize u2.heap.size = bC at *
          refine hK _ _ ⟨HXB.out, fun _ => HRB.out⟩ (fun hC => ?_)
          clear hK K9
          try simp only [Act.put, List.setIfInBounds_toArray, List.set_cons_zero, List.set_cons_succ]
          refine wpAnyL_ready (rs := [15]) (by kernel_rfl) (by simp) hC ?_
          refine AllReadyL.cons (o := { dst := some 56, op := .call { callee := .builtin .append, args := #[.tmp 53, .tmp 55], argTypes := #[33, 33] }, type := _, pos := _, after := _, guard := none }) rfl (fun K9 hK => ?_) ?_
          · skip
            refine step_appPoG rfl (.tmp 53) (.tmp 55) 33 41 _ 64 rfl Tryd.underlying33 info_cC rfl (by omega) (by omega) rcC_len rcC_one u3 ((Below.refl u3.heap.size u3).mono (Nat.zero_le _)) (.slice ca cn cc) rcs rfl HOC.out bC 1 (k, (A, n, c), g, t) #[.int .i64 k, .slice A n c, .string g, .string t] 41 (0, 0) rfl HBC.out rfl (by omega) ?_
            intro v15 u4 HO15 _ HG15 HA15
            have hs15 : v0.heap.size ≤ u3.heap.size := HK.out.size
            have HRB := Lib.hid (HOC.out.box HG15.out HRB.out (by decide))
            have HXB := Lib.hid ((HG15.out.block _ (lt_of_block HXB.out) (fun e => HXN.out (HOBc.out _ (by first | exact e | exact e.symm)))).trans HXB.out)
            have HON := Lib.hid (HON.out.growO HOC.out (by decide) HG15.out)
            have HM := Lib.hid (HM.out.notRow HOC.out HG15.out)
            have HK := Lib.hid (HK.out.grown HG15.out (fun g e _ => HOBc.out g e))
            have HOC := Lib.hid HO15.out
            obtain ⟨A15, n15, c15, rfl⟩ := HO15.out.sl3
            clear HBC HO15 HG15
            have z1 : u4.frozen? ⟨R, 1, none⟩ = false := frozen_of_row _ _ _ _ _ HRB.out
            have y1 : u4.cell? ⟨R, 1, none⟩ = some (.slice na nn nc) := (cell_of_row _ _ 1 _ _ _ HRB.out).trans rfl
            refine hK _ _ ⟨HXB.out, fun _ => HRB.out⟩ (fun hC => ?_)
            clear hK K9
            try simp only [Act.put, List.setIfInBounds_toArray, List.set_cons_zero, List.set_cons_succ]
            refine wpAnyL_take (i := 16) (oi := { dst := some 57, op := .nilCheck (.tmp 41), type := _, pos := _, after := _, guard := none }) (v := ?_) rfl (by kernel_rfl) (by kernel_rfl) (by kernel_rfl) (fun _ _ _ h => h) (SQ.set (by decide)) hC (Or.inl ⟨by rfl, ?_⟩) ⟨HXB.out, fun _ => HRB.out⟩ (fun hC hS => ?_)
            rotate_left
            · intro W9 hSw; skip; go_simp; try (with_reducible rfl)
            try simp only [Act.put, List.setIfInBounds_toArray, List.set_cons_zero, List.set_cons_succ]
            refine wpAnyL_take (i := 17) (oi := { dst := some 58, op := .fieldAddr 59 (.tmp 57) 1, type := _, pos := _, after := _, guard := none }) (v := ?_) rfl (by kernel_rfl) (by kernel_rfl) (by kernel_rfl) (fun _ _ _ h => h) (SQ.set (by decide)) hC (Or.inl ⟨by rfl, ?_⟩) ⟨HXB.out, fun _ => HRB.out⟩ (fun hC hS => ?_)
            rotate_left
            · intro W9 hSw; skip; go_simp; try (with_reducible rfl)
            try simp only [Act.put, List.setIfInBounds_toArray, List.set_cons_zero, List.set_cons_succ]
            refine wpAnyL_ready (rs := [18]) (by kernel_rfl) (by simp) hC ?_
            refine AllReadyL.cons (o := { dst := none, op := .store 22 (.tmp 58) (.tmp 49), type := _, pos := _, after := _, guard := none }) rfl (fun K9 hK => ?_) ?_
            · skip
              go_simp
              clear z1 y1
              have HKK := Lib.hid ((KK.refl [R] u4).set (b := R) (by simp) 1 (.slice A8 n8 c8))
              have HXB := Lib.hid (HKK.out.blk HXB.out (by simpa using hXR))
              have HON := Lib.hid (HON.out.kkD HKK.out HRB.out (by decide))
              have HOC := Lib.hid (HOC.out.kkD HKK.out HRB.out (by decide))
              have HM := Lib.hid (HM.out.kept (HKK.out.block B HM.out.lt (by simpa using hBR)))
              have HK := Lib.hid (HK.out.set HKK.out (.inl rfl))
              have HRB : Hid ((u4.setCell ⟨R, 1, none⟩ (.slice A8 n8 c8)).heap[R]? = some (rwO D A8 n8 c8 ca cn cc B)) := Lib.hid (by have y := heap_setCell_at (i := 1) (u := .slice A8 n8 c8) HRB.out; exact y)
              clear HKK
              generalize (u4.setCell ⟨R, 1, none⟩ (.slice A8 n8 c8)) = u5 at *
              have z1 : u5.frozen? ⟨R, 2, none⟩ = false := frozen_of_row _ _ _ _ _ HRB.out
              have y1 : u5.cell? ⟨R, 2, none⟩ = some (.slice ca cn cc) := (cell_of_row _ _ 2 _ _ _ HRB.out).trans rfl
              refine hK _ _ ⟨HXB.out, fun q => absurd q (by decide)⟩ (fun hC => ?_)
              clear hK K9
              try simp only [Act.put, List.setIfInBounds_toArray, List.set_cons_zero, List.set_cons_succ]
              refine wpAnyL_take (i := 19) (oi := { dst := some 59, op := .nilCheck (.tmp 42), type := _, pos := _, after := _, guard := none }) (v := ?_) rfl (by kernel_rfl) (by kernel_rfl) (by kernel_rfl) (fun _ _ _ h => h) (SQ.set (by decide)) hC (Or.inl ⟨by rfl, ?_⟩) ⟨HXB.out, fun q => absurd q (by decide)⟩ (fun hC hS => ?_)
              rotate_left
              · intro W9 hSw; skip; go_simp; try (with_reducible rfl)
              try simp only [Act.put, List.setIfInBounds_toArray, List.set_cons_zero, List.set_cons_succ]
              refine wpAnyL_take (i := 20) (oi := { dst := some 60, op := .fieldAddr 59 (.tmp 59) 2, type := _, pos := _, after := _, guard := none }) (v := ?_) rfl (by kernel_rfl) (by kernel_rfl) (by kernel_rfl) (fun _ _ _ h => h) (SQ.set (by decide)) hC (Or.inl ⟨by rfl, ?_⟩) ⟨HXB.out, fun q => absurd q (by decide)⟩ (fun hC hS => ?_)
              rotate_left
              · intro W9 hSw; skip; go_simp; try (with_reducible rfl)
              try simp only [Act.put, List.setIfInBounds_toArray, List.set_cons_zero, List.set_cons_succ]
              refine wpAnyL_ready (rs := [21]) (by kernel_rfl) (by simp) hC ?_
              refine AllReadyL.cons (o := { dst := none, op := .store 33 (.tmp 60) (.tmp 56), type := _, pos := _, after := _, guard := none }) rfl (fun K9 hK => ?_) ?_
              · skip
                go_simp
                clear z1 y1
                have HKK := Lib.hid ((KK.refl [R] u5).set (b := R) (by simp) 2 (.slice A15 n15 c15))
                have HXB := Lib.hid (HKK.out.blk HXB.out (by simpa using hXR))
                have HON := Lib.hid (HON.out.kkD HKK.out HRB.out (by decide))
                have HOC := Lib.hid (HOC.out.kkD HKK.out HRB.out (by decide))
                have HM := Lib.hid (HM.out.kept (HKK.out.block B HM.out.lt (by simpa using hBR)))
                have HK := Lib.hid (HK.out.set HKK.out (.inl rfl))
                have HRB : Hid ((u5.setCell ⟨R, 2, none⟩ (.slice A15 n15 c15)).heap[R]? = some (rwO D A8 n8 c8 A15 n15 c15 B)) := Lib.hid (by have y := heap_setCell_at (i := 2) (u := .slice A15 n15 c15) HRB.out; exact y)
                clear HKK
                generalize (u5.setCell ⟨R, 2, none⟩ (.slice A15 n15 c15)) = u6 at *
                refine hK _ _ ⟨HXB.out, fun q => absurd q (by decide)⟩ (fun hC => ?_)
                clear hK K9
                try simp only [Act.put, List.setIfInBounds_toArray, List.set_cons_zero, List.set_cons_succ]
                refine wpAnyL_done (by kernel_rfl) ?_ _
                clear hS hC
                have HKR : Hid (Kr R v0 u6) := Lib.hid ⟨HK.out, fun b hb q => by
                    rcases q.cases HRB.out with q | ⟨o, q⟩ | ⟨o, q⟩ | q
                    · exact .inl q
                    · have e := HON.out.sl0 b o q
                      rcases HA8.out with h | h
                      · exact HOBn.out b (by rw [← h]; exact e)
                      · rw [e] at h; injection h with h; omega
                    · have e := HOC.out.sl0 b o q
                      rcases HA15.out with h | h
                      · exact HOBc.out b (by rw [← h]; exact e)
                      · rw [e] at h; injection h with h; omega
                    · subst q; exact InR.m HRV.out⟩
                have HFIN := Lib.hid (rw_push HRW.out HCI.out HKR.out HP.out HRB.out HON.out HOC.out HM.out)
                have HRX := Lib.hid (HX.out.kr HKR.out HFIN.out)
                have HKE := Lib.hid (HKW.out.trans HKR.out)
                clear HON HOC HM HK HRB HXB HA8 HA15 HOBn HOBc HCI HFAR
                go_wp2_with fail
                go_ret
                exact ⟨rfl, _, HRX.out, HKE.out⟩
              exact AllReadyL.nil
            exact AllReadyL.nil
          exact AllReadyL.nil
        exact AllReadyL.nil
      refine AllReadyL.cons (o := { dst := some 55, op := .buildSlice 33 1 #[(0, .tmp 54)], type := _, pos := _, after := _, guard := none }) rfl (fun K9 hK => ?_) ?_
      · skip
        go_simp
        have HBC := Lib.hid (blk_new u1 (.cells #[.int .i64 k, .slice A n c, .string g, .string t] 41 (0, 0)))
        have HRB := Lib.hid (blk_alloc HRB.out (.cells #[.int .i64 k, .slice A n c, .string g, .string t] 41 (0, 0)))
        have HXB := Lib.hid (blk_alloc HXB.out (.cells #[.int .i64 k, .slice A n c, .string g, .string t] 41 (0, 0)))
        have HON := Lib.hid (HON.out.alloc (.cells #[.int .i64 k, .slice A n c, .string g, .string t] 41 (0, 0)))
        have HOC := Lib.hid (HOC.out.alloc (.cells #[.int .i64 k, .slice A n c, .string g, .string t] 41 (0, 0)))
        have HM := Lib.hid (HM.out.kept (w' := u1.alloc (.cells #[.int .i64 k, .slice A n c, .string g, .string t] 41 (0, 0))) (Below.heap_alloc u1 (.cells #[.int .i64 k, .slice A n c, .string g, .string t] 41 (0, 0)) B HM.out.lt))
        have HK := Lib.hid (HK.out.allocC (.cells #[.int .i64 k, .slice A n c, .string g, .string t] 41 (0, 0)))
        have HBN := Lib.hid (blk_alloc HBN.out (.cells #[.int .i64 k, .slice A n c, .string g, .string t] 41 (0, 0)))
        generalize u1.alloc (.cells #[.int .i64 k, .slice A n c, .string g, .string t] 41 (0, 0)) = u2 at *
        generalize u1.heap.size = bC at *
        refine hK _ _ ⟨HXB.out, fun _ => HRB.out⟩ (fun hC => ?_)
        clear hK K9
        try simp only [Act.put, List.setIfInBounds_toArray, List.set_cons_zero, List.set_cons_succ]
        refine wpAnyL_ready (rs := [8]) (by kernel_rfl) (by simp) hC ?_
        refine AllReadyL.cons (o := { dst := some 49, op := .call { callee := .builtin .append, args := #[.tmp 46, .tmp 48], argTypes := #[22, 22] }, type := _, pos := _, after := _, guard := none }) rfl (fun K9 hK => ?_) ?_
        · skip
          refine step_appPoG rfl (.tmp 46) (.tmp 48) 22 9 _ 16 rfl Tryd.underlying22 info_sC rfl (by omega) (by omega) stC_len stC_one u2 ((Below.refl u2.heap.size u2).mono (Nat.zero_le _)) (.slice na nn nc) (acc.map (·.1)) rfl HON.out bN 1 s #[.string s] 9 (0, 0) rfl HBN.out rfl (by rw [List.length_map]; omega) ?_
          intro v8 u3 HO8 _ HG8 HA8
          have hs8 : v0.heap.size ≤ u2.heap.size := HK.out.size
          have HRB := Lib.hid (HON.out.box HG8.out HRB.out (by decide))
          have HXB := Lib.hid (HON.out.box HG8.out HXB.out (by decide))
          have HOC := Lib.hid (HOC.out.growO HON.out (by decide) HG8.out)
          have HM := Lib.hid (HM.out.notRow HON.out HG8.out)
          have HK := Lib.hid (HK.out.grown HG8.out (fun g e _ => HOBn.out g e))
          have HBC := Lib.hid (HON.out.box HG8.out HBC.out (by decide))
          have HON := Lib.hid HO8.out
          obtain ⟨A8, n8, c8, rfl⟩ := HO8.out.sl3
          clear HBN HO8 HG8
          refine hK _ _ ⟨HXB.out, fun _ => HRB.out⟩ (fun hC => ?_)
          clear hK K9
          try simp only [Act.put, List.setIfInBounds_toArray, List.set_cons_zero, List.set_cons_succ]
          refine wpAnyL_ready (rs := [15]) (by kernel_rfl) (by simp) hC ?_
          refine AllReadyL.cons (o := { dst := some 56, op := .call { callee := .builtin .append, args := #[.tmp 53, .tmp 55], argTypes := #[33, 33] }, type := _, pos := _, after := _, guard := none }) rfl (fun K9 hK => ?_) ?_
          · skip
            refine step_appPoG rfl (.tmp 53) (.tmp 55) 33 41 _ 64 rfl Tryd.underlying33 info_cC rfl (by omega) (by omega) rcC_len rcC_one u3 ((Below.refl u3.heap.size u3).mono (Nat.zero_le _)) (.slice ca cn cc) rcs rfl HOC.out bC 1 (k, (A, n, c), g, t) #[.int .i64 k, .slice A n c, .string g, .string t] 41 (0, 0) rfl HBC.out rfl (by omega) ?_
            intro v15 u4 HO15 _ HG15 HA15
            have hs15 : v0.heap.size ≤ u3.heap.size := HK.out.size
            have HRB := Lib.hid (HOC.out.box HG15.out HRB.out (by decide))
            have HXB := Lib.hid ((HG15.out.block _ (lt_of_block HXB.out) (fun e => HXN.out (HOBc.out _ (by first | exact e | exact e.symm)))).trans HXB.out)
            have HON := Lib.hid (HON.out.growO HOC.out (by decide) HG15.out)
            have HM := Lib.hid (HM.out.notRow HOC.out HG15.out)
            have HK := Lib.hid (HK.out.grown HG15.out (fun g e _ => HOBc.out g e))
            have HOC := Lib.hid HO15.out
            obtain ⟨A15, n15, c15, rfl⟩ := HO15.out.sl3
            clear HBC HO15 HG15
            have z1 : u4.frozen? ⟨R, 1, none⟩ = false := frozen_of_row _ _ _ _ _ HRB.out
            have y1 : u4.cell? ⟨R, 1, none⟩ = some (.slice na nn nc) := (cell_of_row _ _ 1 _ _ _ HRB.out).trans rfl
            refine hK _ _ ⟨HXB.out, fun _ => HRB.out⟩ (fun hC => ?_)
            clear hK K9
            try simp only [Act.put, List.setIfInBounds_toArray, List.set_cons_zero, List.set_cons_succ]
            refine wpAnyL_take (i := 16) (oi := { dst := some 57, op := .nilCheck (.tmp 41), type := _, pos := _, after := _, guard := none }) (v := ?_) rfl (by kernel_rfl) (by kernel_rfl) (by kernel_rfl) (fun _ _ _ h => h) (SQ.set (by decide)) hC (Or.inl ⟨by rfl, ?_⟩) ⟨HXB.out, fun _ => HRB.out⟩ (fun hC hS => ?_)
            rotate_left
            · intro W9 hSw; skip; go_simp; try (with_reducible rfl)
            try simp only [Act.put, List.setIfInBounds_toArray, List.set_cons_zero, List.set_cons_succ]
            refine wpAnyL_take (i := 17) (oi := { dst := some 58, op := .fieldAddr 59 (.tmp 57) 1, type := _, pos := _, after := _, guard := none }) (v := ?_) rfl (by kernel_rfl) (by kernel_rfl) (by kernel_rfl) (fun _ _ _ h => h) (SQ.set (by decide)) hC (Or.inl ⟨by rfl, ?_⟩) ⟨HXB.out, fun _ => HRB.out⟩ (fun hC hS => ?_)
            rotate_left
            · intro W9 hSw; skip; go_simp; try (with_reducible rfl)
            try simp only [Act.put, List.setIfInBounds_toArray, List.set_cons_zero, List.set_cons_succ]
            refine wpAnyL_ready (rs := [18]) (by kernel_rfl) (by simp) hC ?_
            refine AllReadyL.cons (o := { dst := none, op := .store 22 (.tmp 58) (.tmp 49), type := _, pos := _, after := _, guard := none }) rfl (fun K9 hK => ?_) ?_
            · skip
              go_simp
              clear z1 y1
              have HKK := Lib.hid ((KK.refl [R] u4).set (b := R) (by simp) 1 (.slice A8 n8 c8))
              have HXB := Lib.hid (HKK.out.blk HXB.out (by simpa using hXR))
              have HON := Lib.hid (HON.out.kkD HKK.out HRB.out (by decide))
              have HOC := Lib.hid (HOC.out.kkD HKK.out HRB.out (by decide))
              have HM := Lib.hid (HM.out.kept (HKK.out.block B HM.out.lt (by simpa using hBR)))
              have HK := Lib.hid (HK.out.set HKK.out (.inl rfl))
              have HRB : Hid ((u4.setCell ⟨R, 1, none⟩ (.slice A8 n8 c8)).heap[R]? = some (rwO D A8 n8 c8 ca cn cc B)) := Lib.hid (by have y := heap_setCell_at (i := 1) (u := .slice A8 n8 c8) HRB.out; exact y)
              clear HKK
              generalize (u4.setCell ⟨R, 1, none⟩ (.slice A8 n8 c8)) = u5 at *
              have z1 : u5.frozen? ⟨R, 2, none⟩ = false := frozen_of_row _ _ _ _ _ HRB.out
              have y1 : u5.cell? ⟨R, 2, none⟩ = some (.slice ca cn cc) := (cell_of_row _ _ 2 _ _ _ HRB.out).trans rfl
              refine hK _ _ ⟨HXB.out, fun q => absurd q (by decide)⟩ (fun hC => ?_)
              clear hK K9
              try simp only [Act.put, List.setIfInBounds_toArray, List.set_cons_zero, List.set_cons_succ]
              refine wpAnyL_take (i := 19) (oi := { dst := some 59, op := .nilCheck (.tmp 42), type := _, pos := _, after := _, guard := none }) (v := ?_) rfl (by kernel_rfl) (by kernel_rfl) (by kernel_rfl) (fun _ _ _ h => h) (SQ.set (by decide)) hC (Or.inl ⟨by rfl, ?_⟩) ⟨HXB.out, fun q => absurd q (by decide)⟩ (fun hC hS => ?_)
              rotate_left
              · intro W9 hSw; skip; go_simp; try (with_reducible rfl)
              try simp only [Act.put, List.setIfInBounds_toArray, List.set_cons_zero, List.set_cons_succ]
              refine wpAnyL_take (i := 20) (oi := { dst := some 60, op := .fieldAddr 59 (.tmp 59) 2, type := _, pos := _, after := _, guard := none }) (v := ?_) rfl (by kernel_rfl) (by kernel_rfl) (by kernel_rfl) (fun _ _ _ h => h) (SQ.set (by decide)) hC (Or.inl ⟨by rfl, ?_⟩) ⟨HXB.out, fun q => absurd q (by decide)⟩ (fun hC hS => ?_)
              rotate_left
              · intro W9 hSw; skip; go_simp; try (with_reducible rfl)
              try simp only [Act.put, List.setIfInBounds_toArray, List.set_cons_zero, List.set_cons_succ]
              refine wpAnyL_ready (rs := [21]) (by kernel_rfl) (by simp) hC ?_
              refine AllReadyL.cons (o := { dst := none, op := .store 33 (.tmp 60) (.tmp 56), type := _, pos := _, after := _, guard := none }) rfl (fun K9 hK => ?_) ?_
              · skip
                go_simp
                clear z1 y1
                have HKK := Lib.hid ((KK.refl [R] u5).set (b := R) (by simp) 2 (.slice A15 n15 c15))
                have HXB := Lib.hid (HKK.out.blk HXB.out (by simpa using hXR))
                have HON := Lib.hid (HON.out.kkD HKK.out HRB.out (by decide))
                have HOC := Lib.hid (HOC.out.kkD HKK.out HRB.out (by decide))
                have HM := Lib.hid (HM.out.kept (HKK.out.block B HM.out.lt (by simpa using hBR)))
                have HK := Lib.hid (HK.out.set HKK.out (.inl rfl))
                have HRB : Hid ((u5.setCell ⟨R, 2, none⟩ (.slice A15 n15 c15)).heap[R]? = some (rwO D A8 n8 c8 A15 n15 c15 B)) := Lib.hid (by have y := heap_setCell_at (i := 2) (u := .slice A15 n15 c15) HRB.out; exact y)
                clear HKK
                generalize (u5.setCell ⟨R, 2, none⟩ (.slice A15 n15 c15)) = u6 at *
                refine hK _ _ ⟨HXB.out, fun q => absurd q (by decide)⟩ (fun hC => ?_)
                clear hK K9
                try simp only [Act.put, List.setIfInBounds_toArray, List.set_cons_zero, List.set_cons_succ]
                refine wpAnyL_done (by kernel_rfl) ?_ _
                clear hS hC
                have HKR : Hid (Kr R v0 u6) := Lib.hid ⟨HK.out, fun b hb q => by
                    rcases q.cases HRB.out with q | ⟨o, q⟩ | ⟨o, q⟩ | q
                    · exact .inl q
                    · have e := HON.out.sl0 b o q
                      rcases HA8.out with h | h
                      · exact HOBn.out b (by rw [← h]; exact e)
                      · rw [e] at h; injection h with h; omega
                    · have e := HOC.out.sl0 b o q
                      rcases HA15.out with h | h
                      · exact HOBc.out b (by rw [← h]; exact e)
                      · rw [e] at h; injection h with h; omega
                    · subst q; exact InR.m HRV.out⟩
                have HFIN := Lib.hid (rw_push HRW.out HCI.out HKR.out HP.out HRB.out HON.out HOC.out HM.out)
                have HRX := Lib.hid (HX.out.kr HKR.out HFIN.out)
                have HKE := Lib.hid (HKW.out.trans HKR.out)
                clear HON HOC HM HK HRB HXB HA8 HA15 HOBn HOBc HCI HFAR
                go_wp2_with fail
                go_ret
                exact ⟨rfl, _, HRX.out, HKE.out⟩
              exact AllReadyL.nil
            exact AllReadyL.nil
          exact AllReadyL.nil
        exact AllReadyL.nil
      exact AllReadyL.nil
    refine AllReadyL.cons (o := { dst := some 55, op := .buildSlice 33 1 #[(0, .tmp 54)], type := _, pos := _, after := _, guard := none }) rfl (fun K9 hK => ?_) ?_
    · skip
      go_simp
      have HBC := Lib.hid (blk_new u0 (.cells #[.int .i64 k, .slice A n c, .string g, .string t] 41 (0, 0)))
      have HRB := Lib.hid (blk_alloc HRB.out (.cells #[.int .i64 k, .slice A n c, .string g, .string t] 41 (0, 0)))
      have HXB := Lib.hid (blk_alloc HXB.out (.cells #[.int .i64 k, .slice A n c, .string g, .string t] 41 (0, 0)))
      have HON := Lib.hid (HON.out.alloc (.cells #[.int .i64 k, .slice A n c, .string g, .string t] 41 (0, 0)))
      have HOC := Lib.hid (HOC.out.alloc (.cells #[.int .i64 k, .slice A n c, .string g, .string t] 41 (0, 0)))
      have HM := Lib.hid (HM.out.kept (w' := u0.alloc (.cells #[.int .i64 k, .slice A n c, .string g, .string t] 41 (0, 0))) (Below.heap_alloc u0 (.cells #[.int .i64 k, .slice A n c, .string g, .string t] 41 (0, 0)) B HM.out.lt))
      have HK := Lib.hid (HK.out.allocC (.cells #[.int .i64 k, .slice A n c, .string g, .string t] 41 (0, 0)))
      generalize u0.alloc (.cells #[.int .i64 k, .slice A n c, .string g, .string t] 41 (0, 0)) = u1 at *
      generalize u0.heap.size = bC at *
      refine hK _ _ ⟨HXB.out, fun _ => HRB.out⟩ (fun hC => ?_)
      clear hK K9
      try simp only [Act.put, List.setIfInBounds_toArray, List.set_cons_zero, List.set_cons_succ]
      refine wpAnyL_ready (rs := [7]) (by kernel_rfl) (by simp) hC ?_
      refine AllReadyL.cons (o := { dst := some 48, op := .buildSlice 22 1 #[(0, .tmp 47)], type := _, pos := _, after := _, guard := none }) rfl (fun K9 hK => ?_) ?_
      · skip
        go_simp
        have HBN := Lib.hid (blk_new u1 (.cells #[.string s] 9 (0, 0)))
        have HRB := Lib.hid (blk_alloc HRB.out (.cells #[.string s] 9 (0, 0)))
        have HXB := Lib.hid (blk_alloc HXB.out (.cells #[.string s] 9 (0, 0)))
        have HON := Lib.hid (HON.out.alloc (.cells #[.string s] 9 (0, 0)))
        have HOC := Lib.hid (HOC.out.alloc (.cells #[.string s] 9 (0, 0)))
        have HM := Lib.hid (HM.out.kept (w' := u1.alloc (.cells #[.string s] 9 (0, 0))) (Below.heap_alloc u1 (.cells #[.string s] 9 (0, 0)) B HM.out.lt))
        have HK := Lib.hid (HK.out.allocC (.cells #[.string s] 9 (0, 0)))
        have HBC := Lib.hid (blk_alloc HBC.out (.cells #[.string s] 9 (0, 0)))
        generalize u1.alloc (.cells #[.string s] 9 (0, 0)) = u2 at *
        generalize u1.heap.size = bN at *
        refine hK _ _ ⟨HXB.out, fun _ => HRB.out⟩ (fun hC => ?_)
        clear hK K9
        try simp only [Act.put, List.setIfInBounds_toArray, List.set_cons_zero, List.set_cons_succ]
        refine wpAnyL_ready (rs := [8]) (by kernel_rfl) (by simp) hC ?_
        refine AllReadyL.cons (o := { dst := some 49, op := .call { callee := .builtin .append, args := #[.tmp 46, .tmp 48], argTypes := #[22, 22] }, type := _, pos := _, after := _, guard := none }) rfl (fun K9 hK => ?_) ?_
        · skip
          refine step_appPoG rfl (.tmp 46) (.tmp 48) 22 9 _ 16 rfl Tryd.underlying22 info_sC rfl (by omega) (by omega) stC_len stC_one u2 ((Below.refl u2.heap.size u2).mono (Nat.zero_le _)) (.slice na nn nc) (acc.map (·.1)) rfl HON.out bN 1 s #[.string s] 9 (0, 0) rfl HBN.out rfl (by rw [List.length_map]; omega) ?_
          intro v8 u3 HO8 _ HG8 HA8
          have hs8 : v0.heap.size ≤ u2.heap.size := HK.out.size
          have HRB := Lib.hid (HON.out.box HG8.out HRB.out (by decide))
          have HXB := Lib.hid (HON.out.box HG8.out HXB.out (by decide))
          have HOC := Lib.hid (HOC.out.growO HON.out (by decide) HG8.out)
          have HM := Lib.hid (HM.out.notRow HON.out HG8.out)
          have HK := Lib.hid (HK.out.grown HG8.out (fun g e _ => HOBn.out g e))
          have HBC := Lib.hid (HON.out.box HG8.out HBC.out (by decide))
          have HON := Lib.hid HO8.out
          obtain ⟨A8, n8, c8, rfl⟩ := HO8.out.sl3
          clear HBN HO8 HG8
          refine hK _ _ ⟨HXB.out, fun _ => HRB.out⟩ (fun hC => ?_)
          clear hK K9
          try simp only [Act.put, List.setIfInBounds_toArray, List.set_cons_zero, List.set_cons_succ]
          refine wpAnyL_ready (rs := [15]) (by kernel_rfl) (by simp) hC ?_
          refine AllReadyL.cons (o := { dst := some 56, op := .call { callee := .builtin .append, args := #[.tmp 53, .tmp 55], argTypes := #[33, 33] }, type := _, pos := _, after := _, guard := none }) rfl (fun K9 hK => ?_) ?_
          · skip
            refine step_appPoG rfl (.tmp 53) (.tmp 55) 33 41 _ 64 rfl Tryd.underlying33 info_cC rfl (by omega) (by omega) rcC_len rcC_one u3 ((Below.refl u3.heap.size u3).mono (Nat.zero_le _)) (.slice ca cn cc) rcs rfl HOC.out bC 1 (k, (A, n, c), g, t) #[.int .i64 k, .slice A n c, .string g, .string t] 41 (0, 0) rfl HBC.out rfl (by omega) ?_
            intro v15 u4 HO15 _ HG15 HA15
            have hs15 : v0.heap.size ≤ u3.heap.size := HK.out.size
            have HRB := Lib.hid (HOC.out.box HG15.out HRB.out (by decide))
            have HXB := Lib.hid ((HG15.out.block _ (lt_of_block HXB.out) (fun e => HXN.out (HOBc.out _ (by first | exact e | exact e.symm)))).trans HXB.out)
            have HON := Lib.hid (HON.out.growO HOC.out (by decide) HG15.out)
            have HM := Lib.hid (HM.out.notRow HOC.out HG15.out)
            have HK := Lib.hid (HK.out.grown HG15.out (fun g e _ => HOBc.out g e))
            have HOC := Lib.hid HO15.out
            obtain ⟨A15, n15, c15, rfl⟩ := HO15.out.sl3
            clear HBC HO15 HG15
            have z1 : u4.frozen? ⟨R, 1, none⟩ = false := frozen_of_row _ _ _ _ _ HRB.out
            have y1 : u4.cell? ⟨R, 1, none⟩ = some (.slice na nn nc) := (cell_of_row _ _ 1 _ _ _ HRB.out).trans rfl
            refine hK _ _ ⟨HXB.out, fun _ => HRB.out⟩ (fun hC => ?_)
            clear hK K9
            try simp only [Act.put, List.setIfInBounds_toArray, List.set_cons_zero, List.set_cons_succ]
            refine wpAnyL_take (i := 16) (oi := { dst := some 57, op := .nilCheck (.tmp 41), type := _, pos := _, after := _, guard := none }) (v := ?_) rfl (by kernel_rfl) (by kernel_rfl) (by kernel_rfl) (fun _ _ _ h => h) (SQ.set (by decide)) hC (Or.inl ⟨by rfl, ?_⟩) ⟨HXB.out, fun _ => HRB.out⟩ (fun hC hS => ?_)
            rotate_left
            · intro W9 hSw; skip; go_simp; try (with_reducible rfl)
            try simp only [Act.put, List.setIfInBounds_toArray, List.set_cons_zero, List.set_cons_succ]
            refine wpAnyL_take (i := 17) (oi := { dst := some 58, op := .fieldAddr 59 (.tmp 57) 1, type := _, pos := _, after := _, guard := none }) (v := ?_) rfl (by kernel_rfl) (by kernel_rfl) (by kernel_rfl) (fun _ _ _ h => h) (SQ.set (by decide)) hC (Or.inl ⟨by rfl, ?_⟩) ⟨HXB.out, fun _ => HRB.out⟩ (fun hC hS => ?_)
            rotate_left
            · intro W9 hSw; skip; go_simp; try (with_reducible rfl)
            try simp only [Act.put, List.setIfInBounds_toArray, List.set_cons_zero, List.set_cons_succ]
            refine wpAnyL_ready (rs := [18]) (by kernel_rfl) (by simp) hC ?_
            refine AllReadyL.cons (o := { dst := none, op := .store 22 (.tmp 58) (.tmp 49), type := _, pos := _, after := _, guard := none }) rfl (fun K9 hK => ?_) ?_
            · skip
              go_simp
              clear z1 y1
              have HKK := Lib.hid ((KK.refl [R] u4).set (b := R) (by simp) 1 (.slice A8 n8 c8))
              have HXB := Lib.hid (HKK.out.blk HXB.out (by simpa using hXR))
              have HON := Lib.hid (HON.out.kkD HKK.out HRB.out (by decide))
              have HOC := Lib.hid (HOC.out.kkD HKK.out HRB.out (by decide))
              have HM := Lib.hid (HM.out.kept (HKK.out.block B HM.out.lt (by simpa using hBR)))
              have HK := Lib.hid (HK.out.set HKK.out (.inl rfl))
              have HRB : Hid ((u4.setCell ⟨R, 1, none⟩ (.slice A8 n8 c8)).heap[R]? = some (rwO D A8 n8 c8 ca cn cc B)) := Lib.hid (by have y := heap_setCell_at (i := 1) (u := .slice A8 n8 c8) HRB.out; exact y)
              clear HKK
              generalize (u4.setCell ⟨R, 1, none⟩ (.slice A8 n8 c8)) = u5 at *
              have z1 : u5.frozen? ⟨R, 2, none⟩ = false := frozen_of_row _ _ _ _ _ HRB.out
              have y1 : u5.cell? ⟨R, 2, none⟩ = some (.slice ca cn cc) := (cell_of_row _ _ 2 _ _ _ HRB.out).trans rfl
              refine hK _ _ ⟨HXB.out, fun q => absurd q (by decide)⟩ (fun hC => ?_)
              clear hK K9
              try simp only [Act.put, List.setIfInBounds_toArray, List.set_cons_zero, List.set_cons_succ]
              refine wpAnyL_take (i := 19) (oi := { dst := some 59, op := .nilCheck (.tmp 42), type := _, pos := _, after := _, guard := none }) (v := ?_) rfl (by kernel_rfl) (by kernel_rfl) (by kernel_rfl) (fun _ _ _ h => h) (SQ.set (by decide)) hC (Or.inl ⟨by rfl, ?_⟩) ⟨HXB.out, fun q => absurd q (by decide)⟩ (fun hC hS => ?_)
              rotate_left
              · intro W9 hSw; skip; go_simp; try (with_reducible rfl)
              try simp only [Act.put, List.setIfInBounds_toArray, List.set_cons_zero, List.set_cons_succ]
              refine wpAnyL_take (i := 20) (oi := { dst := some 60, op := .fieldAddr 59 (.tmp 59) 2, type := _, pos := _, after := _, guard := none }) (v := ?_) rfl (by kernel_rfl) (by kernel_rfl) (by kernel_rfl) (fun _ _ _ h => h) (SQ.set (by decide)) hC (Or.inl ⟨by rfl, ?_⟩) ⟨HXB.out, fun q => absurd q (by decide)⟩ (fun hC hS => ?_)
              rotate_left
              · intro W9 hSw; skip; go_simp; try (with_reducible rfl)
              try simp only [Act.put, List.setIfInBounds_toArray, List.set_cons_zero, List.set_cons_succ]
              refine wpAnyL_ready (rs := [21]) (by kernel_rfl) (by simp) hC ?_
              refine AllReadyL.cons (o := { dst := none, op := .store 33 (.tmp 60) (.tmp 56), type := _, pos := _, after := _, guard := none }) rfl (fun K9 hK => ?_) ?_
              · skip
                go_simp
                clear z1 y1
                have HKK := Lib.hid ((KK.refl [R] u5).set (b := R) (by simp) 2 (.slice A15 n15 c15))
                have HXB := Lib.hid (HKK.out.blk HXB.out (by simpa using hXR))
                have HON := Lib.hid (HON.out.kkD HKK.out HRB.out (by decide))
                have HOC := Lib.hid (HOC.out.kkD HKK.out HRB.out (by decide))
                have HM := Lib.hid (HM.out.kept (HKK.out.block B HM.out.lt (by simpa using hBR)))
                have HK := Lib.hid (HK.out.set HKK.out (.inl rfl))
                have HRB : Hid ((u5.setCell ⟨R, 2, none⟩ (.slice A15 n15 c15)).heap[R]? = some (rwO D A8 n8 c8 A15 n15 c15 B)) := Lib.hid (by have y := heap_setCell_at (i := 2) (u := .slice A15 n15 c15) HRB.out; exact y)
                clear HKK
                generalize (u5.setCell ⟨R, 2, none⟩ (.slice A15 n15 c15)) = u6 at *
                refine hK _ _ ⟨HXB.out, fun q => absurd q (by decide)⟩ (fun hC => ?_)
                clear hK K9
                try simp only [Act.put, List.setIfInBounds_toArray, List.set_cons_zero, List.set_cons_succ]
                refine wpAnyL_done (by kernel_rfl) ?_ _
                clear hS hC
                have HKR : Hid (Kr R v0 u6) := Lib.hid ⟨HK.out, fun b hb q => by
                    rcases q.cases HRB.out with q | ⟨o, q⟩ | ⟨o, q⟩ | q
                    · exact .inl q
                    · have e := HON.out.sl0 b o q
                      rcases HA8.out with h | h
                      · exact HOBn.out b (by rw [← h]; exact e)
                      · rw [e] at h; injection h with h; omega
                    · have e := HOC.out.sl0 b o q
                      rcases HA15.out with h | h
                      · exact HOBc.out b (by rw [← h]; exact e)
                      · rw [e] at h; injection h with h; omega
                    · subst q; exact InR.m HRV.out⟩
                have HFIN := Lib.hid (rw_push HRW.out HCI.out HKR.out HP.out HRB.out HON.out HOC.out HM.out)
                have HRX := Lib.hid (HX.out.kr HKR.out HFIN.out)
                have HKE := Lib.hid (HKW.out.trans HKR.out)
                clear HON HOC HM HK HRB HXB HA8 HA15 HOBn HOBc HCI HFAR
                go_wp2_with fail
                go_ret
                exact ⟨rfl, _, HRX.out, HKE.out⟩
              exact AllReadyL.nil
            exact AllReadyL.nil
          exact AllReadyL.nil
        exact AllReadyL.nil
      exact AllReadyL.nil
    exact AllReadyL.nil
  exact AllReadyL.nil
end
end Go.Proofs.YtiflieaemgamkaaDoor

namespace Go.Proofs.YtiflieaemgamkaaDoor
open Go.RowKit Vi

def erC (b : Bool) : Int := if b = true then 0 else 13
section
variable {w0 w : World} {D R : Nat} {acc : List Nc} {rcs : List RC} {L : List Ob} {c0 c1 : ByteArray} {z : Nat}
theorem meet_any (s : ByteArray) (h : RX w0.heap.size w0 D R acc rcs w) (hS : SK D L c0 c1 z w0) (hs : s.size ≤ maxLen) (hla : acc.length ≤ 100000) (hL : ((getO L s).getD ⟨#[]⟩).size ≤ 1000000) :
    Calls Tryd.prog 31 #[.pointer (some ⟨R, 0, none⟩), .string s] w (MetP w0.heap.size w0 D R (mtC (ldC L) acc s).1 (erC (mtC (ldC L) acc s).2) w) := by
  cases hp : posC acc s with
  | some i => rw [mtC_met hp]; exact meet_met s h hs i hp
  | none =>
    by_cases q : ∃ c : Cm, cmok c.k c.P c.g c.t = true ∧ (getO L s).getD ⟨#[]⟩ = cmT c.k c.P c.g c.t
    · obtain ⟨⟨k, P, g, t⟩, h1, h2⟩ := q
      rw [mtC_new hp (ldC_yes h1 h2)]
      exact meet_new s k P g t h hS hs hp h1 h2 hla
    · have hno : ∀ k P g t, cmok k P g t = true → (getO L s).getD ⟨#[]⟩ ≠ cmT k P g t := fun k P g t a b => q ⟨⟨k, P, g, t⟩, a, b⟩
      rw [mtC_no hp (ldC_no hno)]
      exact meet_no s _ h hS hs hp rfl hL hno
/-- the method as a function's value -/
abbrev mtF (R : Nat) : Value := .func (.func 31) #[.pointer (some ⟨R, 0, none⟩)] #[]
set_option maxRecDepth 100000 in
set_option maxHeartbeats 4000000 in
theorem each_any (A : Option Addr) (n c : Nat) (ns : List ByteArray) (h : RX w0.heap.size w0 D R acc rcs w) (hS : SK D L c0 c1 z w0) (hr : RdX stC 1 w A n ns) (hn : n ≤ 100000) (hf : ∀ b o, A = some ⟨b, o, none⟩ → 0 < n → ¬ InR R w b) (hz : ∀ s ∈ ns, s.size ≤ maxLen) (hok : AccOk (ldC L) acc) (hll : L.length ≤ 50000) (hL : ∀ s, ((getO L s).getD ⟨#[]⟩).size ≤ 1000000) :
    Calls Tryd.prog 30 #[.slice A n c, mtF R] w (MetP w0.heap.size w0 D R (eaC (ldC L) ns acc).1 (erC (eaC (ldC L) ns acc).2) w) := by
  obtain ⟨Z, hZ⟩ : ∃ Z, Z = eaC (ldC L) ns acc := ⟨_, rfl⟩
  rw [← hZ]
  have HZ := Lib.hid hZ.symm
  have HX := Lib.hid h
  have HS := Lib.hid hS
  have HR := Lib.hid hr
  have HF := Lib.hid hf
  have HZS := Lib.hid hz
  have HOK := Lib.hid hok
  have HL := Lib.hid hL
  clear hZ h hS hr hf hz hok hL
  go_enter Tryd.func30, Tryd.ntmps30
  go_wp2_with fail
  go_loopw [10] (fun i wr => ∃ (j : Nat) (a : List Nc) (rs : List RC), i = .int .i64 (j : Int) ∧ j ≤ n ∧ Hid (eaC (ldC L) (ns.drop j) a = Z) ∧ Hid (AccOk (ldC L) a) ∧ Hid (RX w0.heap.size w0 D R a rs wr) ∧ Hid (Kr R w wr)) (fun i _ => n - (intOf i).toNat)
  case atStart => exact ⟨0, acc, rcs, rfl, Nat.zero_le _, HZ, HOK, HX, Lib.hid (Kr.refl _ _)⟩
  case round =>
    obtain ⟨j, a, rs, rfl, hj, HE, HO, HXr, HK⟩ := hrel
    clear HZ HX HOK
    by_cases hlt : j < n
    · have hd1 : decide ((j : Int) < (n : Int)) = true := decide_eq_true (by omega)
      have hi0 : (0 : Int) ≤ (j : Int) := by omega
      have hRw : RdX stC 1 wr A n ns := HR.out.blocksC (fun b o e hn hl => HK.out.kp.block b hl (HF.out b o e hn)) HK.out.kp.size
      obtain ⟨b, off, hl2, rfl, hbb, hcell⟩ := hRw.at hlt
      obtain ⟨s, hs⟩ : ∃ s, s = ns[j] := ⟨_, rfl⟩
      have c0 := hcell 0 (.string ns[j]) rfl
      rw [← hs, Nat.mul_one, Nat.add_zero] at c0
      have hE2 : eaC (ldC L) (s :: ns.drop (j + 1)) a = Z := by rw [hs, ← List.drop_eq_getElem_cons hl2]; exact HE.out
      have HNO := Lib.hid (fun q => eaC_no hE2 q)
      have HYES := Lib.hid (fun q => eaC_yes hE2 q)
      have HM := meet_any s HXr.out HS.out (HZS.out s (by rw [hs]; exact List.getElem_mem hl2)) (by have := HO.out.len; omega) (HL.out s)
      have HO2 := Lib.hid (HO.out.mt s).1
      obtain ⟨⟨y1, y2⟩, hy⟩ : ∃ y, y = mtC (ldC L) a s := ⟨_, rfl⟩
      rw [← hy] at HM HNO HYES HO2
      clear hy hE2 hs hcell hbb hRw HE HO HXr
      cases y2 with
      | true =>
        have HM := Lib.hid (show Calls Tryd.prog 31 #[.pointer (some ⟨R, 0, none⟩), .string s] wr (MetP w0.heap.size w0 D R y1 0 wr) from HM)
        have HY := Lib.hid (HYES.out rfl)
        clear HNO HYES
        go_wp2_with fail
        refine HM.out.mono ?_
        rintro e w2 ⟨rfl, rs2, hx2, hk2⟩
        have HX2 := Lib.hid hx2
        have HK2 := Lib.hid (HK.out.trans hk2)
        clear hx2 hk2 HM c0
        go_wp2_with fail
        go_roundw
        case rel => exact ⟨j + 1, y1, rs2, by go_num, by omega, HY, HO2, HX2, HK2⟩
        case measure => simp [intOf] <;> omega
      | false =>
        have HM := Lib.hid (show Calls Tryd.prog 31 #[.pointer (some ⟨R, 0, none⟩), .string s] wr (MetP w0.heap.size w0 D R y1 13 wr) from HM)
        have HY := Lib.hid (HNO.out rfl)
        clear HNO HYES
        go_wp2_with fail
        refine HM.out.mono ?_
        rintro e w2 ⟨rfl, rs2, hx2, hk2⟩
        have HX2 := Lib.hid hx2
        have HK2 := Lib.hid (HK.out.trans hk2)
        clear hx2 hk2 HM c0
        go_wp2_with fail
        go_ret
        rw [HY.out]
        exact ⟨rfl, rs2, HX2.out, HK2.out⟩
    · have hd1 : decide ((j : Int) < (n : Int)) = false := decide_eq_false (by omega)
      have HE2 := Lib.hid (show eaC (ldC L) [] a = Z from by have y := HE.out; rwa [List.drop_of_length_le (by have := HR.out.1; omega)] at y)
      clear HE
      go_wp2_with fail
      go_ret
      rw [← HE2.out]
      exact ⟨rfl, rs, HXr.out, HK.out⟩
end
end Go.Proofs.YtiflieaemgamkaaDoor

namespace Go.Proofs.YtiflieaemgamkaaDoor
open Go.RowKit Vi

section
variable {w : World} {D R : Nat} {acc : List Nc} {rcs : List RC}
set_option maxRecDepth 100000 in
set_option maxHeartbeats 2000000 in
theorem num_any (p : ByteArray) (h : Rw D R acc rcs w) (hp : p.size ≤ maxLen) (i : Nat) (x : RC) (hx : rcs[i]? = some x) (hi : posC acc p = some (i : Int)) :
    Calls Tryd.prog 48 #[.pointer (some ⟨R, 0, none⟩), .string p] w fun e w' => e = .returned (.int .i64 x.1) ∧ Below w.heap.size w w' := by
  obtain ⟨na, nn, nc, ca, cn, cc, B, h1, h2, h3, h4⟩ := h.box
  obtain ⟨_, _, x2, x3⟩ := rw_cells h1
  obtain ⟨A', c', e, hr, _, _⟩ := h3.rd rcC_len
  injection e with e1 e2 e3
  subst e1 e2 e3
  have hil : i < rcs.length := (List.getElem?_eq_some_iff.1 hx).1
  obtain ⟨b, off, rfl, hbb, hcell⟩ := hr.2 (by omega)
  have c9 := hcell i x 0 (.int .i64 x.1) hx rfl
  rw [Nat.add_zero] at c9
  have hd1 : decide ((i : Int) < (rcs.length : Int)) = true := decide_eq_true (by omega)
  have hi0 : (0 : Int) ≤ (i : Int) := by omega
  have hi1 : (i : Int) < (rcs.length : Int) := by omega
  have HL := Lib.hid (fun W : World => fun (hb : Below w.heap.size w W) => (h4.kept (hb.block B h4.lt)).look1 p hp)
  rw [hi] at HL
  generalize x.1 = k at *
  clear h h1 h2 h3 h4 hcell hr hbb hx hi hp
  go_enter Tryd.func48, Tryd.ntmps48
  go_upto_region 1 with (fail)
  have r0 := fun d os => cell_regrown x2 d os
  have r1 := fun d os => cell_regrown x3 d os
  have r2 := fun d os => cell_regrown c9 d os
  have r3 : ∀ d os, (Instr.lookup 44 (.map (some B)) (.string p) false).run Tryd.prog (Sort.grow (redrawn w d) os) = .ok (.int .i64 (i : Int)) (Sort.grow (redrawn w d) os) := fun d os => HL.out (Sort.grow (redrawn w d) os) (below_regrown w d os)
  refine wp_region_quiet_below (by kernel_rfl) (by kernel_rfl) ?_
  repeat (any_goals (first | go_big_quiet_step (fail) | quiet_step (fail)))
  refine wpQuiet_nil ?_
  intro w2 hw2
  have hb2 := below_anyY hw2
  clear hw2 r0 r1 r2 r3 x2 x3 c9
  go_wp2_with fail
  go_ret
  exact ⟨rfl, hb2⟩
end
/-- the closures -/
abbrev fvB (p1 p2 : Nat) : Value := .func (.func 47) #[] #[.pointer (some ⟨p1, 0, none⟩), .pointer (some ⟨p2, 0, none⟩)]
abbrev fvA (p1 : Nat) : Value := .func (.func 45) #[] #[.pointer (some ⟨p1, 0, none⟩)]
set_option maxRecDepth 100000 in
set_option maxHeartbeats 2000000 in
theorem f11_any (p : ByteArray) (R p1 p2 : Nat) (k nm : Int) (A : Option Addr) (n c : Nat) (g t : ByteArray) (w : World) (h1 : w.heap[p1]? = some (.cells #[.pointer (some ⟨R, 0, none⟩)] 55 (0, 0))) (h2 : w.heap[p2]? = some (.cells #[.int .i64 k, .slice A n c, .string g, .string t] 41 (0, 0))) (hN : ∀ W, Below w.heap.size w W → Calls Tryd.prog 48 #[.pointer (some ⟨R, 0, none⟩), .string p] W fun e w' => e = .returned (.int .i64 nm) ∧ Below W.heap.size W w') :
    Calls Tryd.prog 47 #[.string p, .pointer (some ⟨p1, 0, none⟩), .pointer (some ⟨p2, 0, none⟩)] w fun e w' => e = .returned (.bool (decide (k ≤ nm))) ∧ Below w.heap.size w w' := by
  have x0 : w.cell? ⟨p1, 0, none⟩ = some (.pointer (some ⟨R, 0, none⟩)) := (cell_of_row _ _ 0 _ _ _ h1).trans rfl
  have x1 : w.cell? ⟨p2, 0, none⟩ = some (.int .i64 k) := (cell_of_row _ _ 0 _ _ _ h2).trans rfl
  have HN := Lib.hid hN
  clear h1 h2 hN
  go_enter Tryd.func47, Tryd.ntmps47
  go_upto_region 1 with (fail)
  have r0 := fun d os => cell_regrown x0 d os
  have r1 := fun d os => cell_regrown x1 d os
  refine wp_region_quiet_below (by kernel_rfl) (by kernel_rfl) ?_
  repeat (any_goals (first | go_big_quiet_step ((go_at_call 48; with_reducible exact Calls.regrown_of (HN.out _ (below_regrown _ _ _)))) | quiet_step ((go_at_call 48; with_reducible exact Calls.regrown_of (HN.out _ (below_regrown _ _ _))))))
  refine wpQuiet_nil ?_
  intro w2 hw2
  have hb2 := below_anyY hw2
  clear hw2 r0 r1 x0 x1
  go_wp2_with fail
  go_ret
  exact ⟨rfl, hb2⟩
set_option maxRecDepth 100000 in
set_option maxHeartbeats 2000000 in
theorem ixB_any (A : Option Addr) (n c : Nat) (l : List ByteArray) (pr : ByteArray → Bool) (p1 p2 : Nat) (w : World) (h : RdX stC 1 w A n l) (hn : n ≤ 100000)
    (hC : ∀ (x : ByteArray) (W : World), x ∈ l → Below w.heap.size w W → Calls Tryd.prog 47 #[.string x, .pointer (some ⟨p1, 0, none⟩), .pointer (some ⟨p2, 0, none⟩)] W fun e w' => e = .returned (.bool (pr x)) ∧ Below W.heap.size W w') :
    Calls Tryd.prog 65 #[.slice A n c, fvB p1 p2] w (IdxP (l.any pr) w) := by
  have H := Lib.hid h
  have HCC := Lib.hid hC
  clear h hC
  go_enter Tryd.func65, Tryd.ntmps65
  go_wp2_with fail
  go_loopw [5, 8] (fun _ i wr => ∃ k : Nat, i = .int .i64 (k : Int) ∧ k ≤ n ∧ Hid ((l.take k).any pr = false) ∧ Below w.heap.size w wr) (fun _ i _ => n - (intOf i).toNat)
  case atStart => exact ⟨0, rfl, Nat.zero_le _, Lib.hid rfl, Below.refl _ _⟩
  case round =>
    obtain ⟨k, rfl, hk, HN, hb⟩ := hrel
    have HB := Lib.hid hb
    clear hb
    by_cases hlt : k < n
    · have hd1 : decide ((k : Int) < (n : Int)) = true := decide_eq_true (by omega)
      have hi0 : (0 : Int) ≤ (k : Int) := by omega
      obtain ⟨b, off, hl2, rfl, hbb, hcell⟩ := (H.out.below HB.out).at hlt
      have HT := Lib.hid (any_snocF pr l k hl2)
      have HA := Lib.hid (any_at pr l k hl2)
      have hmem := List.getElem_mem hl2
      obtain ⟨x, hx⟩ : ∃ x, x = l[k] := ⟨_, rfl⟩
      rw [← hx] at HT HA hmem
      have c0 := hcell 0 (.string l[k]) rfl
      rw [← hx, Nat.mul_one, Nat.add_zero] at c0
      clear hcell hx
      have HC := HCC.out x wr hmem HB.out
      obtain ⟨z, hz⟩ : ∃ z, z = pr x := ⟨_, rfl⟩
      rw [← hz] at HT HA HC
      have HC := Lib.hid HC
      clear hz hmem
      go_wp2_with fail
      refine HC.out.mono ?_
      rintro e w1 ⟨rfl, hb1⟩
      have HB1 := Lib.hid (HB.out.trans (hb1.mono HB.out.size))
      clear hb1
      cases z with
      | true =>
        go_wp2_with fail
        go_ret
        exact ⟨(k : Int), rfl, by rw [HA.out (by first | rfl | trivial)]; exact decide_eq_true (by omega), HB1.out⟩
      | false =>
        go_wp2_with fail
        go_roundw
        case rel => exact ⟨k + 1, by go_num, by omega, Lib.hid (by rw [HT.out, HN.out]; rfl), HB1.out⟩
        case measure => simp [intOf] <;> omega
    · have hd1 : decide ((k : Int) < (n : Int)) = false := decide_eq_false (by omega)
      have HE := Lib.hid (show l.take k = l from List.take_of_length_le (by have := H.out.1; omega))
      go_wp2_with fail
      go_ret
      exact ⟨-1, rfl, by rw [← HE.out, HN.out]; rfl, HB.out⟩
set_option maxRecDepth 100000 in
theorem cfB_any (A : Option Addr) (n c : Nat) (l : List ByteArray) (pr : ByteArray → Bool) (p1 p2 : Nat) (w : World) (h : RdX stC 1 w A n l) (hn : n ≤ 100000)
    (hC : ∀ (x : ByteArray) (W : World), x ∈ l → Below w.heap.size w W → Calls Tryd.prog 47 #[.string x, .pointer (some ⟨p1, 0, none⟩), .pointer (some ⟨p2, 0, none⟩)] W fun e w' => e = .returned (.bool (pr x)) ∧ Below W.heap.size W w') :
    Calls Tryd.prog 46 #[.slice A n c, fvB p1 p2] w (RetBl (l.any pr) w) := by
  have HC := Lib.hid (ixB_any A n c l pr p1 p2 w h hn hC)
  clear h hC
  go_enter Tryd.func46, Tryd.ntmps46
  go_wp2_with fail
  refine HC.out.mono ?_
  rintro e w1 ⟨r, rfl, hr, hb1⟩
  have HB1 := Lib.hid hb1
  have HR := Lib.hid hr
  clear hb1 hr
  go_wp2_with fail
  go_ret
  exact ⟨cm_retB HR.out, HB1.out⟩
set_option maxRecDepth 100000 in
set_option maxHeartbeats 2000000 in
theorem f1_any (p1 : Nat) (k : Int) (A : Option Addr) (n c : Nat) (P : List ByteArray) (g t : ByteArray) (R : Nat) (pr : ByteArray → Bool) (w : World) (h : RdX stC 1 w A n P) (hn : n ≤ 100000) (h1 : w.heap[p1]? = some (.cells #[.pointer (some ⟨R, 0, none⟩)] 55 (0, 0)))
    (hC : ∀ (x : ByteArray) (W : World), x ∈ P → Below w.heap.size w W → ∃ nm, pr x = decide (k ≤ nm) ∧ ∀ W', Below W.heap.size W W' → Calls Tryd.prog 48 #[.pointer (some ⟨R, 0, none⟩), .string x] W' fun e w' => e = .returned (.int .i64 nm) ∧ Below W'.heap.size W' w') :
    Calls Tryd.prog 45 #[.agg #[.int .i64 k, .slice A n c, .string g, .string t], .pointer (some ⟨p1, 0, none⟩)] w (RetBl (P.any pr) w) := by
  have hb0 : Below w.heap.size w (w.alloc (.cells #[.int .i64 k, .slice A n c, .string g, .string t] 41 (0, 0))) := (Below.refl _ _).alloc (Nat.le_refl _) _
  have HB := Lib.hid hb0
  have HF := Lib.hid (blk_new w (.cells #[.int .i64 k, .slice A n c, .string g, .string t] 41 (0, 0)))
  have HC := Lib.hid (cfB_any A n c P pr p1 w.heap.size (w.alloc (.cells #[.int .i64 k, .slice A n c, .string g, .string t] 41 (0, 0))) (h.below hb0) hn (fun x W hx hb => by
    obtain ⟨nm, e, hq⟩ := hC x W hx (hb0.trans (hb.mono hb0.size))
    rw [e]
    exact f11_any x R p1 w.heap.size k nm A n c g t W (blk_below (blk_below h1 hb0) hb) (blk_below (blk_new w (.cells #[.int .i64 k, .slice A n c, .string g, .string t] 41 (0, 0))) hb) hq))
  have y1 : (w.alloc (.cells #[.int .i64 k, .slice A n c, .string g, .string t] 41 (0, 0))).cell? ⟨w.heap.size, 1, none⟩ = some (.slice A n c) := (cell_of_row _ _ 1 _ _ _ HF.out).trans rfl
  clear h h1 hC hb0
  go_enter Tryd.func45, Tryd.ntmps45
  go_wp2_with fail
  clear y1
  refine HC.out.mono ?_
  rintro e w1 ⟨rfl, hb⟩
  have HB := Lib.hid (HB.out.trans (hb.mono HB.out.size))
  clear hb
  go_wp2_with fail
  go_ret
  exact ⟨rfl, HB.out⟩
set_option maxRecDepth 100000 in
set_option maxHeartbeats 4000000 in
theorem ixA_any (A : Option Addr) (n c : Nat) (rcs : List RC) (acc : List Nc) (pr : Nc → Bool) (p1 : Nat) (w : World) (h : RdX rcC 4 w A n rcs) (hl : rcs.length = acc.length) (hn : n ≤ 100000)
    (hC : ∀ (i : Nat) (x : RC) (a : Nc) (W : World), rcs[i]? = some x → acc[i]? = some a → Below w.heap.size w W → Calls Tryd.prog 45 #[.agg #[.int .i64 x.1, .slice x.2.1.1 x.2.1.2.1 x.2.1.2.2, .string x.2.2.1, .string x.2.2.2], .pointer (some ⟨p1, 0, none⟩)] W (RetBl (pr a) W)) :
    Calls Tryd.prog 64 #[.slice A n c, fvA p1] w (IdxP (acc.any pr) w) := by
  have H := Lib.hid h
  have HCC := Lib.hid hC
  clear h hC
  go_enter Tryd.func64, Tryd.ntmps64
  go_wp2_with fail
  go_loopw [5, 8] (fun _ i wr => ∃ k : Nat, i = .int .i64 (k : Int) ∧ k ≤ n ∧ Hid ((acc.take k).any pr = false) ∧ Below w.heap.size w wr) (fun _ i _ => n - (intOf i).toNat)
  case atStart => exact ⟨0, rfl, Nat.zero_le _, Lib.hid rfl, Below.refl _ _⟩
  case round =>
    obtain ⟨k, rfl, hk, HN, hb⟩ := hrel
    have HB := Lib.hid hb
    clear hb
    by_cases hlt : k < n
    · have hd1 : decide ((k : Int) < (n : Int)) = true := decide_eq_true (by omega)
      have hi0 : (0 : Int) ≤ (k : Int) := by omega
      obtain ⟨b, off, hl2, rfl, hbb, hcell⟩ := (H.out.below HB.out).at hlt
      have hl3 : k < acc.length := by omega
      have HT := Lib.hid (any_snocF pr acc k hl3)
      have HA := Lib.hid (any_at pr acc k hl3)
      have HC := HCC.out k rcs[k] acc[k] wr (List.getElem?_eq_getElem hl2) (List.getElem?_eq_getElem hl3) HB.out
      have c0 := hcell 0 _ rfl
      have c1 := hcell 1 _ rfl
      have c2 := hcell 2 _ rfl
      have c3 := hcell 3 _ rfl
      rw [Nat.add_zero] at c0
      obtain ⟨⟨x1, ⟨x2, x3, x4⟩, x5, x6⟩, hx⟩ : ∃ x, x = rcs[k] := ⟨_, rfl⟩
      rw [← hx] at HC c0 c1 c2 c3
      simp only at HC c0 c1 c2 c3
      obtain ⟨z, hz⟩ : ∃ z, z = pr acc[k] := ⟨_, rfl⟩
      rw [← hz] at HT HA HC
      have HC := Lib.hid HC
      clear hz hx hcell
      go_wp2_with fail
      refine HC.out.mono ?_
      rintro e w1 ⟨rfl, hb1⟩
      have HB1 := Lib.hid (HB.out.trans (hb1.mono HB.out.size))
      clear hb1
      cases z with
      | true =>
        go_wp2_with fail
        go_ret
        exact ⟨(k : Int), rfl, by rw [HA.out (by first | rfl | trivial)]; exact decide_eq_true (by omega), HB1.out⟩
      | false =>
        go_wp2_with fail
        go_roundw
        case rel => exact ⟨k + 1, by go_num, by omega, Lib.hid (by rw [HT.out, HN.out]; rfl), HB1.out⟩
        case measure => simp [intOf] <;> omega
    · have hd1 : decide ((k : Int) < (n : Int)) = false := decide_eq_false (by omega)
      have HE := Lib.hid (show acc.take k = acc from List.take_of_length_le (by have := H.out.1; omega))
      go_wp2_with fail
      go_ret
      exact ⟨-1, rfl, by rw [← HE.out, HN.out]; rfl, HB.out⟩
set_option maxRecDepth 100000 in
theorem cfA_any (A : Option Addr) (n c : Nat) (rcs : List RC) (acc : List Nc) (pr : Nc → Bool) (p1 : Nat) (w : World) (h : RdX rcC 4 w A n rcs) (hl : rcs.length = acc.length) (hn : n ≤ 100000)
    (hC : ∀ (i : Nat) (x : RC) (a : Nc) (W : World), rcs[i]? = some x → acc[i]? = some a → Below w.heap.size w W → Calls Tryd.prog 45 #[.agg #[.int .i64 x.1, .slice x.2.1.1 x.2.1.2.1 x.2.1.2.2, .string x.2.2.1, .string x.2.2.2], .pointer (some ⟨p1, 0, none⟩)] W (RetBl (pr a) W)) :
    Calls Tryd.prog 44 #[.slice A n c, fvA p1] w (RetBl (acc.any pr) w) := by
  have HC := Lib.hid (ixA_any A n c rcs acc pr p1 w h hl hn hC)
  clear h hC
  go_enter Tryd.func44, Tryd.ntmps44
  go_wp2_with fail
  refine HC.out.mono ?_
  rintro e w1 ⟨r, rfl, hr, hb1⟩
  have HB1 := Lib.hid hb1
  have HR := Lib.hid hr
  clear hb1 hr
  go_wp2_with fail
  go_ret
  exact ⟨cm_retB HR.out, HB1.out⟩
/-- the number of a commit that is there -/
noncomputable def nmC (L : List Ob) (p : ByteArray) : Int := ((ldC L p).map (·.k)).getD 0
/-- does no parent's number reach that of what comes of it? -/
noncomputable def fallsC (L : List Ob) (acc : List Nc) : Bool := !(acc.any fun c => c.2.P.any fun p => decide (c.2.k ≤ nmC L p))
theorem posC_of {acc : List Nc} {p : ByteArray} (h : p ∈ acc.map (·.1)) : ∃ (i : Nat) (hi : i < acc.length), posC acc p = some (i : Int) ∧ acc[i].1 = p := by
  cases hp : posC acc p with
  | none =>
    obtain ⟨x, hx, rfl⟩ := List.mem_map.1 h
    exact absurd rfl (posC_none hp x hx)
  | some j =>
    obtain ⟨i, hi, rfl, e⟩ := posC_some hp
    exact ⟨i, hi, rfl, e⟩
section
variable {w : World} {D R : Nat} {acc : List Nc} {rcs : List RC} {L : List Ob}
theorem numL_any (p : ByteArray) (h : Rw D R acc rcs w) (hp : p.size ≤ maxLen) (hok : AccOk (ldC L) acc) (hm : p ∈ acc.map (·.1)) :
    Calls Tryd.prog 48 #[.pointer (some ⟨R, 0, none⟩), .string p] w fun e w' => e = .returned (.int .i64 (nmC L p)) ∧ Below w.heap.size w w' := by
  obtain ⟨i, hi, e1, e2⟩ := posC_of hm
  have hi2 : i < rcs.length := by rw [h.len]; exact hi
  have q := num_any p h hp i rcs[i] (List.getElem?_eq_getElem hi2) e1
  have e3 : rcs[i].1 = nmC L p := by
    rw [(h.at' i _ _ (List.getElem?_eq_getElem hi2) (List.getElem?_eq_getElem hi)).k]
    unfold nmC
    rw [← e2, hok.ld _ (List.getElem_mem hi)]
    rfl
  rw [e3] at q
  exact q
set_option maxRecDepth 100000 in
set_option maxHeartbeats 4000000 in
theorem falls_any (h : Rw D R acc rcs w) (hok : AccOk (ldC L) acc) (hla : acc.length ≤ 100000) (hcl : ∀ c ∈ acc, ∀ p ∈ c.2.P, p ∈ acc.map (·.1)) (hz : ∀ c ∈ acc, ∀ p ∈ c.2.P, p.size ≤ maxLen) (hpn : ∀ c ∈ acc, c.2.P.length ≤ 100000) :
    Calls Tryd.prog 32 #[.pointer (some ⟨R, 0, none⟩)] w (RetBl (fallsC L acc) w) := by
  have hb0 : Below w.heap.size w (w.alloc (.cells #[.pointer (some ⟨R, 0, none⟩)] 55 (0, 0))) := (Below.refl _ _).alloc (Nat.le_refl _) _
  have HB := Lib.hid hb0
  have hR := h.kept hb0
  obtain ⟨na, nn, nc, ca, cn, cc, B, h1, h2, h3, h4⟩ := hR.box
  obtain ⟨_, _, x2, _⟩ := rw_cells h1
  obtain ⟨A', c', e, hr, _, _⟩ := h3.rd rcC_len
  injection e with e1 e2 e3
  subst e1 e2 e3
  have y0 : (w.alloc (.cells #[.pointer (some ⟨R, 0, none⟩)] 55 (0, 0))).cell? ⟨w.heap.size, 0, none⟩ = some (.pointer (some ⟨R, 0, none⟩)) := (cell_of_row _ _ 0 _ _ _ (blk_new w (.cells #[.pointer (some ⟨R, 0, none⟩)] 55 (0, 0)))).trans rfl
  have HC := Lib.hid (cfA_any ca rcs.length cc rcs acc (fun c => c.2.P.any fun p => decide (c.2.k ≤ nmC L p)) w.heap.size (w.alloc (.cells #[.pointer (some ⟨R, 0, none⟩)] 55 (0, 0))) hr h.len (by rw [h.len]; exact hla) (fun i x a W hx ha hb => by
    have hRW := hR.kept hb
    have hI := hRW.at' i x a hx ha
    have hma := List.mem_of_getElem? ha
    have q := f1_any w.heap.size x.1 x.2.1.1 x.2.1.2.1 x.2.1.2.2 a.2.P x.2.2.1 x.2.2.2 R (fun p => decide (a.2.k ≤ nmC L p)) W hI.r (by rw [← hI.r.1]; exact hpn a hma) (blk_below (blk_new w (.cells #[.pointer (some ⟨R, 0, none⟩)] 55 (0, 0))) hb) (fun p W1 hp hb1 => ⟨nmC L p, by rw [hI.k], fun W2 hb2 => numL_any p ((hRW.kept hb1).kept hb2) (hz a hma p hp) hok (hcl a hma p hp)⟩)
    exact q))
  have HE := Lib.hid (show (!(acc.any fun c => c.2.P.any fun p => decide (c.2.k ≤ nmC L p))) = fallsC L acc from rfl)
  generalize (acc.any fun c => c.2.P.any fun p => decide (c.2.k ≤ nmC L p)) = bb at HC HE
  clear h hok hcl hz hpn hb0 hR h1 h2 h3 h4 hr
  go_enter Tryd.func32, Tryd.ntmps32
  go_wp2_with fail
  clear y0 x2
  refine HC.out.mono ?_
  rintro e w1 ⟨rfl, hb⟩
  have HB := Lib.hid (HB.out.trans (hb.mono HB.out.size))
  clear hb
  go_wp2_with fail
  go_ret
  exact ⟨cm_retB HE.out, HB.out⟩
end
end Go.Proofs.YtiflieaemgamkaaDoor

namespace Go.Proofs.YtiflieaemgamkaaDoor
open Go.RowKit Vi

/-- the walk as a plain function: what is met, and why no more is told -/
noncomputable def wlC (L : List Ob) (ns : List ByteArray) : List Nc × Bool := wkC (ldC L) 100 0 (eaC (ldC L) ns [])
noncomputable def bkC (L : List Ob) (ns : List ByteArray) : Int := if (wlC L ns).2 = true then (if fallsC L (wlC L ns).1 = true then 0 else 16) else 13
/-- from the j-th on the walk goes on: what those ahead of it come of is met -/
structure WkOk (ld : ByteArray → Option Cm) (j : Nat) (a : List Nc × Bool) : Prop where
  ok : AccOk ld a.1
  cl : a.2 = true → ∀ i c, i < j → a.1[i]? = some c → ∀ p ∈ c.2.P, p ∈ a.1.map (·.1)
theorem cm_par {L : List Ob} {s : ByteArray} {c : Cm} (h : ldC L s = some c) : c.P.length ≤ 2 ∧ ∀ p ∈ c.P, p.size = 32 := by
  by_cases q : ∃ c : Cm, cmok c.k c.P c.g c.t = true ∧ (getO L s).getD ⟨#[]⟩ = cmT c.k c.P c.g c.t
  · obtain ⟨⟨k, P, g, t⟩, h1, h2⟩ := q
    rw [ldC_yes h1 h2] at h
    cases h
    exact ⟨(cmok_of h1).n, (cmok_of h1).p⟩
  · rw [ldC_no (fun k P g t a b => q ⟨⟨k, P, g, t⟩, a, b⟩)] at h
    cases h
theorem pre_getC {α : Type} {a b : List α} (h : a <+: b) {i : Nat} {x : α} (hx : a[i]? = some x) : b[i]? = some x := by
  obtain ⟨r, rfl⟩ := h
  rw [List.getElem?_append_left (List.getElem?_eq_some_iff.1 hx).1]
  exact hx
theorem WkOk.step {ld : ByteArray → Option Cm} {j : Nat} {a : List Nc} {x : Nc} (h : WkOk ld j (a, true)) (hx : a[j]? = some x) : WkOk ld (j + 1) (eaC ld x.2.P a) := by
  obtain ⟨g1, g2, g3⟩ := AccOk.ea x.2.P h.ok
  refine ⟨g1, fun e i c hi hc p hp => ?_⟩
  rcases Nat.lt_or_ge i j with q | q
  · have hil : i < a.length := Nat.lt_trans q (List.getElem?_eq_some_iff.1 hx).1
    have hc2 := pre_getC g2 (List.getElem?_eq_getElem hil)
    rw [hc] at hc2
    cases hc2
    obtain ⟨y, hy, rfl⟩ := List.mem_map.1 (h.cl rfl i _ q (List.getElem?_eq_getElem hil) p hp)
    exact List.mem_map.2 ⟨y, g2.subset hy, rfl⟩
  · obtain rfl : i = j := by omega
    have hc2 := pre_getC g2 hx
    rw [hc] at hc2
    cases hc2
    exact g3 e p hp
section
variable {w0 w : World} {D R : Nat} {acc : List Nc} {rcs : List RC} {L : List Ob} {c0 c1 : ByteArray} {z : Nat}
/-- what the walk leaves -/
def WlkP (D : Nat) (a : List Nc) (e2 : Int) (w : World) (e : Ending) (w' : World) : Prop := ∃ R rcs, e = .returned (.tuple #[.pointer (some ⟨R, 0, none⟩), .int .i64 e2]) ∧ RX w.heap.size w D R a rcs w'
set_option maxRecDepth 100000 in
set_option maxHeartbeats 8000000 in
theorem walk_any (A : Option Addr) (n c : Nat) (ns : List ByteArray) (hS : SK D L c0 c1 z w) (hr : RdX stC 1 w A n ns) (hn : n ≤ 100000) (hz : ∀ s ∈ ns, s.size ≤ maxLen) (hll : L.length ≤ 90) (hL : ∀ s, ((getO L s).getD ⟨#[]⟩).size ≤ 1000000) :
    Calls Tryd.prog 18 #[.pointer (some ⟨D, 0, none⟩), .slice A n c] w (WlkP D (wlC L ns).1 (bkC L ns) w) := by
  obtain ⟨ZZ, hZZ⟩ : ∃ ZZ, ZZ = wlC L ns := ⟨_, rfl⟩
  have HZ := Lib.hid hZZ
  have HBK := Lib.hid (show bkC L ns = if ZZ.2 = true then (if fallsC L ZZ.1 = true then 0 else 16) else 13 by rw [hZZ]; rfl)
  rw [← hZZ]
  generalize bkC L ns = bk at HBK ⊢
  clear hZZ
  have HB1 := Lib.hid ((Below.refl w.heap.size w).alloc (Nat.le_refl _) (.map #[] 0))
  have HB2 := Lib.hid (HB1.out.alloc (by simp) (.cells #[.pointer (some ⟨D, 0, none⟩), .slice none 0 0, .slice none 0 0, .map (some w.heap.size)] 59 (0, 0)))
  have HD := Lib.hid (show ((w.alloc (.map #[] 0)).alloc (.cells #[.pointer (some ⟨D, 0, none⟩), .slice none 0 0, .slice none 0 0, .map (some w.heap.size)] 59 (0, 0))).heap[w.heap.size + 1]? = some (rwO D none 0 0 none 0 0 w.heap.size) by
    have q := blk_new (w.alloc (.map #[] 0)) (.cells #[.pointer (some ⟨D, 0, none⟩), .slice none 0 0, .slice none 0 0, .map (some w.heap.size)] 59 (0, 0)); simpa [rwO] using q)
  have HM := Lib.hid (((MapI.made w).of (g := posC []) (fun _ => rfl)).kept (w' := (w.alloc (.map #[] 0)).alloc (.cells #[.pointer (some ⟨D, 0, none⟩), .slice none 0 0, .slice none 0 0, .map (some w.heap.size)] 59 (0, 0))) (Below.heap_alloc _ _ _ (by simp)))
  have HRX : Hid (RX w.heap.size w D (w.heap.size + 1) [] [] ((w.alloc (.map #[] 0)).alloc (.cells #[.pointer (some ⟨D, 0, none⟩), .slice none 0 0, .slice none 0 0, .map (some w.heap.size)] 59 (0, 0)))) := Lib.hid ⟨⟨⟨none, 0, 0, none, 0, 0, w.heap.size, HD.out, OwG.nil _, OwG.nil _, HM.out⟩, rfl, fun i x c hx _ => by simp at hx⟩, fun b q => by
    rcases q.cases HD.out with q | ⟨o, q⟩ | ⟨o, q⟩ | q
    · subst q; simp
    · cases q
    · cases q
    · subst q; exact Nat.le_refl _, HB2.out, HB2.out.size⟩
  have hmm := fun W : World => run_makeMap (P := Tryd.prog) 44 W
  have HR := Lib.hid (hr.below HB2.out)
  have HRL := Lib.hid hr
  have HS := Lib.hid hS
  have HZS := Lib.hid hz
  have HL := Lib.hid hL
  clear HB1 HB2 HD HM hr hS hz hL
  go_enter Tryd.func18, Tryd.ntmps18
  go_wp2_with fail
  clear hmm
  generalize (w.alloc (.map #[] 0)).alloc (.cells #[.pointer (some ⟨D, 0, none⟩), .slice none 0 0, .slice none 0 0, .map (some w.heap.size)] 59 (0, 0)) = v at *
  refine (each_any A n c ns HRX.out HS.out HR.out hn (fun b o e hn2 q => by
    have h1 := HRL.out.ltC e hn2
    have h2 := HRX.out.far b q
    omega) HZS.out AccOk.nil (by omega) HL.out).mono ?_
  rintro e w1 ⟨rfl, rs1, hx1, _⟩
  have HX1 := Lib.hid hx1
  have HA1 := Lib.hid (AccOk.ea (ld := ldC L) ns AccOk.nil).1
  have HZ1 := Lib.hid (show wkC (ldC L) 100 0 (eaC (ldC L) ns []) = ZZ from HZ.out.symm)
  generalize eaC (ldC L) ns [] = y at *
  clear hx1 HRX HR HRL HZ HZS
  go_upto_region 3 with (fail)
  go_wp2_with fail
  go_loopw [7, 8] (fun e i wr => ∃ (j : Nat) (a : List Nc) (b : Bool) (rs : List RC), e = .int .i64 (erC b) ∧ i = .int .i64 (j : Int) ∧ j ≤ 100 ∧ Hid (wkC (ldC L) (100 - j) j (a, b) = ZZ) ∧ Hid (WkOk (ldC L) j (a, b)) ∧ Hid (RX w.heap.size w D (w.heap.size + 1) a rs wr)) (fun _ i _ => 100 - (intOf i).toNat)
  case atStart => exact ⟨0, y.1, y.2, rs1, rfl, rfl, Nat.zero_le _, HZ1, Lib.hid ⟨HA1.out, fun _ i c hi => by omega⟩, HX1⟩
  case round =>
    obtain ⟨j, a, b, rs, rfl, rfl, hj, HE, HO, HXr⟩ := hrel
    clear HX1 HA1 HZ1
    have hal := HO.out.ok.len
    have hrl := HXr.out.rw.len
    simp only at hal
    obtain ⟨na, nn, nc, ca, cn, cc, B, h1, h2, h3, h4⟩ := HXr.out.rw.box
    obtain ⟨_, _, x2, _⟩ := rw_cells h1
    obtain ⟨A', c', e, hr, _, _⟩ := h3.rd rcC_len
    injection e with e1 e2 e3
    subst e1 e2 e3
    have HRR := Lib.hid hr
    have HRB := Lib.hid h1
    clear h1 h2 h3 h4 hr
    cases b with
    | true =>
      by_cases hlt : j < a.length
      · have hd1 : decide ((j : Int) < (rs.length : Int)) = true := decide_eq_true (by omega)
        have hi0 : (0 : Int) ≤ (j : Int) := by omega
        have hi1 : (j : Int) < (rs.length : Int) := by omega
        have ew : IntKind.i64.wrap ((j : Int) + 1) = (j : Int) + 1 := IntWalk.i64_in _ (by omega)
        have hj2 : j < rs.length := by omega
        obtain ⟨bb, off, hl2, rfl, hbb, hcell⟩ := HRR.out.at hj2
        have c1 := hcell 1 _ rfl
        have hI := HXr.out.rw.at' j _ _ (List.getElem?_eq_getElem hl2) (List.getElem?_eq_getElem hlt)
        have HST := Lib.hid (HO.out.step (List.getElem?_eq_getElem hlt))
        have hld := HO.out.ok.ld _ (List.getElem_mem hlt)
        have HP := Lib.hid (cm_par hld)
        have HE2 : Hid (wkC (ldC L) (100 - (j + 1)) (j + 1) (eaC (ldC L) (a[j]).2.P a) = ZZ) := Lib.hid (by
          have y := HE.out
          rw [show 100 - j = (100 - (j + 1)) + 1 by omega, wkC, if_pos rfl, List.getElem?_eq_getElem hlt] at y
          exact y)
        obtain ⟨⟨x1, ⟨x2', x3, x4⟩, x5, x6⟩, hx⟩ : ∃ x, x = rs[j] := ⟨_, rfl⟩
        rw [← hx] at c1 hI
        simp only at c1
        have HI := Lib.hid hI
        have HEA := Lib.hid (each_any x2' x3 x4 (a[j]).2.P HXr.out HS.out hI.r (by have q := hI.r.1; have := HP.out.1; simp only at q; omega) hI.f (fun s hs => by rw [HP.out.2 s hs]; decide) HO.out.ok (by omega) HL.out)
        generalize eaC (ldC L) (a[j]).2.P a = y at HEA HST HE2
        have e0 : erC true = 0 := rfl
        rw [e0]
        clear hI hx hcell hbb HE HO HXr HP hld HI HRR HRB
        go_wp2_with fail
        refine HEA.out.mono ?_
        rintro e w2 ⟨rfl, rs2, hx2, _⟩
        have HX2 := Lib.hid hx2
        clear hx2 HEA x2 c1
        go_wp2_with fail
        go_roundw
        case rel => exact ⟨j + 1, y.1, y.2, rs2, rfl, by go_num, by omega, HE2, HST, HX2⟩
        case measure => simp [intOf] <;> omega
      · have hd1 : decide ((j : Int) < (rs.length : Int)) = false := decide_eq_false (by omega)
        have HZE := Lib.hid (show ZZ = (a, true) from by
          have y := HE.out
          rcases Nat.eq_zero_or_pos (100 - j) with q | q
          · rw [q, wkC] at y; exact y.symm
          · rw [show 100 - j = (100 - (j + 1)) + 1 by omega, wkC, if_pos rfl, List.getElem?_eq_none (Nat.le_of_not_lt hlt)] at y; exact y.symm)
        have HF := Lib.hid (falls_any (L := L) HXr.out.rw HO.out.ok (by omega) (fun c hc p hp => by
          obtain ⟨i, hi, rfl⟩ := List.getElem_of_mem hc
          exact HO.out.cl rfl i _ (Nat.lt_of_lt_of_le hi (Nat.le_of_not_lt hlt)) (List.getElem?_eq_getElem hi) p hp) (fun c hc p hp => by rw [(cm_par (HO.out.ok.ld c hc)).2 p hp]; decide) (fun c hc => by have := (cm_par (HO.out.ok.ld c hc)).1; omega))
        obtain ⟨ff, hff⟩ : ∃ ff, ff = fallsC L a := ⟨_, rfl⟩
        rw [← hff] at HF
        have HFF := Lib.hid hff
        have e0 : erC true = 0 := rfl
        rw [e0]
        clear hff HRR HRB HE
        go_wp2_with fail
        refine HF.out.mono ?_
        rintro e w2 ⟨rfl, hb⟩
        have HX2 := Lib.hid (HXr.out.kept hb)
        clear hb x2
        cases ff with
        | true =>
          have HBK2 := Lib.hid (show bk = 0 by rw [HBK.out, HZE.out]; show (if true = true then (if fallsC L a = true then (0 : Int) else 16) else 13) = 0; rw [← HFF.out]; rfl)
          go_wp2_with fail
          go_ret2
          have hbk := HBK2.out
          subst hbk
          exact ⟨w.heap.size + 1, rs, rfl, by rw [HZE.out]; exact HX2.out⟩
        | false =>
          have HBK2 := Lib.hid (show bk = 16 by rw [HBK.out, HZE.out]; show (if true = true then (if fallsC L a = true then (0 : Int) else 16) else 13) = 16; rw [← HFF.out]; rfl)
          go_wp2_with fail
          go_ret2
          have hbk := HBK2.out
          subst hbk
          exact ⟨w.heap.size + 1, rs, rfl, by rw [HZE.out]; exact HX2.out⟩
    | false =>
      have HZE := Lib.hid (show ZZ = (a, false) from by
        have y := HE.out
        rcases Nat.eq_zero_or_pos (100 - j) with q | q
        · rw [q, wkC] at y; exact y.symm
        · rw [show 100 - j = (100 - (j + 1)) + 1 by omega, wkC, if_neg (by simp)] at y; exact y.symm)
      have HBK2 := Lib.hid (show bk = 13 by rw [HBK.out, HZE.out]; rfl)
      have e0 : erC false = 13 := rfl
      rw [e0]
      clear HRR HRB HE x2
      go_wp2_with fail
      go_ret2
      have hbk := HBK2.out
      subst hbk
      exact ⟨w.heap.size + 1, rs, rfl, by rw [HZE.out]; exact HXr.out⟩
end
end Go.Proofs.YtiflieaemgamkaaDoor
