/- Several texts of one family, merged for a claim. Conditions as in its parts. -/
import Derived.Test.YtpjpegmjcgkonaaIb
import Derived.Test.YtpjpegmjcgkonaaG0
namespace Go.Proofs.Ytpjpegmjcgkonaa
open Go.RowKit

abbrev Cg := Int × ByteArray × ByteArray × Bool × Bool × ByteArray × ByteArray
def cgC (c : Cg) : List Value := [.int .i64 c.1, .string c.2.1, .string c.2.2.1, .bool c.2.2.2.1, .bool c.2.2.2.2.1, .string c.2.2.2.2.2.1, .string c.2.2.2.2.2.2]
theorem cgC_len (c : Cg) : (cgC c).length = 7 := rfl
theorem cgC_one (c : Cg) : ∀ u ∈ cgC c, u.oneCell' = true := by
  intro u hu
  simp only [cgC, List.mem_cons, List.not_mem_nil, or_false] at hu
  rcases hu with rfl | rfl | rfl | rfl | rfl | rfl | rfl <;> rfl
/-- the same Kind, Id and Key -/
def sameK (a b : Fc) : Prop := a.1 = b.1 ∧ a.2.1 = b.2.1 ∧ a.2.2.1 = b.2.2.1
def keyB (a b : Fc) : Bool := decide (a.1 = b.1) && (a.2.1.toList == b.2.1.toList) && (a.2.2.1.toList == b.2.2.1.toList)
theorem keyB_iff (a b : Fc) : keyB a b = true ↔ sameK a b := by
  unfold keyB sameK
  simp only [Bool.and_eq_true, decide_eq_true_eq, beq_iff_eq]
  constructor
  · rintro ⟨⟨h1, h2⟩, h3⟩
    exact ⟨h1, ba_ext h2, ba_ext h3⟩
  · rintro ⟨h1, h2, h3⟩
    exact ⟨⟨h1, by rw [h2]⟩, by rw [h3]⟩
theorem less_iff (a b : Fc) : lessF a b = true ↔ a.1 < b.1 ∨ a.1 = b.1 ∧ (Op.bytesLess a.2.1.toList b.2.1.toList = true ∨ a.2.1 = b.2.1 ∧ Op.bytesLess a.2.2.1.toList b.2.2.1.toList = true) := by
  unfold lessF
  by_cases h1 : a.1 = b.1
  · rw [if_neg (by simpa using h1)]
    by_cases h2 : (a.2.1.toList == b.2.1.toList) = true
    · rw [if_pos h2]
      have e : a.2.1 = b.2.1 := ba_ext (by simpa using h2)
      constructor
      · intro h; exact .inr ⟨h1, .inr ⟨e, h⟩⟩
      · rintro (h | ⟨_, h | ⟨_, h⟩⟩)
        · omega
        · rw [e, bl_irrefl] at h; cases h
        · exact h
    · rw [if_neg h2]
      constructor
      · intro h; exact .inr ⟨h1, .inl h⟩
      · rintro (h | ⟨_, h | ⟨h, _⟩⟩)
        · omega
        · exact h
        · exact absurd (by rw [h]; simp) h2
  · rw [if_pos (by simpa using h1)]
    constructor
    · intro h; exact .inl (by simpa using h)
    · rintro (h | ⟨h, _⟩)
      · simpa using h
      · exact absurd h h1
theorem less_trans {a b c : Fc} (h : lessF a b = true) (k : lessF b c = true) : lessF a c = true := by
  rw [less_iff] at *
  rcases h with h | ⟨h1, h | ⟨h2, h⟩⟩ <;> rcases k with k | ⟨k1, k | ⟨k2, k⟩⟩
  · exact .inl (by omega)
  · exact .inl (by omega)
  · exact .inl (by omega)
  · exact .inl (by omega)
  · exact .inr ⟨by omega, .inl (bl_trans _ _ _ h k)⟩
  · exact .inr ⟨by omega, .inl (by rw [← k2]; exact h)⟩
  · exact .inl (by omega)
  · exact .inr ⟨by omega, .inl (by rw [h2]; exact k)⟩
  · exact .inr ⟨by omega, .inr ⟨h2.trans k2, bl_trans _ _ _ h k⟩⟩
theorem less_irr {a b : Fc} (h : sameK a b) : lessF a b = false := by
  cases q : lessF a b with
  | false => rfl
  | true =>
    rw [less_iff] at q
    obtain ⟨h1, h2, h3⟩ := h
    rcases q with q | ⟨_, q | ⟨_, q⟩⟩
    · omega
    · rw [h2, bl_irrefl] at q; cases q
    · rw [h3, bl_irrefl] at q; cases q
theorem less_not {a b : Fc} (h : lessF a b = true) : ¬ sameK a b ∧ ¬ sameK b a := ⟨fun q => (by rw [less_irr q] at h; cases h), fun q => (by rw [less_irr ⟨q.1.symm, q.2.1.symm, q.2.2.symm⟩] at h; cases h)⟩
theorem less_tot {a b : Fc} (h : lessF a b = false) (k : lessF b a = false) : sameK a b := by
  have h' : ¬ (lessF a b = true) := by rw [h]; simp
  have k' : ¬ (lessF b a = true) := by rw [k]; simp
  rw [less_iff] at h' k'
  have e1 : a.1 = b.1 := by omega
  have e2 : a.2.1 = b.2.1 := by
    refine ba_ext (bl_total _ _ ?_ ?_)
    · cases q : Op.bytesLess a.2.1.toList b.2.1.toList with
      | false => rfl
      | true => exact absurd (.inr ⟨e1, .inl q⟩) h'
    · cases q : Op.bytesLess b.2.1.toList a.2.1.toList with
      | false => rfl
      | true => exact absurd (.inr ⟨e1.symm, .inl q⟩) k'
  refine ⟨e1, e2, ba_ext (bl_total _ _ ?_ ?_)⟩
  · cases q : Op.bytesLess a.2.2.1.toList b.2.2.1.toList with
    | false => rfl
    | true => exact absurd (.inr ⟨e1, .inr ⟨e2, q⟩⟩) h'
  · cases q : Op.bytesLess b.2.2.1.toList a.2.2.1.toList with
    | false => rfl
    | true => exact absurd (.inr ⟨e1.symm, .inr ⟨e2.symm, q⟩⟩) k'
theorem cmpI_flipD (a b : Int) : cmpI b a = - cmpI a b := by
  unfold cmpI
  split <;> split <;> (try split) <;> omega
theorem cmpS_flipD (s t : ByteArray) : cmpS t s = - cmpS s t := by
  unfold cmpS
  cases h1 : Op.bytesLess s.toList t.toList <;> cases h2 : Op.bytesLess t.toList s.toList
  · rfl
  · rfl
  · rfl
  · exact absurd (bl_trans _ _ _ h1 h2) (by rw [bl_irrefl]; simp)
theorem orL3D (p q r : Int) : orL [-p, -q, -r] = - orL [p, q, r] := by
  by_cases hp : p = 0 <;> by_cases hq : q = 0 <;> by_cases hr : r = 0 <;> simp [orL, hp, hq, hr]
theorem cmpF_flipD (a b : Fc) : cmpF b a = - cmpF a b := by
  unfold cmpF
  rw [cmpI_flipD a.1 b.1, cmpS_flipD a.2.1 b.2.1, cmpS_flipD a.2.2.1 b.2.2.1]
  exact orL3D _ _ _
theorem cmpF_gt (a b : Fc) : 0 < cmpF a b ↔ lessF b a = true := by
  rw [← cmpF_lt b a, cmpF_flipD a b]
  omega
theorem cmpF_eq (a b : Fc) (h1 : ¬ cmpF a b < 0) (h2 : ¬ 0 < cmpF a b) : sameK a b := by
  rw [cmpF_lt] at h1
  rw [cmpF_gt] at h2
  exact less_tot (by simpa using h1) (by simpa using h2)
/-- rows that rise -/
abbrev Rs (l : List Fc) : Prop := l.Pairwise fun a b => lessF a b = true
theorem rs_of : ∀ {l : List Fc}, risesF l = true → Rs l
  | [], _ => List.Pairwise.nil
  | [a], _ => by simp
  | a :: b :: r, h => by
    unfold risesF at h
    rw [Bool.and_eq_true] at h
    have ih := rs_of h.2
    refine List.pairwise_cons.2 ⟨fun c hc => ?_, ih⟩
    rcases List.mem_cons.1 hc with rfl | hc
    · exact h.1
    · exact less_trans h.1 ((List.pairwise_cons.1 ih).1 c hc)
/-- two rows, gone through at once -/
def meetL {X Y : Type} (cmp : X → Y → Int) : List X → List Y → List (Option X × Option Y)
  | [], ys => ys.map fun y => (none, some y)
  | x :: xs, [] => (x :: xs).map fun x => (some x, none)
  | x :: xs, y :: ys => if cmp x y < 0 then (some x, none) :: meetL cmp xs (y :: ys) else if 0 < cmp x y then (none, some y) :: meetL cmp (x :: xs) ys else (some x, some y) :: meetL cmp xs ys
termination_by xs ys => xs.length + ys.length
section
variable {X Y : Type} {cmp : X → Y → Int}
theorem meet_nil (ys : List Y) : meetL cmp [] ys = ys.map fun y => (none, some y) := by rw [meetL]
theorem meet_nil2 (xs : List X) : meetL cmp xs [] = xs.map fun x => (some x, (none : Option Y)) := by cases xs <;> rw [meetL] <;> rfl
theorem meet_lt {x : X} {y : Y} (xs : List X) (ys : List Y) (h : cmp x y < 0) : meetL cmp (x :: xs) (y :: ys) = (some x, none) :: meetL cmp xs (y :: ys) := by rw [meetL, if_pos h]
theorem meet_gt {x : X} {y : Y} (xs : List X) (ys : List Y) (h : 0 < cmp x y) : meetL cmp (x :: xs) (y :: ys) = (none, some y) :: meetL cmp (x :: xs) ys := by rw [meetL, if_neg (by omega), if_pos h]
theorem meet_eq {x : X} {y : Y} (xs : List X) (ys : List Y) (h1 : ¬ cmp x y < 0) (h2 : ¬ 0 < cmp x y) : meetL cmp (x :: xs) (y :: ys) = (some x, some y) :: meetL cmp xs ys := by rw [meetL, if_neg h1, if_neg h2]
end
/-- the fact at a place: the first row's, or the second's -/
def ptF : Option Fc × Option Fc → Fc
  | (some x, _) => x
  | (none, some y) => y
  | (none, none) => (0, ⟨#[]⟩, ⟨#[]⟩, ⟨#[]⟩)
def findK (l : List Fc) (f : Fc) : Option Fc := l.find? fun x => keyB x f
theorem findK_skip {x f : Fc} {l : List Fc} (h : ¬ sameK x f) : findK (x :: l) f = findK l f := by
  unfold findK
  rw [List.find?_cons_of_neg]
  rw [keyB_iff]
  exact h
theorem findK_hit {x f : Fc} {l : List Fc} (h : sameK x f) : findK (x :: l) f = some x := by
  unfold findK
  rw [List.find?_cons_of_pos]
  rw [keyB_iff]
  exact h
theorem findK_none {f : Fc} : ∀ {l : List Fc}, (∀ x ∈ l, ¬ sameK x f) → findK l f = none
  | [], _ => rfl
  | x :: l, h => by rw [findK_skip (h x (List.mem_cons_self ..))]; exact findK_none fun y hy => h y (List.mem_cons_of_mem _ hy)
theorem findK_self {f : Fc} : ∀ {l : List Fc}, Rs l → f ∈ l → findK l f = some f
  | x :: l, h, hf => by
    rcases List.mem_cons.1 hf with rfl | hf
    · exact findK_hit ⟨rfl, rfl, rfl⟩
    · rw [findK_skip (less_not ((List.pairwise_cons.1 h).1 f hf)).1]
      exact findK_self (List.pairwise_cons.1 h).2 hf
theorem findK_cong {f g : Fc} (h : sameK f g) (l : List Fc) : findK l f = findK l g := by
  unfold findK
  congr 1
  funext x
  have : keyB x f = true ↔ keyB x g = true := by
    rw [keyB_iff, keyB_iff]
    exact ⟨fun q => ⟨q.1.trans h.1, q.2.1.trans h.2.1, q.2.2.trans h.2.2⟩, fun q => ⟨q.1.trans h.1.symm, q.2.1.trans h.2.1.symm, q.2.2.trans h.2.2.symm⟩⟩
  cases h1 : keyB x f <;> cases h2 : keyB x g <;> simp_all
/-- each place of two rows that rise: what is met there is what each of them has there -/
theorem meet_find : ∀ (n : Nat) (a b : List Fc), a.length + b.length ≤ n → Rs a → Rs b → ∀ p ∈ meetL cmpF a b, findK a (ptF p) = p.1 ∧ findK b (ptF p) = p.2 ∧ (ptF p ∈ a ∨ ptF p ∈ b) ∧ (p.1 ≠ none ∨ p.2 ≠ none)
  | n, [], b, _, _, hb, p, hp => by
    rw [meet_nil] at hp
    obtain ⟨y, hy, rfl⟩ := List.mem_map.1 hp
    exact ⟨rfl, findK_self hb hy, .inr hy, .inr (by simp)⟩
  | n, x :: a, [], _, ha, _, p, hp => by
    rw [meet_nil2] at hp
    obtain ⟨y, hy, rfl⟩ := List.mem_map.1 hp
    exact ⟨findK_self ha hy, rfl, .inl hy, .inl (by simp)⟩
  | 0, x :: a, y :: b, hn, _, _, _, _ => by simp at hn
  | n + 1, x :: a, y :: b, hn, ha, hb, p, hp => by
    have ha' := List.pairwise_cons.1 ha
    have hb' := List.pairwise_cons.1 hb
    by_cases h1 : cmpF x y < 0
    · have hxy := (cmpF_lt x y).1 h1
      rw [meet_lt _ _ h1] at hp
      rcases List.mem_cons.1 hp with rfl | hp
      · refine ⟨findK_hit ⟨rfl, rfl, rfl⟩, findK_none fun z hz => ?_, .inl (List.mem_cons_self ..), .inl (by simp)⟩
        rcases List.mem_cons.1 hz with rfl | hz
        · exact (less_not hxy).2
        · exact (less_not (less_trans hxy (hb'.1 z hz))).2
      · obtain ⟨q1, q2, q3, q4⟩ := meet_find n a (y :: b) (by simp at hn ⊢; omega) ha'.2 hb p hp
        refine ⟨?_, q2, q3.imp (List.mem_cons_of_mem _) id, q4⟩
        rw [findK_skip]
        · exact q1
        · rcases q3 with q | q
          · exact (less_not (ha'.1 _ q)).1
          · rcases List.mem_cons.1 q with q | q
            · rw [q]; exact (less_not hxy).1
            · exact (less_not (less_trans hxy (hb'.1 _ q))).1
    · by_cases h2 : 0 < cmpF x y
      · have hyx := (cmpF_gt x y).1 h2
        rw [meet_gt _ _ h2] at hp
        rcases List.mem_cons.1 hp with rfl | hp
        · refine ⟨findK_none fun z hz => ?_, findK_hit ⟨rfl, rfl, rfl⟩, .inr (List.mem_cons_self ..), .inr (by simp)⟩
          rcases List.mem_cons.1 hz with rfl | hz
          · exact (less_not hyx).2
          · exact (less_not (less_trans hyx (ha'.1 z hz))).2
        · obtain ⟨q1, q2, q3, q4⟩ := meet_find n (x :: a) b (by simp at hn ⊢; omega) ha hb'.2 p hp
          refine ⟨q1, ?_, q3.imp id (List.mem_cons_of_mem _), q4⟩
          rw [findK_skip]
          · exact q2
          · rcases q3 with q | q
            · rcases List.mem_cons.1 q with q | q
              · rw [q]; exact (less_not hyx).1
              · exact (less_not (less_trans hyx (ha'.1 _ q))).1
            · exact (less_not (hb'.1 _ q)).1
      · have hk := cmpF_eq x y h1 h2
        rw [meet_eq _ _ h1 h2] at hp
        rcases List.mem_cons.1 hp with rfl | hp
        · exact ⟨findK_hit ⟨rfl, rfl, rfl⟩, findK_hit ⟨hk.1.symm, hk.2.1.symm, hk.2.2.symm⟩, .inl (List.mem_cons_self ..), .inl (by simp)⟩
        · obtain ⟨q1, q2, q3, q4⟩ := meet_find n a b (by simp at hn ⊢; omega) ha'.2 hb'.2 p hp
          refine ⟨?_, ?_, q3.imp (List.mem_cons_of_mem _) (List.mem_cons_of_mem _), q4⟩
          · rw [findK_skip]
            · exact q1
            · intro q
              rcases q3 with z | z
              · exact (less_not (ha'.1 _ z)).1 q
              · exact (less_not (hb'.1 _ z)).1 ⟨hk.1.symm.trans q.1, hk.2.1.symm.trans q.2.1, hk.2.2.symm.trans q.2.2⟩
          · rw [findK_skip]
            · exact q2
            · intro q
              rcases q3 with z | z
              · exact (less_not (ha'.1 _ z)).1 ⟨hk.1.trans q.1, hk.2.1.trans q.2.1, hk.2.2.trans q.2.2⟩
              · exact (less_not (hb'.1 _ z)).1 q
/-- what the program says of a place: what became of a fact -/
def chD (p : Option Fc × Option Fc) : Cg := ((ptF p).1, (ptF p).2.1, (ptF p).2.2.1, p.1.isSome, p.2.isSome, (p.1.map (·.2.2.2)).getD ⟨#[]⟩, (p.2.map (·.2.2.2)).getD ⟨#[]⟩)
def unB (c : Cg) : Bool := !c.2.2.2.1 || !c.2.2.2.2.1 || c.2.2.2.2.2.1 != c.2.2.2.2.2.2
def outD (p : Option Fc × Option Fc) : List Cg := if unB (chD p) = true then [chD p] else []
def difL (a b : List Fc) : List Cg := (meetL cmpF a b).flatMap outD
/-- the document's: without the Values -/
def clr (f : Fc) : Fc := (f.1, f.2.1, f.2.2.1, ⟨#[]⟩)
theorem clr_same (f : Fc) : sameK f (clr f) := ⟨rfl, rfl, rfl⟩
def bothL (a b : List Fc) : List Fc := (meetL cmpF a b).map fun p => clr (ptF p)
def valV (l : List Fc) (f : Fc) : ByteArray := ((findK l f).map (·.2.2.2)).getD ⟨#[]⟩
def valB (l : List Fc) (f : Fc) : Bool := (findK l f).isSome
def chR (a b : List Fc) (f : Fc) : Cg := (f.1, f.2.1, f.2.2.1, valB a f, valB b f, valV a f, valV b f)
def unR (c : Cg) : Bool := c.2.2.2.1 != c.2.2.2.2.1 || c.2.2.2.2.2.1 != c.2.2.2.2.2.2
def outR (a b : List Fc) (f : Fc) : List Cg := if unR (chR a b f) = true then [chR a b f] else []
def rdifL (a b : List Fc) : List Cg := (bothL a b).flatMap (outR a b)
theorem flatMap_cong {α β : Type} {f g : α → List β} : ∀ {l : List α}, (∀ x ∈ l, f x = g x) → l.flatMap f = l.flatMap g
  | [], _ => rfl
  | x :: l, h => by rw [List.flatMap_cons, List.flatMap_cons, h x (List.mem_cons_self ..), flatMap_cong fun y hy => h y (List.mem_cons_of_mem _ hy)]
theorem dif_eq {a b : List Fc} (ha : Rs a) (hb : Rs b) : difL a b = rdifL a b := by
  unfold difL rdifL bothL
  rw [List.flatMap_map]
  refine flatMap_cong fun p hp => ?_
  obtain ⟨q1, q2, _, q4⟩ := meet_find _ a b (Nat.le_refl _) ha hb p hp
  have e1 : findK a (clr (ptF p)) = p.1 := by rw [← findK_cong (clr_same _)]; exact q1
  have e2 : findK b (clr (ptF p)) = p.2 := by rw [← findK_cong (clr_same _)]; exact q2
  have ec : chR a b (clr (ptF p)) = chD p := by unfold chR chD valB valV; rw [e1, e2]; rfl
  unfold outD outR
  rw [ec]
  have eu : unR (chD p) = unB (chD p) := by
    unfold unR unB chD
    obtain ⟨x, y⟩ := p
    cases x <;> cases y <;> simp_all
  rw [eu]
end Go.Proofs.Ytpjpegmjcgkonaa

namespace Go.Proofs.Ytpjpegmjcgkonaa
open Go.RowKit Vi

/-- four cells that read as a fact -/
def C4 (W : World) (b o : Nat) (x : Fc) : Prop := W.cell? ⟨b, o, none⟩ = some (.int .i64 x.1) ∧ W.cell? ⟨b, o + 1, none⟩ = some (.string x.2.1) ∧ W.cell? ⟨b, o + 2, none⟩ = some (.string x.2.2.1) ∧ W.cell? ⟨b, o + 3, none⟩ = some (.string x.2.2.2)
theorem C4.lt {W : World} {b o : Nat} {x : Fc} (h : C4 W b o x) : b < W.heap.size := World.block_lt_of_cell? W _ h.1
theorem C4.blk {W W' : World} {b o : Nat} {x : Fc} (h : C4 W b o x) (k : W'.heap[b]? = W.heap[b]?) : C4 W' b o x :=
  ⟨(World.cell?_of_block (a := ⟨b, o, none⟩) k).trans h.1, (World.cell?_of_block (a := ⟨b, o + 1, none⟩) k).trans h.2.1, (World.cell?_of_block (a := ⟨b, o + 2, none⟩) k).trans h.2.2.1, (World.cell?_of_block (a := ⟨b, o + 3, none⟩) k).trans h.2.2.2⟩
theorem C4.below {W W' : World} {b o : Nat} {x : Fc} (h : C4 W b o x) (k : Below W.heap.size W W') : C4 W' b o x := h.blk (k.block b h.lt)
theorem C4.kk {W W' : World} {b o z : Nat} {x : Fc} (h : C4 W b o x) (k : KK [z] W W') (hz : b ≠ z) : C4 W' b o x := h.blk (k.block b h.lt (by simpa using hz))
/-- a pointer to a fact, or none -/
def PtF (W : World) (p : Option Addr) : Option Fc → Prop
  | none => p = none
  | some x => ∃ b o, p = some ⟨b, o, none⟩ ∧ C4 W b o x
/-- the variable that a step stores into: it lies behind w, and holds a row of one's own -/
structure JB {α : Type} (f : α → List Value) (s : Nat) (T ST : TypeId) (w W : World) (acc : List α) : Prop where
  bx : ∃ v, W.heap[w.heap.size]? = some (.cells #[v] ST (0, 0)) ∧ OwX f s T W (w.heap.size + 1) v acc
  bel : Below w.heap.size w W
theorem JB.lt {α : Type} {f : α → List Value} {s : Nat} {T ST : TypeId} {w W : World} {acc : List α} (h : JB f s T ST w W acc) : w.heap.size < W.heap.size := by
  obtain ⟨v, h1, _⟩ := h.bx
  exact lt_of_block h1
theorem JB.kept {α : Type} {f : α → List Value} {s : Nat} {T ST : TypeId} {w W W' : World} {acc : List α} (h : JB f s T ST w W acc) (k : Below W.heap.size W W') : JB f s T ST w W' acc := by
  obtain ⟨v, h1, h2⟩ := h.bx
  exact ⟨⟨v, blk_below h1 k, h2.kept k⟩, h.bel.trans (k.mono (Nat.le_of_lt h.lt))⟩
theorem info_cg : (Try.prog.info? 29).map (fun i => (i.zero, i.size, i.bytes)) = some (some (.agg #[.int .i64 0, .string ⟨#[]⟩, .string ⟨#[]⟩, .bool false, .bool false, .string ⟨#[]⟩, .string ⟨#[]⟩]), 7, 80) := by kernel_rfl
theorem ba_beqD {a b : ByteArray} (h : (a == b) = true) : a = b := by
  have q : (a.data == b.data) = true := h
  exact ByteArray.ext (by simpa using q)
theorem beq_neD {a b : ByteArray} (h : a ≠ b) : (a == b) = false ∧ (a.toList == b.toList) = false := by
  constructor
  · cases q : (a == b) with
    | false => rfl
    | true => exact absurd (ba_beqD q) h
  · cases q : (a.toList == b.toList) with
    | false => rfl
    | true => exact absurd (ba_ext (by simpa using q)) h
theorem beq_sameD (a : ByteArray) : (a == a) = true ∧ (a.toList == a.toList) = true := ⟨by show (a.data == a.data) = true; simp, by simp⟩
set_option linter.unusedSimpArgs false in
set_option maxRecDepth 100000 in
set_option maxHeartbeats 8000000 in
theorem dstep_any (w : World) (acc : List Cg) (px py : Option Addr) (x y : Option Fc) (u : World) (hJ : JB cgC 7 29 23 w u acc) (hx : PtF u px x) (hy : PtF u py y) (hxy : x ≠ none ∨ y ≠ none) (hsk : ∀ a b, x = some a → y = some b → sameK a b) (ha : acc.length < 1000000) :
    Calls Try.prog 22 #[.pointer px, .pointer py, .pointer (some ⟨w.heap.size, 0, none⟩)] u fun e u' => e = .returned (.tuple #[]) ∧ JB cgC 7 29 23 w u' (acc ++ outD (x, y)) := by
  have HJ := Lib.hid hJ
  have HAC := Lib.hid ha
  obtain ⟨z, hz⟩ : ∃ z, z = u.heap.size := ⟨_, rfl⟩
  have HZE := Lib.hid hz
  have HZL := Lib.hid (show u.heap.size ≤ z from Nat.le_of_eq hz.symm)
  obtain ⟨v, hv⟩ : ∃ v, v = u.alloc (.cells #[.int .i64 0, .string ⟨#[]⟩, .string ⟨#[]⟩, .bool false, .bool false, .string ⟨#[]⟩, .string ⟨#[]⟩] 29 (0, 0)) := ⟨_, rfl⟩
  have HV := Lib.hid hv
  have HB0 := Lib.hid (show Below u.heap.size u v by rw [hv]; exact (Below.refl _ _).alloc (Nat.le_refl _) _)
  have HZ0 := Lib.hid (show v.heap[z]? = some (.cells #[.int .i64 0, .string ⟨#[]⟩, .string ⟨#[]⟩, .bool false, .bool false, .string ⟨#[]⟩, .string ⟨#[]⟩] 29 (0, 0)) by rw [hv, hz]; exact blk_new u _)
  clear hJ ha hv
  cases x with
  | none =>
    obtain rfl : px = none := hx
    cases y with
    | none => rcases hxy with h | h <;> exact absurd rfl h
    | some y =>
      obtain ⟨yb, yo, rfl, hcy⟩ := hy
      obtain ⟨y1, y2, y3, y4⟩ := y
      have HY0 := Lib.hid (hcy.below HB0.out)
      have HYZ := Lib.hid (show yb ≠ z from fun e => by have := hcy.lt; omega)
      clear hcy
      have HO := Lib.hid (show outD (none, some (y1, y2, y3, y4)) = [(y1, y2, y3, false, true, ⟨#[]⟩, y4)] from rfl)
      clear hxy hz hsk
      go_enter Try.func22, Try.ntmps22
      go_upto_region 1 with (fail)
      rw [← HV.out, ← HZE.out]
      go_upto_region 4 with (fail)
      have HZ0d := Lib.hid (show v.drew.heap[z]? = some (.cells #[.int .i64 0, .string ⟨#[]⟩, .string ⟨#[]⟩, .bool false, .bool false, .string ⟨#[]⟩, .string ⟨#[]⟩] 29 (0, 0)) from HZ0.out)
      have HB0d := Lib.hid HB0.out.drew
      have HY0d := Lib.hid (HY0.out.below (Below.refl _ _).drew)
      clear HB0 HZ0 HY0
      refine wp_region_L_drew (S := fun _ W => C4 W yb yo (y1, y2, y3, y4)) (by kernel_rfl) HY0d.out (fun hS hC => ?_)
      generalize v.drew = v4 at *
      refine wpAnyL_take (i := 0) (oi := { dst := some 27, op := .move (.tmp 1), type := _, pos := _, after := _, guard := none }) (v := ?_) rfl (by kernel_rfl) (by kernel_rfl) (by kernel_rfl) (fun _ _ _ h => h) (fun _ _ => Iff.rfl) hC (Or.inl ⟨by rfl, ?_⟩) hS (fun hC hS => ?_)
      rotate_left
      · intro W9 hSw; skip; go_simp; try (with_reducible rfl)
      try simp only [Act.put, List.setIfInBounds_toArray, List.set_cons_zero, List.set_cons_succ]
      refine wpAnyL_take (i := 1) (oi := { dst := some 28, op := .nilCheck (.tmp 27), type := _, pos := _, after := _, guard := none }) (v := ?_) rfl (by kernel_rfl) (by kernel_rfl) (by kernel_rfl) (fun _ _ _ h => h) (fun _ _ => Iff.rfl) hC (Or.inl ⟨by rfl, ?_⟩) hS (fun hC hS => ?_)
      rotate_left
      · intro W9 hSw; skip; go_simp; try (with_reducible rfl)
      try simp only [Act.put, List.setIfInBounds_toArray, List.set_cons_zero, List.set_cons_succ]
      refine wpAnyL_take (i := 2) (oi := { dst := some 29, op := .fieldAddr 32 (.tmp 28) 0, type := _, pos := _, after := _, guard := none }) (v := ?_) rfl (by kernel_rfl) (by kernel_rfl) (by kernel_rfl) (fun _ _ _ h => h) (fun _ _ => Iff.rfl) hC (Or.inl ⟨by rfl, ?_⟩) hS (fun hC hS => ?_)
      rotate_left
      · intro W9 hSw; skip; go_simp; try (with_reducible rfl)
      try simp only [Act.put, List.setIfInBounds_toArray, List.set_cons_zero, List.set_cons_succ]
      refine wpAnyL_take (i := 3) (oi := { dst := some 30, op := .load 3 (.tmp 29), type := _, pos := _, after := _, guard := none }) (v := ?_) rfl (by kernel_rfl) (by kernel_rfl) (by kernel_rfl) (fun _ _ _ h => h) (fun _ _ => Iff.rfl) hC (Or.inl ⟨by rfl, ?_⟩) hS (fun hC hS => ?_)
      rotate_left
      · intro W9 hSw; obtain ⟨q0, q1, q2, q3⟩ := hSw.choose_spec.2.2; try dsimp only at q0 q1 q2 q3; go_simp; try (with_reducible rfl)
      try simp only [Act.put, List.setIfInBounds_toArray, List.set_cons_zero, List.set_cons_succ]
      refine wpAnyL_take (i := 4) (oi := { dst := some 31, op := .move (.tmp 1), type := _, pos := _, after := _, guard := none }) (v := ?_) rfl (by kernel_rfl) (by kernel_rfl) (by kernel_rfl) (fun _ _ _ h => h) (fun _ _ => Iff.rfl) hC (Or.inl ⟨by rfl, ?_⟩) hS (fun hC hS => ?_)
      rotate_left
      · intro W9 hSw; skip; go_simp; try (with_reducible rfl)
      try simp only [Act.put, List.setIfInBounds_toArray, List.set_cons_zero, List.set_cons_succ]
      refine wpAnyL_take (i := 5) (oi := { dst := some 32, op := .nilCheck (.tmp 31), type := _, pos := _, after := _, guard := none }) (v := ?_) rfl (by kernel_rfl) (by kernel_rfl) (by kernel_rfl) (fun _ _ _ h => h) (fun _ _ => Iff.rfl) hC (Or.inl ⟨by rfl, ?_⟩) hS (fun hC hS => ?_)
      rotate_left
      · intro W9 hSw; skip; go_simp; try (with_reducible rfl)
      try simp only [Act.put, List.setIfInBounds_toArray, List.set_cons_zero, List.set_cons_succ]
      refine wpAnyL_take (i := 6) (oi := { dst := some 33, op := .fieldAddr 32 (.tmp 32) 1, type := _, pos := _, after := _, guard := none }) (v := ?_) rfl (by kernel_rfl) (by kernel_rfl) (by kernel_rfl) (fun _ _ _ h => h) (fun _ _ => Iff.rfl) hC (Or.inl ⟨by rfl, ?_⟩) hS (fun hC hS => ?_)
      rotate_left
      · intro W9 hSw; skip; go_simp; try (with_reducible rfl)
      try simp only [Act.put, List.setIfInBounds_toArray, List.set_cons_zero, List.set_cons_succ]
      refine wpAnyL_take (i := 7) (oi := { dst := some 34, op := .load 9 (.tmp 33), type := _, pos := _, after := _, guard := none }) (v := ?_) rfl (by kernel_rfl) (by kernel_rfl) (by kernel_rfl) (fun _ _ _ h => h) (fun _ _ => Iff.rfl) hC (Or.inl ⟨by rfl, ?_⟩) hS (fun hC hS => ?_)
      rotate_left
      · intro W9 hSw; obtain ⟨q0, q1, q2, q3⟩ := hSw.choose_spec.2.2; try dsimp only at q0 q1 q2 q3; go_simp; try (with_reducible rfl)
      try simp only [Act.put, List.setIfInBounds_toArray, List.set_cons_zero, List.set_cons_succ]
      refine wpAnyL_take (i := 8) (oi := { dst := some 35, op := .move (.tmp 1), type := _, pos := _, after := _, guard := none }) (v := ?_) rfl (by kernel_rfl) (by kernel_rfl) (by kernel_rfl) (fun _ _ _ h => h) (fun _ _ => Iff.rfl) hC (Or.inl ⟨by rfl, ?_⟩) hS (fun hC hS => ?_)
      rotate_left
      · intro W9 hSw; skip; go_simp; try (with_reducible rfl)
      try simp only [Act.put, List.setIfInBounds_toArray, List.set_cons_zero, List.set_cons_succ]
      refine wpAnyL_take (i := 9) (oi := { dst := some 36, op := .nilCheck (.tmp 35), type := _, pos := _, after := _, guard := none }) (v := ?_) rfl (by kernel_rfl) (by kernel_rfl) (by kernel_rfl) (fun _ _ _ h => h) (fun _ _ => Iff.rfl) hC (Or.inl ⟨by rfl, ?_⟩) hS (fun hC hS => ?_)
      rotate_left
      · intro W9 hSw; skip; go_simp; try (with_reducible rfl)
      try simp only [Act.put, List.setIfInBounds_toArray, List.set_cons_zero, List.set_cons_succ]
      refine wpAnyL_take (i := 10) (oi := { dst := some 37, op := .fieldAddr 32 (.tmp 36) 2, type := _, pos := _, after := _, guard := none }) (v := ?_) rfl (by kernel_rfl) (by kernel_rfl) (by kernel_rfl) (fun _ _ _ h => h) (fun _ _ => Iff.rfl) hC (Or.inl ⟨by rfl, ?_⟩) hS (fun hC hS => ?_)
      rotate_left
      · intro W9 hSw; skip; go_simp; try (with_reducible rfl)
      try simp only [Act.put, List.setIfInBounds_toArray, List.set_cons_zero, List.set_cons_succ]
      refine wpAnyL_take (i := 11) (oi := { dst := some 38, op := .load 9 (.tmp 37), type := _, pos := _, after := _, guard := none }) (v := ?_) rfl (by kernel_rfl) (by kernel_rfl) (by kernel_rfl) (fun _ _ _ h => h) (fun _ _ => Iff.rfl) hC (Or.inl ⟨by rfl, ?_⟩) hS (fun hC hS => ?_)
      rotate_left
      · intro W9 hSw; obtain ⟨q0, q1, q2, q3⟩ := hSw.choose_spec.2.2; try dsimp only at q0 q1 q2 q3; go_simp; try (with_reducible rfl)
      try simp only [Act.put, List.setIfInBounds_toArray, List.set_cons_zero, List.set_cons_succ]
      refine wpAnyL_take (i := 12) (oi := { dst := some 39, op := .move (.tmp 1), type := _, pos := _, after := _, guard := none }) (v := ?_) rfl (by kernel_rfl) (by kernel_rfl) (by kernel_rfl) (fun _ _ _ h => h) (fun _ _ => Iff.rfl) hC (Or.inl ⟨by rfl, ?_⟩) hS (fun hC hS => ?_)
      rotate_left
      · intro W9 hSw; skip; go_simp; try (with_reducible rfl)
      try simp only [Act.put, List.setIfInBounds_toArray, List.set_cons_zero, List.set_cons_succ]
      refine wpAnyL_take (i := 13) (oi := { dst := some 40, op := .nilCheck (.tmp 39), type := _, pos := _, after := _, guard := none }) (v := ?_) rfl (by kernel_rfl) (by kernel_rfl) (by kernel_rfl) (fun _ _ _ h => h) (fun _ _ => Iff.rfl) hC (Or.inl ⟨by rfl, ?_⟩) hS (fun hC hS => ?_)
      rotate_left
      · intro W9 hSw; skip; go_simp; try (with_reducible rfl)
      try simp only [Act.put, List.setIfInBounds_toArray, List.set_cons_zero, List.set_cons_succ]
      refine wpAnyL_take (i := 14) (oi := { dst := some 41, op := .fieldAddr 32 (.tmp 40) 3, type := _, pos := _, after := _, guard := none }) (v := ?_) rfl (by kernel_rfl) (by kernel_rfl) (by kernel_rfl) (fun _ _ _ h => h) (fun _ _ => Iff.rfl) hC (Or.inl ⟨by rfl, ?_⟩) hS (fun hC hS => ?_)
      rotate_left
      · intro W9 hSw; skip; go_simp; try (with_reducible rfl)
      try simp only [Act.put, List.setIfInBounds_toArray, List.set_cons_zero, List.set_cons_succ]
      refine wpAnyL_take (i := 15) (oi := { dst := some 42, op := .load 9 (.tmp 41), type := _, pos := _, after := _, guard := none }) (v := ?_) rfl (by kernel_rfl) (by kernel_rfl) (by kernel_rfl) (fun _ _ _ h => h) (fun _ _ => Iff.rfl) hC (Or.inl ⟨by rfl, ?_⟩) hS (fun hC hS => ?_)
      rotate_left
      · intro W9 hSw; obtain ⟨q0, q1, q2, q3⟩ := hSw.choose_spec.2.2; try dsimp only at q0 q1 q2 q3; go_simp; try (with_reducible rfl)
      try simp only [Act.put, List.setIfInBounds_toArray, List.set_cons_zero, List.set_cons_succ]
      refine wpAnyL_take (i := 16) (oi := { dst := some 43, op := .fieldAddr 29 (.tmp 5) 0, type := _, pos := _, after := _, guard := none }) (v := ?_) rfl (by kernel_rfl) (by kernel_rfl) (by kernel_rfl) (fun _ _ _ h => h) (fun _ _ => Iff.rfl) hC (Or.inl ⟨by rfl, ?_⟩) hS (fun hC hS => ?_)
      rotate_left
      · intro W9 hSw; skip; go_simp; try (with_reducible rfl)
      try simp only [Act.put, List.setIfInBounds_toArray, List.set_cons_zero, List.set_cons_succ]
      refine wpAnyL_ready (rs := [17]) (by kernel_rfl) (by simp) hC ?_
      refine AllReadyL.cons (o := { dst := none, op := .store 3 (.tmp 43) (.tmp 30), type := _, pos := _, after := _, guard := none }) rfl (fun K9 hK => ?_) ?_
      · skip
        have cf0 : (v4).cell? ⟨z, 0, none⟩ = some (.int .i64 0) := (cell_of_row _ _ 0 _ _ _ HZ0d.out).trans rfl
        have f0 : (v4).frozen? ⟨z, 0, none⟩ = false := frozen_of_row _ _ _ _ _ HZ0d.out
        go_simp
        have HK := Lib.hid ((KK.refl [z] v4).set (b := z) (by simp) 0 (.int .i64 y1))
        have HZn := Lib.hid (show (v4.setCell ⟨z, 0, none⟩ (.int .i64 y1)).heap[z]? = some (.cells #[.int .i64 y1, .string ⟨#[]⟩, .string ⟨#[]⟩, .bool false, .bool false, .string ⟨#[]⟩, .string ⟨#[]⟩] 29 (0, 0)) by have q := heap_setCell_at (i := 0) (u := .int .i64 y1) (HZ0d.out); exact q)
        have HBn := Lib.hid (HK.out.below HB0d.out (fun b hb => by obtain rfl : b = z := (by simpa using hb); exact HZL.out) HB0d.out.size)
        have HYn := Lib.hid (HY0d.out.kk HK.out HYZ.out)
        clear HK HZ0d HB0d HY0d cf0 f0
        generalize (v4.setCell ⟨z, 0, none⟩ (.int .i64 y1)) = u41 at *
        have HZ41 := HZn
        clear HZn
        have HB41 := HBn
        clear HBn
        have HY41 := HYn
        clear HYn
        refine hK _ _ HY41.out (fun hC => ?_)
        clear hK K9
        try simp only [Act.put, List.setIfInBounds_toArray, List.set_cons_zero, List.set_cons_succ]
        refine wpAnyL_take (i := 18) (oi := { dst := some 44, op := .fieldAddr 29 (.tmp 5) 1, type := _, pos := _, after := _, guard := none }) (v := ?_) rfl (by kernel_rfl) (by kernel_rfl) (by kernel_rfl) (fun _ _ _ h => h) (fun _ _ => Iff.rfl) hC (Or.inl ⟨by rfl, ?_⟩) HY41.out (fun hC hS => ?_)
        rotate_left
        · intro W9 hSw; skip; go_simp; try (with_reducible rfl)
        try simp only [Act.put, List.setIfInBounds_toArray, List.set_cons_zero, List.set_cons_succ]
        refine wpAnyL_ready (rs := [19]) (by kernel_rfl) (by simp) hC ?_
        refine AllReadyL.cons (o := { dst := none, op := .store 9 (.tmp 44) (.tmp 34), type := _, pos := _, after := _, guard := none }) rfl (fun K9 hK => ?_) ?_
        · skip
          have cf1 : (u41).cell? ⟨z, 1, none⟩ = some (.string ⟨#[]⟩) := (cell_of_row _ _ 1 _ _ _ HZ41.out).trans rfl
          have f1 : (u41).frozen? ⟨z, 1, none⟩ = false := frozen_of_row _ _ _ _ _ HZ41.out
          go_simp
          have HK := Lib.hid ((KK.refl [z] u41).set (b := z) (by simp) 1 (.string y2))
          have HZn := Lib.hid (show (u41.setCell ⟨z, 1, none⟩ (.string y2)).heap[z]? = some (.cells #[.int .i64 y1, .string y2, .string ⟨#[]⟩, .bool false, .bool false, .string ⟨#[]⟩, .string ⟨#[]⟩] 29 (0, 0)) by have q := heap_setCell_at (i := 1) (u := .string y2) (HZ41.out); exact q)
          have HBn := Lib.hid (HK.out.below HB41.out (fun b hb => by obtain rfl : b = z := (by simpa using hb); exact HZL.out) HB41.out.size)
          have HYn := Lib.hid (HY41.out.kk HK.out HYZ.out)
          clear HK HZ41 HB41 HY41 cf1 f1
          generalize (u41.setCell ⟨z, 1, none⟩ (.string y2)) = u42 at *
          have HZ42 := HZn
          clear HZn
          have HB42 := HBn
          clear HBn
          have HY42 := HYn
          clear HYn
          refine hK _ _ HY42.out (fun hC => ?_)
          clear hK K9
          try simp only [Act.put, List.setIfInBounds_toArray, List.set_cons_zero, List.set_cons_succ]
          refine wpAnyL_take (i := 20) (oi := { dst := some 45, op := .fieldAddr 29 (.tmp 5) 2, type := _, pos := _, after := _, guard := none }) (v := ?_) rfl (by kernel_rfl) (by kernel_rfl) (by kernel_rfl) (fun _ _ _ h => h) (fun _ _ => Iff.rfl) hC (Or.inl ⟨by rfl, ?_⟩) HY42.out (fun hC hS => ?_)
          rotate_left
          · intro W9 hSw; skip; go_simp; try (with_reducible rfl)
          try simp only [Act.put, List.setIfInBounds_toArray, List.set_cons_zero, List.set_cons_succ]
          refine wpAnyL_ready (rs := [21]) (by kernel_rfl) (by simp) hC ?_
          refine AllReadyL.cons (o := { dst := none, op := .store 9 (.tmp 45) (.tmp 38), type := _, pos := _, after := _, guard := none }) rfl (fun K9 hK => ?_) ?_
          · skip
            have cf2 : (u42).cell? ⟨z, 2, none⟩ = some (.string ⟨#[]⟩) := (cell_of_row _ _ 2 _ _ _ HZ42.out).trans rfl
            have f2 : (u42).frozen? ⟨z, 2, none⟩ = false := frozen_of_row _ _ _ _ _ HZ42.out
            go_simp
            have HK := Lib.hid ((KK.refl [z] u42).set (b := z) (by simp) 2 (.string y3))
            have HZn := Lib.hid (show (u42.setCell ⟨z, 2, none⟩ (.string y3)).heap[z]? = some (.cells #[.int .i64 y1, .string y2, .string y3, .bool false, .bool false, .string ⟨#[]⟩, .string ⟨#[]⟩] 29 (0, 0)) by have q := heap_setCell_at (i := 2) (u := .string y3) (HZ42.out); exact q)
            have HBn := Lib.hid (HK.out.below HB42.out (fun b hb => by obtain rfl : b = z := (by simpa using hb); exact HZL.out) HB42.out.size)
            have HYn := Lib.hid (HY42.out.kk HK.out HYZ.out)
            clear HK HZ42 HB42 HY42 cf2 f2
            generalize (u42.setCell ⟨z, 2, none⟩ (.string y3)) = u43 at *
            have HZ43 := HZn
            clear HZn
            have HB43 := HBn
            clear HBn
            have HY43 := HYn
            clear HYn
            refine hK _ _ HY43.out (fun hC => ?_)
            clear hK K9
            try simp only [Act.put, List.setIfInBounds_toArray, List.set_cons_zero, List.set_cons_succ]
            refine wpAnyL_take (i := 22) (oi := { dst := some 46, op := .fieldAddr 29 (.tmp 5) 4, type := _, pos := _, after := _, guard := none }) (v := ?_) rfl (by kernel_rfl) (by kernel_rfl) (by kernel_rfl) (fun _ _ _ h => h) (fun _ _ => Iff.rfl) hC (Or.inl ⟨by rfl, ?_⟩) HY43.out (fun hC hS => ?_)
            rotate_left
            · intro W9 hSw; skip; go_simp; try (with_reducible rfl)
            try simp only [Act.put, List.setIfInBounds_toArray, List.set_cons_zero, List.set_cons_succ]
            refine wpAnyL_ready (rs := [23]) (by kernel_rfl) (by simp) hC ?_
            refine AllReadyL.cons (o := { dst := none, op := .store 4 (.tmp 46) (.const (.bool true)), type := _, pos := _, after := _, guard := none }) rfl (fun K9 hK => ?_) ?_
            · skip
              have cf4 : (u43).cell? ⟨z, 4, none⟩ = some (.bool false) := (cell_of_row _ _ 4 _ _ _ HZ43.out).trans rfl
              have f4 : (u43).frozen? ⟨z, 4, none⟩ = false := frozen_of_row _ _ _ _ _ HZ43.out
              go_simp
              have HK := Lib.hid ((KK.refl [z] u43).set (b := z) (by simp) 4 (.bool true))
              have HZn := Lib.hid (show (u43.setCell ⟨z, 4, none⟩ (.bool true)).heap[z]? = some (.cells #[.int .i64 y1, .string y2, .string y3, .bool false, .bool true, .string ⟨#[]⟩, .string ⟨#[]⟩] 29 (0, 0)) by have q := heap_setCell_at (i := 4) (u := .bool true) (HZ43.out); exact q)
              have HBn := Lib.hid (HK.out.below HB43.out (fun b hb => by obtain rfl : b = z := (by simpa using hb); exact HZL.out) HB43.out.size)
              have HYn := Lib.hid (HY43.out.kk HK.out HYZ.out)
              clear HK HZ43 HB43 HY43 cf4 f4
              generalize (u43.setCell ⟨z, 4, none⟩ (.bool true)) = u44 at *
              have HZ44 := HZn
              clear HZn
              have HB44 := HBn
              clear HBn
              have HY44 := HYn
              clear HYn
              refine hK _ _ HY44.out (fun hC => ?_)
              clear hK K9
              try simp only [Act.put, List.setIfInBounds_toArray, List.set_cons_zero, List.set_cons_succ]
              refine wpAnyL_take (i := 24) (oi := { dst := some 47, op := .fieldAddr 29 (.tmp 5) 6, type := _, pos := _, after := _, guard := none }) (v := ?_) rfl (by kernel_rfl) (by kernel_rfl) (by kernel_rfl) (fun _ _ _ h => h) (fun _ _ => Iff.rfl) hC (Or.inl ⟨by rfl, ?_⟩) HY44.out (fun hC hS => ?_)
              rotate_left
              · intro W9 hSw; skip; go_simp; try (with_reducible rfl)
              try simp only [Act.put, List.setIfInBounds_toArray, List.set_cons_zero, List.set_cons_succ]
              refine wpAnyL_ready (rs := [25]) (by kernel_rfl) (by simp) hC ?_
              refine AllReadyL.cons (o := { dst := none, op := .store 9 (.tmp 47) (.tmp 42), type := _, pos := _, after := _, guard := none }) rfl (fun K9 hK => ?_) ?_
              · skip
                have cf6 : (u44).cell? ⟨z, 6, none⟩ = some (.string ⟨#[]⟩) := (cell_of_row _ _ 6 _ _ _ HZ44.out).trans rfl
                have f6 : (u44).frozen? ⟨z, 6, none⟩ = false := frozen_of_row _ _ _ _ _ HZ44.out
                go_simp
                have HK := Lib.hid ((KK.refl [z] u44).set (b := z) (by simp) 6 (.string y4))
                have HZn := Lib.hid (show (u44.setCell ⟨z, 6, none⟩ (.string y4)).heap[z]? = some (.cells #[.int .i64 y1, .string y2, .string y3, .bool false, .bool true, .string ⟨#[]⟩, .string y4] 29 (0, 0)) by have q := heap_setCell_at (i := 6) (u := .string y4) (HZ44.out); exact q)
                have HBn := Lib.hid (HK.out.below HB44.out (fun b hb => by obtain rfl : b = z := (by simpa using hb); exact HZL.out) HB44.out.size)
                have HYn := Lib.hid (HY44.out.kk HK.out HYZ.out)
                clear HK HZ44 HB44 HY44 cf6 f6
                generalize (u44.setCell ⟨z, 6, none⟩ (.string y4)) = u45 at *
                have HZ45 := HZn
                clear HZn
                have HB45 := HBn
                clear HBn
                have HY45 := HYn
                clear HYn
                refine hK _ _ HY45.out (fun hC => ?_)
                clear hK K9
                try simp only [Act.put, List.setIfInBounds_toArray, List.set_cons_zero, List.set_cons_succ]
                refine wpAnyL_done (by kernel_rfl) ?_ _
                clear hS hC
                have cf0 : (u45).cell? ⟨z, 0, none⟩ = some (.int .i64 y1) := (cell_of_row _ _ 0 _ _ _ HZ45.out).trans rfl
                have cf1 : (u45).cell? ⟨z, 1, none⟩ = some (.string y2) := (cell_of_row _ _ 1 _ _ _ HZ45.out).trans rfl
                have cf2 : (u45).cell? ⟨z, 2, none⟩ = some (.string y3) := (cell_of_row _ _ 2 _ _ _ HZ45.out).trans rfl
                have cf3 : (u45).cell? ⟨z, 3, none⟩ = some (.bool false) := (cell_of_row _ _ 3 _ _ _ HZ45.out).trans rfl
                have cf4 : (u45).cell? ⟨z, 4, none⟩ = some (.bool true) := (cell_of_row _ _ 4 _ _ _ HZ45.out).trans rfl
                have cf5 : (u45).cell? ⟨z, 5, none⟩ = some (.string ⟨#[]⟩) := (cell_of_row _ _ 5 _ _ _ HZ45.out).trans rfl
                have cf6 : (u45).cell? ⟨z, 6, none⟩ = some (.string y4) := (cell_of_row _ _ 6 _ _ _ HZ45.out).trans rfl
                obtain ⟨V0, hv0, ho0⟩ := (HJ.out.kept HB45.out).bx
                have HV0 := Lib.hid hv0
                have HO0 := Lib.hid ho0
                clear hv0 ho0
                have z0 : u45.cell? ⟨w.heap.size, 0, none⟩ = some V0 := (cell_of_row _ _ 0 _ _ _ HV0.out).trans rfl
                have HSZ := Lib.hid (show w.heap.size + 1 ≤ u45.heap.size from lt_of_block HV0.out)
                obtain ⟨V0a, V0n, V0c, rfl⟩ := HO0.out.sl3
                go_wp2_with (at_builtin; refine wpList_appX rfl (.tmp 63) (.tmp 65) 23 29 _ 80 rfl Try.underlying23 info_cg rfl (by omega) (by omega) cgC_len cgC_one (w.heap.size + 1) u45 ((Below.refl _ _).alloc HSZ.out _) (Nat.le_trans HSZ.out (by simp)) (.slice V0a V0n V0c) acc rfl (HO0.out.alloc _) u45.heap.size 1 (y1, y2, y3, false, true, ⟨#[]⟩, y4) #[.int .i64 y1, .string y2, .string y3, .bool false, .bool true, .string ⟨#[]⟩, .string y4] 29 (0, 0) rfl (heap_alloc_new u45 _) rfl (by have := HAC.out; omega) ?_)
                intro v9 w9 HO9 HB9 _ _
                obtain ⟨A9, n9, c9, rfl⟩ := HO9.out.sl3
                have HV9 := Lib.hid (show w9.heap[w.heap.size]? = some (.cells #[.slice V0a V0n V0c] 23 (0, 0)) from (HB9.out.block _ (Nat.lt_succ_self _)).trans HV0.out)
                clear z0 cf0 cf1 cf2 cf3 cf4 cf5 cf6
                have z0 : w9.cell? ⟨w.heap.size, 0, none⟩ = some (.slice V0a V0n V0c) := (cell_of_row _ _ 0 _ _ _ HV9.out).trans rfl
                have f0 : w9.frozen? ⟨w.heap.size, 0, none⟩ = false := frozen_of_row _ _ _ _ _ HV9.out
                have HK9 := Lib.hid ((KK.refl [w.heap.size] w9).set (b := w.heap.size) (by simp) 0 (.slice A9 n9 c9))
                have HW9 := Lib.hid (show (w9.setCell ⟨w.heap.size, 0, none⟩ (.slice A9 n9 c9)).heap[w.heap.size]? = some (.cells #[.slice A9 n9 c9] 23 (0, 0)) from heap_setCell_at (i := 0) (u := .slice A9 n9 c9) HV9.out)
                have HR9 := Lib.hid (HO9.out.kk HK9.out (fun b hb => by obtain rfl : b = w.heap.size := (by simpa using hb); omega))
                have HL9 := Lib.hid (show Below w.heap.size w w9 from (HJ.out.kept HB45.out).bel.trans (HB9.out.mono (Nat.le_succ _)))
                have HM9 := Lib.hid (HK9.out.below HL9.out (fun b hb => by obtain rfl : b = w.heap.size := (by simpa using hb); exact Nat.le_refl _) (Nat.le_of_lt (lt_of_block HV9.out)))
                go_wp2_with fail
                refine bodyPost_end (results_none rfl _ _ _) rfl ?_
                exact ⟨rfl, by rw [HO.out]; exact ⟨⟨_, HW9.out, HR9.out⟩, HM9.out⟩⟩
              exact AllReadyL.nil
            exact AllReadyL.nil
          exact AllReadyL.nil
        exact AllReadyL.nil
      exact AllReadyL.nil
  | some x =>
    obtain ⟨xb, xo, rfl, hcx⟩ := hx
    obtain ⟨x1, x2, x3, x4⟩ := x
    have HX0 := Lib.hid (hcx.below HB0.out)
    have HXZ := Lib.hid (show xb ≠ z from fun e => by have := hcx.lt; omega)
    clear hcx
    cases y with
    | none =>
      obtain rfl : py = none := hy
      have HO := Lib.hid (show outD (some (x1, x2, x3, x4), none) = [(x1, x2, x3, true, false, x4, ⟨#[]⟩)] from rfl)
      clear hxy hz hsk
      go_enter Try.func22, Try.ntmps22
      go_upto_region 1 with (fail)
      rw [← HV.out, ← HZE.out]
      go_upto_region 2 with (fail)
      have HZ0d := Lib.hid (show v.drew.heap[z]? = some (.cells #[.int .i64 0, .string ⟨#[]⟩, .string ⟨#[]⟩, .bool false, .bool false, .string ⟨#[]⟩, .string ⟨#[]⟩] 29 (0, 0)) from HZ0.out)
      have HB0d := Lib.hid HB0.out.drew
      have HX0d := Lib.hid (HX0.out.below (Below.refl _ _).drew)
      clear HB0 HZ0 HX0
      refine wp_region_L_drew (S := fun _ W => C4 W xb xo (x1, x2, x3, x4)) (by kernel_rfl) HX0d.out (fun hS hC => ?_)
      generalize v.drew = v2 at *
      refine wpAnyL_take (i := 0) (oi := { dst := some 8, op := .move (.tmp 0), type := _, pos := _, after := _, guard := none }) (v := ?_) rfl (by kernel_rfl) (by kernel_rfl) (by kernel_rfl) (fun _ _ _ h => h) (fun _ _ => Iff.rfl) hC (Or.inl ⟨by rfl, ?_⟩) hS (fun hC hS => ?_)
      rotate_left
      · intro W9 hSw; skip; go_simp; try (with_reducible rfl)
      try simp only [Act.put, List.setIfInBounds_toArray, List.set_cons_zero, List.set_cons_succ]
      refine wpAnyL_take (i := 1) (oi := { dst := some 9, op := .nilCheck (.tmp 8), type := _, pos := _, after := _, guard := none }) (v := ?_) rfl (by kernel_rfl) (by kernel_rfl) (by kernel_rfl) (fun _ _ _ h => h) (fun _ _ => Iff.rfl) hC (Or.inl ⟨by rfl, ?_⟩) hS (fun hC hS => ?_)
      rotate_left
      · intro W9 hSw; skip; go_simp; try (with_reducible rfl)
      try simp only [Act.put, List.setIfInBounds_toArray, List.set_cons_zero, List.set_cons_succ]
      refine wpAnyL_take (i := 2) (oi := { dst := some 10, op := .fieldAddr 32 (.tmp 9) 0, type := _, pos := _, after := _, guard := none }) (v := ?_) rfl (by kernel_rfl) (by kernel_rfl) (by kernel_rfl) (fun _ _ _ h => h) (fun _ _ => Iff.rfl) hC (Or.inl ⟨by rfl, ?_⟩) hS (fun hC hS => ?_)
      rotate_left
      · intro W9 hSw; skip; go_simp; try (with_reducible rfl)
      try simp only [Act.put, List.setIfInBounds_toArray, List.set_cons_zero, List.set_cons_succ]
      refine wpAnyL_take (i := 3) (oi := { dst := some 11, op := .load 3 (.tmp 10), type := _, pos := _, after := _, guard := none }) (v := ?_) rfl (by kernel_rfl) (by kernel_rfl) (by kernel_rfl) (fun _ _ _ h => h) (fun _ _ => Iff.rfl) hC (Or.inl ⟨by rfl, ?_⟩) hS (fun hC hS => ?_)
      rotate_left
      · intro W9 hSw; obtain ⟨q0, q1, q2, q3⟩ := hSw.choose_spec.2.2; try dsimp only at q0 q1 q2 q3; go_simp; try (with_reducible rfl)
      try simp only [Act.put, List.setIfInBounds_toArray, List.set_cons_zero, List.set_cons_succ]
      refine wpAnyL_take (i := 4) (oi := { dst := some 12, op := .move (.tmp 0), type := _, pos := _, after := _, guard := none }) (v := ?_) rfl (by kernel_rfl) (by kernel_rfl) (by kernel_rfl) (fun _ _ _ h => h) (fun _ _ => Iff.rfl) hC (Or.inl ⟨by rfl, ?_⟩) hS (fun hC hS => ?_)
      rotate_left
      · intro W9 hSw; skip; go_simp; try (with_reducible rfl)
      try simp only [Act.put, List.setIfInBounds_toArray, List.set_cons_zero, List.set_cons_succ]
      refine wpAnyL_take (i := 5) (oi := { dst := some 13, op := .nilCheck (.tmp 12), type := _, pos := _, after := _, guard := none }) (v := ?_) rfl (by kernel_rfl) (by kernel_rfl) (by kernel_rfl) (fun _ _ _ h => h) (fun _ _ => Iff.rfl) hC (Or.inl ⟨by rfl, ?_⟩) hS (fun hC hS => ?_)
      rotate_left
      · intro W9 hSw; skip; go_simp; try (with_reducible rfl)
      try simp only [Act.put, List.setIfInBounds_toArray, List.set_cons_zero, List.set_cons_succ]
      refine wpAnyL_take (i := 6) (oi := { dst := some 14, op := .fieldAddr 32 (.tmp 13) 1, type := _, pos := _, after := _, guard := none }) (v := ?_) rfl (by kernel_rfl) (by kernel_rfl) (by kernel_rfl) (fun _ _ _ h => h) (fun _ _ => Iff.rfl) hC (Or.inl ⟨by rfl, ?_⟩) hS (fun hC hS => ?_)
      rotate_left
      · intro W9 hSw; skip; go_simp; try (with_reducible rfl)
      try simp only [Act.put, List.setIfInBounds_toArray, List.set_cons_zero, List.set_cons_succ]
      refine wpAnyL_take (i := 7) (oi := { dst := some 15, op := .load 9 (.tmp 14), type := _, pos := _, after := _, guard := none }) (v := ?_) rfl (by kernel_rfl) (by kernel_rfl) (by kernel_rfl) (fun _ _ _ h => h) (fun _ _ => Iff.rfl) hC (Or.inl ⟨by rfl, ?_⟩) hS (fun hC hS => ?_)
      rotate_left
      · intro W9 hSw; obtain ⟨q0, q1, q2, q3⟩ := hSw.choose_spec.2.2; try dsimp only at q0 q1 q2 q3; go_simp; try (with_reducible rfl)
      try simp only [Act.put, List.setIfInBounds_toArray, List.set_cons_zero, List.set_cons_succ]
      refine wpAnyL_take (i := 8) (oi := { dst := some 16, op := .move (.tmp 0), type := _, pos := _, after := _, guard := none }) (v := ?_) rfl (by kernel_rfl) (by kernel_rfl) (by kernel_rfl) (fun _ _ _ h => h) (fun _ _ => Iff.rfl) hC (Or.inl ⟨by rfl, ?_⟩) hS (fun hC hS => ?_)
      rotate_left
      · intro W9 hSw; skip; go_simp; try (with_reducible rfl)
      try simp only [Act.put, List.setIfInBounds_toArray, List.set_cons_zero, List.set_cons_succ]
      refine wpAnyL_take (i := 9) (oi := { dst := some 17, op := .nilCheck (.tmp 16), type := _, pos := _, after := _, guard := none }) (v := ?_) rfl (by kernel_rfl) (by kernel_rfl) (by kernel_rfl) (fun _ _ _ h => h) (fun _ _ => Iff.rfl) hC (Or.inl ⟨by rfl, ?_⟩) hS (fun hC hS => ?_)
      rotate_left
      · intro W9 hSw; skip; go_simp; try (with_reducible rfl)
      try simp only [Act.put, List.setIfInBounds_toArray, List.set_cons_zero, List.set_cons_succ]
      refine wpAnyL_take (i := 10) (oi := { dst := some 18, op := .fieldAddr 32 (.tmp 17) 2, type := _, pos := _, after := _, guard := none }) (v := ?_) rfl (by kernel_rfl) (by kernel_rfl) (by kernel_rfl) (fun _ _ _ h => h) (fun _ _ => Iff.rfl) hC (Or.inl ⟨by rfl, ?_⟩) hS (fun hC hS => ?_)
      rotate_left
      · intro W9 hSw; skip; go_simp; try (with_reducible rfl)
      try simp only [Act.put, List.setIfInBounds_toArray, List.set_cons_zero, List.set_cons_succ]
      refine wpAnyL_take (i := 11) (oi := { dst := some 19, op := .load 9 (.tmp 18), type := _, pos := _, after := _, guard := none }) (v := ?_) rfl (by kernel_rfl) (by kernel_rfl) (by kernel_rfl) (fun _ _ _ h => h) (fun _ _ => Iff.rfl) hC (Or.inl ⟨by rfl, ?_⟩) hS (fun hC hS => ?_)
      rotate_left
      · intro W9 hSw; obtain ⟨q0, q1, q2, q3⟩ := hSw.choose_spec.2.2; try dsimp only at q0 q1 q2 q3; go_simp; try (with_reducible rfl)
      try simp only [Act.put, List.setIfInBounds_toArray, List.set_cons_zero, List.set_cons_succ]
      refine wpAnyL_take (i := 12) (oi := { dst := some 20, op := .move (.tmp 0), type := _, pos := _, after := _, guard := none }) (v := ?_) rfl (by kernel_rfl) (by kernel_rfl) (by kernel_rfl) (fun _ _ _ h => h) (fun _ _ => Iff.rfl) hC (Or.inl ⟨by rfl, ?_⟩) hS (fun hC hS => ?_)
      rotate_left
      · intro W9 hSw; skip; go_simp; try (with_reducible rfl)
      try simp only [Act.put, List.setIfInBounds_toArray, List.set_cons_zero, List.set_cons_succ]
      refine wpAnyL_take (i := 13) (oi := { dst := some 21, op := .nilCheck (.tmp 20), type := _, pos := _, after := _, guard := none }) (v := ?_) rfl (by kernel_rfl) (by kernel_rfl) (by kernel_rfl) (fun _ _ _ h => h) (fun _ _ => Iff.rfl) hC (Or.inl ⟨by rfl, ?_⟩) hS (fun hC hS => ?_)
      rotate_left
      · intro W9 hSw; skip; go_simp; try (with_reducible rfl)
      try simp only [Act.put, List.setIfInBounds_toArray, List.set_cons_zero, List.set_cons_succ]
      refine wpAnyL_take (i := 14) (oi := { dst := some 22, op := .fieldAddr 32 (.tmp 21) 3, type := _, pos := _, after := _, guard := none }) (v := ?_) rfl (by kernel_rfl) (by kernel_rfl) (by kernel_rfl) (fun _ _ _ h => h) (fun _ _ => Iff.rfl) hC (Or.inl ⟨by rfl, ?_⟩) hS (fun hC hS => ?_)
      rotate_left
      · intro W9 hSw; skip; go_simp; try (with_reducible rfl)
      try simp only [Act.put, List.setIfInBounds_toArray, List.set_cons_zero, List.set_cons_succ]
      refine wpAnyL_take (i := 15) (oi := { dst := some 23, op := .load 9 (.tmp 22), type := _, pos := _, after := _, guard := none }) (v := ?_) rfl (by kernel_rfl) (by kernel_rfl) (by kernel_rfl) (fun _ _ _ h => h) (fun _ _ => Iff.rfl) hC (Or.inl ⟨by rfl, ?_⟩) hS (fun hC hS => ?_)
      rotate_left
      · intro W9 hSw; obtain ⟨q0, q1, q2, q3⟩ := hSw.choose_spec.2.2; try dsimp only at q0 q1 q2 q3; go_simp; try (with_reducible rfl)
      try simp only [Act.put, List.setIfInBounds_toArray, List.set_cons_zero, List.set_cons_succ]
      refine wpAnyL_take (i := 16) (oi := { dst := some 24, op := .build 29 #[(0, .tmp 11), (1, .tmp 15), (2, .tmp 19), (3, .const (.bool true)), (5, .tmp 23)], type := _, pos := _, after := _, guard := none }) (v := ?_) rfl (by kernel_rfl) (by kernel_rfl) (by kernel_rfl) (fun _ _ _ h => h) (fun _ _ => Iff.rfl) hC (Or.inl ⟨by rfl, ?_⟩) hS (fun hC hS => ?_)
      rotate_left
      · intro W9 hSw; skip; go_simp; try (with_reducible rfl)
      try simp only [Act.put, List.setIfInBounds_toArray, List.set_cons_zero, List.set_cons_succ]
      refine wpAnyL_ready (rs := [17]) (by kernel_rfl) (by simp) hC ?_
      refine AllReadyL.cons (o := { dst := none, op := .store 29 (.tmp 5) (.tmp 24), type := _, pos := _, after := _, guard := none }) rfl (fun K9 hK => ?_) ?_
      · skip
        have cf0 : (v2).cell? ⟨z, 0, none⟩ = some (.int .i64 0) := (cell_of_row _ _ 0 _ _ _ HZ0d.out).trans rfl
        have cf1 : (v2).cell? ⟨z, 1, none⟩ = some (.string ⟨#[]⟩) := (cell_of_row _ _ 1 _ _ _ HZ0d.out).trans rfl
        have cf2 : (v2).cell? ⟨z, 2, none⟩ = some (.string ⟨#[]⟩) := (cell_of_row _ _ 2 _ _ _ HZ0d.out).trans rfl
        have cf3 : (v2).cell? ⟨z, 3, none⟩ = some (.bool false) := (cell_of_row _ _ 3 _ _ _ HZ0d.out).trans rfl
        have cf4 : (v2).cell? ⟨z, 4, none⟩ = some (.bool false) := (cell_of_row _ _ 4 _ _ _ HZ0d.out).trans rfl
        have cf5 : (v2).cell? ⟨z, 5, none⟩ = some (.string ⟨#[]⟩) := (cell_of_row _ _ 5 _ _ _ HZ0d.out).trans rfl
        have cf6 : (v2).cell? ⟨z, 6, none⟩ = some (.string ⟨#[]⟩) := (cell_of_row _ _ 6 _ _ _ HZ0d.out).trans rfl
        have f0 : (v2).frozen? ⟨z, 0, none⟩ = false := frozen_of_row _ _ _ _ _ HZ0d.out
        have f1 : (v2).frozen? ⟨z, 1, none⟩ = false := frozen_of_row _ _ _ _ _ HZ0d.out
        have f2 : (v2).frozen? ⟨z, 2, none⟩ = false := frozen_of_row _ _ _ _ _ HZ0d.out
        have f3 : (v2).frozen? ⟨z, 3, none⟩ = false := frozen_of_row _ _ _ _ _ HZ0d.out
        have f4 : (v2).frozen? ⟨z, 4, none⟩ = false := frozen_of_row _ _ _ _ _ HZ0d.out
        have f5 : (v2).frozen? ⟨z, 5, none⟩ = false := frozen_of_row _ _ _ _ _ HZ0d.out
        have f6 : (v2).frozen? ⟨z, 6, none⟩ = false := frozen_of_row _ _ _ _ _ HZ0d.out
        go_simp
        have HK := Lib.hid ((((((((KK.refl [z] v2).set (b := z) (by simp) 0 (.int .i64 x1)).set (b := z) (by simp) 1 (.string x2)).set (b := z) (by simp) 2 (.string x3)).set (b := z) (by simp) 3 (.bool true)).set (b := z) (by simp) 4 (.bool false)).set (b := z) (by simp) 5 (.string x4)).set (b := z) (by simp) 6 (.string ⟨#[]⟩))
        have HZn := Lib.hid (show (((((((v2.setCell ⟨z, 0, none⟩ (.int .i64 x1)).setCell ⟨z, 1, none⟩ (.string x2)).setCell ⟨z, 2, none⟩ (.string x3)).setCell ⟨z, 3, none⟩ (.bool true)).setCell ⟨z, 4, none⟩ (.bool false)).setCell ⟨z, 5, none⟩ (.string x4)).setCell ⟨z, 6, none⟩ (.string ⟨#[]⟩)).heap[z]? = some (.cells #[.int .i64 x1, .string x2, .string x3, .bool true, .bool false, .string x4, .string ⟨#[]⟩] 29 (0, 0)) by have q := heap_setCell_at (i := 6) (u := .string ⟨#[]⟩) (heap_setCell_at (i := 5) (u := .string x4) (heap_setCell_at (i := 4) (u := .bool false) (heap_setCell_at (i := 3) (u := .bool true) (heap_setCell_at (i := 2) (u := .string x3) (heap_setCell_at (i := 1) (u := .string x2) (heap_setCell_at (i := 0) (u := .int .i64 x1) (HZ0d.out))))))); exact q)
        have HBn := Lib.hid (HK.out.below HB0d.out (fun b hb => by obtain rfl : b = z := (by simpa using hb); exact HZL.out) HB0d.out.size)
        have HXn := Lib.hid (HX0d.out.kk HK.out HXZ.out)
        clear HK HZ0d HB0d HX0d cf0 f0 cf1 f1 cf2 f2 cf3 f3 cf4 f4 cf5 f5 cf6 f6
        generalize (((((((v2.setCell ⟨z, 0, none⟩ (.int .i64 x1)).setCell ⟨z, 1, none⟩ (.string x2)).setCell ⟨z, 2, none⟩ (.string x3)).setCell ⟨z, 3, none⟩ (.bool true)).setCell ⟨z, 4, none⟩ (.bool false)).setCell ⟨z, 5, none⟩ (.string x4)).setCell ⟨z, 6, none⟩ (.string ⟨#[]⟩)) = u21 at *
        have HZ21 := HZn
        clear HZn
        have HB21 := HBn
        clear HBn
        have HX21 := HXn
        clear HXn
        refine hK _ _ HX21.out (fun hC => ?_)
        clear hK K9
        try simp only [Act.put, List.setIfInBounds_toArray, List.set_cons_zero, List.set_cons_succ]
        refine wpAnyL_done (by kernel_rfl) ?_ _
        clear hS hC
        have cf0 : (u21).cell? ⟨z, 0, none⟩ = some (.int .i64 x1) := (cell_of_row _ _ 0 _ _ _ HZ21.out).trans rfl
        have cf1 : (u21).cell? ⟨z, 1, none⟩ = some (.string x2) := (cell_of_row _ _ 1 _ _ _ HZ21.out).trans rfl
        have cf2 : (u21).cell? ⟨z, 2, none⟩ = some (.string x3) := (cell_of_row _ _ 2 _ _ _ HZ21.out).trans rfl
        have cf3 : (u21).cell? ⟨z, 3, none⟩ = some (.bool true) := (cell_of_row _ _ 3 _ _ _ HZ21.out).trans rfl
        have cf4 : (u21).cell? ⟨z, 4, none⟩ = some (.bool false) := (cell_of_row _ _ 4 _ _ _ HZ21.out).trans rfl
        have cf5 : (u21).cell? ⟨z, 5, none⟩ = some (.string x4) := (cell_of_row _ _ 5 _ _ _ HZ21.out).trans rfl
        have cf6 : (u21).cell? ⟨z, 6, none⟩ = some (.string ⟨#[]⟩) := (cell_of_row _ _ 6 _ _ _ HZ21.out).trans rfl
        obtain ⟨V0, hv0, ho0⟩ := (HJ.out.kept HB21.out).bx
        have HV0 := Lib.hid hv0
        have HO0 := Lib.hid ho0
        clear hv0 ho0
        have z0 : u21.cell? ⟨w.heap.size, 0, none⟩ = some V0 := (cell_of_row _ _ 0 _ _ _ HV0.out).trans rfl
        have HSZ := Lib.hid (show w.heap.size + 1 ≤ u21.heap.size from lt_of_block HV0.out)
        obtain ⟨V0a, V0n, V0c, rfl⟩ := HO0.out.sl3
        go_wp2_with (at_builtin; refine wpList_appX rfl (.tmp 63) (.tmp 65) 23 29 _ 80 rfl Try.underlying23 info_cg rfl (by omega) (by omega) cgC_len cgC_one (w.heap.size + 1) u21 ((Below.refl _ _).alloc HSZ.out _) (Nat.le_trans HSZ.out (by simp)) (.slice V0a V0n V0c) acc rfl (HO0.out.alloc _) u21.heap.size 1 (x1, x2, x3, true, false, x4, ⟨#[]⟩) #[.int .i64 x1, .string x2, .string x3, .bool true, .bool false, .string x4, .string ⟨#[]⟩] 29 (0, 0) rfl (heap_alloc_new u21 _) rfl (by have := HAC.out; omega) ?_)
        intro v9 w9 HO9 HB9 _ _
        obtain ⟨A9, n9, c9, rfl⟩ := HO9.out.sl3
        have HV9 := Lib.hid (show w9.heap[w.heap.size]? = some (.cells #[.slice V0a V0n V0c] 23 (0, 0)) from (HB9.out.block _ (Nat.lt_succ_self _)).trans HV0.out)
        clear z0 cf0 cf1 cf2 cf3 cf4 cf5 cf6
        have z0 : w9.cell? ⟨w.heap.size, 0, none⟩ = some (.slice V0a V0n V0c) := (cell_of_row _ _ 0 _ _ _ HV9.out).trans rfl
        have f0 : w9.frozen? ⟨w.heap.size, 0, none⟩ = false := frozen_of_row _ _ _ _ _ HV9.out
        have HK9 := Lib.hid ((KK.refl [w.heap.size] w9).set (b := w.heap.size) (by simp) 0 (.slice A9 n9 c9))
        have HW9 := Lib.hid (show (w9.setCell ⟨w.heap.size, 0, none⟩ (.slice A9 n9 c9)).heap[w.heap.size]? = some (.cells #[.slice A9 n9 c9] 23 (0, 0)) from heap_setCell_at (i := 0) (u := .slice A9 n9 c9) HV9.out)
        have HR9 := Lib.hid (HO9.out.kk HK9.out (fun b hb => by obtain rfl : b = w.heap.size := (by simpa using hb); omega))
        have HL9 := Lib.hid (show Below w.heap.size w w9 from (HJ.out.kept HB21.out).bel.trans (HB9.out.mono (Nat.le_succ _)))
        have HM9 := Lib.hid (HK9.out.below HL9.out (fun b hb => by obtain rfl : b = w.heap.size := (by simpa using hb); exact Nat.le_refl _) (Nat.le_of_lt (lt_of_block HV9.out)))
        go_wp2_with fail
        refine bodyPost_end (results_none rfl _ _ _) rfl ?_
        exact ⟨rfl, by rw [HO.out]; exact ⟨⟨_, HW9.out, HR9.out⟩, HM9.out⟩⟩
      exact AllReadyL.nil
    | some y =>
      obtain ⟨yb, yo, rfl, hcy⟩ := hy
      obtain ⟨y1, y2, y3, y4⟩ := y
      have HY0 := Lib.hid (hcy.below HB0.out)
      have HYZ := Lib.hid (show yb ≠ z from fun e => by have := hcy.lt; omega)
      clear hcy
      obtain ⟨k1, k2, k3⟩ := hsk _ _ rfl rfl
      dsimp only at k1 k2 k3
      subst k1 k2 k3
      by_cases he : x4 = y4
      · subst he
        have HO := Lib.hid (show outD (some (x1, x2, x3, x4), some (x1, x2, x3, x4)) = [] from by have s0 : (x4 != x4) = false := (by simp [bne, (beq_sameD x4).1]); unfold outD chD unB; simp [s0])
        obtain ⟨s1, s2⟩ := beq_sameD x4
        clear hxy hz hsk
        go_enter Try.func22, Try.ntmps22
        go_upto_region 1 with (fail)
        rw [← HV.out, ← HZE.out]
        go_upto_region 2 with (fail)
        have HZ0d := Lib.hid (show v.drew.heap[z]? = some (.cells #[.int .i64 0, .string ⟨#[]⟩, .string ⟨#[]⟩, .bool false, .bool false, .string ⟨#[]⟩, .string ⟨#[]⟩] 29 (0, 0)) from HZ0.out)
        have HB0d := Lib.hid HB0.out.drew
        have HX0d := Lib.hid (HX0.out.below (Below.refl _ _).drew)
        have HY0d := Lib.hid (HY0.out.below (Below.refl _ _).drew)
        clear HB0 HZ0 HX0 HY0
        refine wp_region_L_drew (S := fun _ W => C4 W xb xo (x1, x2, x3, x4)) (by kernel_rfl) HX0d.out (fun hS hC => ?_)
        generalize v.drew = v2 at *
        refine wpAnyL_take (i := 0) (oi := { dst := some 8, op := .move (.tmp 0), type := _, pos := _, after := _, guard := none }) (v := ?_) rfl (by kernel_rfl) (by kernel_rfl) (by kernel_rfl) (fun _ _ _ h => h) (fun _ _ => Iff.rfl) hC (Or.inl ⟨by rfl, ?_⟩) hS (fun hC hS => ?_)
        rotate_left
        · intro W9 hSw; skip; go_simp; try (with_reducible rfl)
        try simp only [Act.put, List.setIfInBounds_toArray, List.set_cons_zero, List.set_cons_succ]
        refine wpAnyL_take (i := 1) (oi := { dst := some 9, op := .nilCheck (.tmp 8), type := _, pos := _, after := _, guard := none }) (v := ?_) rfl (by kernel_rfl) (by kernel_rfl) (by kernel_rfl) (fun _ _ _ h => h) (fun _ _ => Iff.rfl) hC (Or.inl ⟨by rfl, ?_⟩) hS (fun hC hS => ?_)
        rotate_left
        · intro W9 hSw; skip; go_simp; try (with_reducible rfl)
        try simp only [Act.put, List.setIfInBounds_toArray, List.set_cons_zero, List.set_cons_succ]
        refine wpAnyL_take (i := 2) (oi := { dst := some 10, op := .fieldAddr 32 (.tmp 9) 0, type := _, pos := _, after := _, guard := none }) (v := ?_) rfl (by kernel_rfl) (by kernel_rfl) (by kernel_rfl) (fun _ _ _ h => h) (fun _ _ => Iff.rfl) hC (Or.inl ⟨by rfl, ?_⟩) hS (fun hC hS => ?_)
        rotate_left
        · intro W9 hSw; skip; go_simp; try (with_reducible rfl)
        try simp only [Act.put, List.setIfInBounds_toArray, List.set_cons_zero, List.set_cons_succ]
        refine wpAnyL_take (i := 3) (oi := { dst := some 11, op := .load 3 (.tmp 10), type := _, pos := _, after := _, guard := none }) (v := ?_) rfl (by kernel_rfl) (by kernel_rfl) (by kernel_rfl) (fun _ _ _ h => h) (fun _ _ => Iff.rfl) hC (Or.inl ⟨by rfl, ?_⟩) hS (fun hC hS => ?_)
        rotate_left
        · intro W9 hSw; obtain ⟨q0, q1, q2, q3⟩ := hSw.choose_spec.2.2; try dsimp only at q0 q1 q2 q3; go_simp; try (with_reducible rfl)
        try simp only [Act.put, List.setIfInBounds_toArray, List.set_cons_zero, List.set_cons_succ]
        refine wpAnyL_take (i := 4) (oi := { dst := some 12, op := .move (.tmp 0), type := _, pos := _, after := _, guard := none }) (v := ?_) rfl (by kernel_rfl) (by kernel_rfl) (by kernel_rfl) (fun _ _ _ h => h) (fun _ _ => Iff.rfl) hC (Or.inl ⟨by rfl, ?_⟩) hS (fun hC hS => ?_)
        rotate_left
        · intro W9 hSw; skip; go_simp; try (with_reducible rfl)
        try simp only [Act.put, List.setIfInBounds_toArray, List.set_cons_zero, List.set_cons_succ]
        refine wpAnyL_take (i := 5) (oi := { dst := some 13, op := .nilCheck (.tmp 12), type := _, pos := _, after := _, guard := none }) (v := ?_) rfl (by kernel_rfl) (by kernel_rfl) (by kernel_rfl) (fun _ _ _ h => h) (fun _ _ => Iff.rfl) hC (Or.inl ⟨by rfl, ?_⟩) hS (fun hC hS => ?_)
        rotate_left
        · intro W9 hSw; skip; go_simp; try (with_reducible rfl)
        try simp only [Act.put, List.setIfInBounds_toArray, List.set_cons_zero, List.set_cons_succ]
        refine wpAnyL_take (i := 6) (oi := { dst := some 14, op := .fieldAddr 32 (.tmp 13) 1, type := _, pos := _, after := _, guard := none }) (v := ?_) rfl (by kernel_rfl) (by kernel_rfl) (by kernel_rfl) (fun _ _ _ h => h) (fun _ _ => Iff.rfl) hC (Or.inl ⟨by rfl, ?_⟩) hS (fun hC hS => ?_)
        rotate_left
        · intro W9 hSw; skip; go_simp; try (with_reducible rfl)
        try simp only [Act.put, List.setIfInBounds_toArray, List.set_cons_zero, List.set_cons_succ]
        refine wpAnyL_take (i := 7) (oi := { dst := some 15, op := .load 9 (.tmp 14), type := _, pos := _, after := _, guard := none }) (v := ?_) rfl (by kernel_rfl) (by kernel_rfl) (by kernel_rfl) (fun _ _ _ h => h) (fun _ _ => Iff.rfl) hC (Or.inl ⟨by rfl, ?_⟩) hS (fun hC hS => ?_)
        rotate_left
        · intro W9 hSw; obtain ⟨q0, q1, q2, q3⟩ := hSw.choose_spec.2.2; try dsimp only at q0 q1 q2 q3; go_simp; try (with_reducible rfl)
        try simp only [Act.put, List.setIfInBounds_toArray, List.set_cons_zero, List.set_cons_succ]
        refine wpAnyL_take (i := 8) (oi := { dst := some 16, op := .move (.tmp 0), type := _, pos := _, after := _, guard := none }) (v := ?_) rfl (by kernel_rfl) (by kernel_rfl) (by kernel_rfl) (fun _ _ _ h => h) (fun _ _ => Iff.rfl) hC (Or.inl ⟨by rfl, ?_⟩) hS (fun hC hS => ?_)
        rotate_left
        · intro W9 hSw; skip; go_simp; try (with_reducible rfl)
        try simp only [Act.put, List.setIfInBounds_toArray, List.set_cons_zero, List.set_cons_succ]
        refine wpAnyL_take (i := 9) (oi := { dst := some 17, op := .nilCheck (.tmp 16), type := _, pos := _, after := _, guard := none }) (v := ?_) rfl (by kernel_rfl) (by kernel_rfl) (by kernel_rfl) (fun _ _ _ h => h) (fun _ _ => Iff.rfl) hC (Or.inl ⟨by rfl, ?_⟩) hS (fun hC hS => ?_)
        rotate_left
        · intro W9 hSw; skip; go_simp; try (with_reducible rfl)
        try simp only [Act.put, List.setIfInBounds_toArray, List.set_cons_zero, List.set_cons_succ]
        refine wpAnyL_take (i := 10) (oi := { dst := some 18, op := .fieldAddr 32 (.tmp 17) 2, type := _, pos := _, after := _, guard := none }) (v := ?_) rfl (by kernel_rfl) (by kernel_rfl) (by kernel_rfl) (fun _ _ _ h => h) (fun _ _ => Iff.rfl) hC (Or.inl ⟨by rfl, ?_⟩) hS (fun hC hS => ?_)
        rotate_left
        · intro W9 hSw; skip; go_simp; try (with_reducible rfl)
        try simp only [Act.put, List.setIfInBounds_toArray, List.set_cons_zero, List.set_cons_succ]
        refine wpAnyL_take (i := 11) (oi := { dst := some 19, op := .load 9 (.tmp 18), type := _, pos := _, after := _, guard := none }) (v := ?_) rfl (by kernel_rfl) (by kernel_rfl) (by kernel_rfl) (fun _ _ _ h => h) (fun _ _ => Iff.rfl) hC (Or.inl ⟨by rfl, ?_⟩) hS (fun hC hS => ?_)
        rotate_left
        · intro W9 hSw; obtain ⟨q0, q1, q2, q3⟩ := hSw.choose_spec.2.2; try dsimp only at q0 q1 q2 q3; go_simp; try (with_reducible rfl)
        try simp only [Act.put, List.setIfInBounds_toArray, List.set_cons_zero, List.set_cons_succ]
        refine wpAnyL_take (i := 12) (oi := { dst := some 20, op := .move (.tmp 0), type := _, pos := _, after := _, guard := none }) (v := ?_) rfl (by kernel_rfl) (by kernel_rfl) (by kernel_rfl) (fun _ _ _ h => h) (fun _ _ => Iff.rfl) hC (Or.inl ⟨by rfl, ?_⟩) hS (fun hC hS => ?_)
        rotate_left
        · intro W9 hSw; skip; go_simp; try (with_reducible rfl)
        try simp only [Act.put, List.setIfInBounds_toArray, List.set_cons_zero, List.set_cons_succ]
        refine wpAnyL_take (i := 13) (oi := { dst := some 21, op := .nilCheck (.tmp 20), type := _, pos := _, after := _, guard := none }) (v := ?_) rfl (by kernel_rfl) (by kernel_rfl) (by kernel_rfl) (fun _ _ _ h => h) (fun _ _ => Iff.rfl) hC (Or.inl ⟨by rfl, ?_⟩) hS (fun hC hS => ?_)
        rotate_left
        · intro W9 hSw; skip; go_simp; try (with_reducible rfl)
        try simp only [Act.put, List.setIfInBounds_toArray, List.set_cons_zero, List.set_cons_succ]
        refine wpAnyL_take (i := 14) (oi := { dst := some 22, op := .fieldAddr 32 (.tmp 21) 3, type := _, pos := _, after := _, guard := none }) (v := ?_) rfl (by kernel_rfl) (by kernel_rfl) (by kernel_rfl) (fun _ _ _ h => h) (fun _ _ => Iff.rfl) hC (Or.inl ⟨by rfl, ?_⟩) hS (fun hC hS => ?_)
        rotate_left
        · intro W9 hSw; skip; go_simp; try (with_reducible rfl)
        try simp only [Act.put, List.setIfInBounds_toArray, List.set_cons_zero, List.set_cons_succ]
        refine wpAnyL_take (i := 15) (oi := { dst := some 23, op := .load 9 (.tmp 22), type := _, pos := _, after := _, guard := none }) (v := ?_) rfl (by kernel_rfl) (by kernel_rfl) (by kernel_rfl) (fun _ _ _ h => h) (fun _ _ => Iff.rfl) hC (Or.inl ⟨by rfl, ?_⟩) hS (fun hC hS => ?_)
        rotate_left
        · intro W9 hSw; obtain ⟨q0, q1, q2, q3⟩ := hSw.choose_spec.2.2; try dsimp only at q0 q1 q2 q3; go_simp; try (with_reducible rfl)
        try simp only [Act.put, List.setIfInBounds_toArray, List.set_cons_zero, List.set_cons_succ]
        refine wpAnyL_take (i := 16) (oi := { dst := some 24, op := .build 29 #[(0, .tmp 11), (1, .tmp 15), (2, .tmp 19), (3, .const (.bool true)), (5, .tmp 23)], type := _, pos := _, after := _, guard := none }) (v := ?_) rfl (by kernel_rfl) (by kernel_rfl) (by kernel_rfl) (fun _ _ _ h => h) (fun _ _ => Iff.rfl) hC (Or.inl ⟨by rfl, ?_⟩) hS (fun hC hS => ?_)
        rotate_left
        · intro W9 hSw; skip; go_simp; try (with_reducible rfl)
        try simp only [Act.put, List.setIfInBounds_toArray, List.set_cons_zero, List.set_cons_succ]
        refine wpAnyL_ready (rs := [17]) (by kernel_rfl) (by simp) hC ?_
        refine AllReadyL.cons (o := { dst := none, op := .store 29 (.tmp 5) (.tmp 24), type := _, pos := _, after := _, guard := none }) rfl (fun K9 hK => ?_) ?_
        · skip
          have cf0 : (v2).cell? ⟨z, 0, none⟩ = some (.int .i64 0) := (cell_of_row _ _ 0 _ _ _ HZ0d.out).trans rfl
          have cf1 : (v2).cell? ⟨z, 1, none⟩ = some (.string ⟨#[]⟩) := (cell_of_row _ _ 1 _ _ _ HZ0d.out).trans rfl
          have cf2 : (v2).cell? ⟨z, 2, none⟩ = some (.string ⟨#[]⟩) := (cell_of_row _ _ 2 _ _ _ HZ0d.out).trans rfl
          have cf3 : (v2).cell? ⟨z, 3, none⟩ = some (.bool false) := (cell_of_row _ _ 3 _ _ _ HZ0d.out).trans rfl
          have cf4 : (v2).cell? ⟨z, 4, none⟩ = some (.bool false) := (cell_of_row _ _ 4 _ _ _ HZ0d.out).trans rfl
          have cf5 : (v2).cell? ⟨z, 5, none⟩ = some (.string ⟨#[]⟩) := (cell_of_row _ _ 5 _ _ _ HZ0d.out).trans rfl
          have cf6 : (v2).cell? ⟨z, 6, none⟩ = some (.string ⟨#[]⟩) := (cell_of_row _ _ 6 _ _ _ HZ0d.out).trans rfl
          have f0 : (v2).frozen? ⟨z, 0, none⟩ = false := frozen_of_row _ _ _ _ _ HZ0d.out
          have f1 : (v2).frozen? ⟨z, 1, none⟩ = false := frozen_of_row _ _ _ _ _ HZ0d.out
          have f2 : (v2).frozen? ⟨z, 2, none⟩ = false := frozen_of_row _ _ _ _ _ HZ0d.out
          have f3 : (v2).frozen? ⟨z, 3, none⟩ = false := frozen_of_row _ _ _ _ _ HZ0d.out
          have f4 : (v2).frozen? ⟨z, 4, none⟩ = false := frozen_of_row _ _ _ _ _ HZ0d.out
          have f5 : (v2).frozen? ⟨z, 5, none⟩ = false := frozen_of_row _ _ _ _ _ HZ0d.out
          have f6 : (v2).frozen? ⟨z, 6, none⟩ = false := frozen_of_row _ _ _ _ _ HZ0d.out
          go_simp
          have HK := Lib.hid ((((((((KK.refl [z] v2).set (b := z) (by simp) 0 (.int .i64 x1)).set (b := z) (by simp) 1 (.string x2)).set (b := z) (by simp) 2 (.string x3)).set (b := z) (by simp) 3 (.bool true)).set (b := z) (by simp) 4 (.bool false)).set (b := z) (by simp) 5 (.string x4)).set (b := z) (by simp) 6 (.string ⟨#[]⟩))
          have HZn := Lib.hid (show (((((((v2.setCell ⟨z, 0, none⟩ (.int .i64 x1)).setCell ⟨z, 1, none⟩ (.string x2)).setCell ⟨z, 2, none⟩ (.string x3)).setCell ⟨z, 3, none⟩ (.bool true)).setCell ⟨z, 4, none⟩ (.bool false)).setCell ⟨z, 5, none⟩ (.string x4)).setCell ⟨z, 6, none⟩ (.string ⟨#[]⟩)).heap[z]? = some (.cells #[.int .i64 x1, .string x2, .string x3, .bool true, .bool false, .string x4, .string ⟨#[]⟩] 29 (0, 0)) by have q := heap_setCell_at (i := 6) (u := .string ⟨#[]⟩) (heap_setCell_at (i := 5) (u := .string x4) (heap_setCell_at (i := 4) (u := .bool false) (heap_setCell_at (i := 3) (u := .bool true) (heap_setCell_at (i := 2) (u := .string x3) (heap_setCell_at (i := 1) (u := .string x2) (heap_setCell_at (i := 0) (u := .int .i64 x1) (HZ0d.out))))))); exact q)
          have HBn := Lib.hid (HK.out.below HB0d.out (fun b hb => by obtain rfl : b = z := (by simpa using hb); exact HZL.out) HB0d.out.size)
          have HXn := Lib.hid (HX0d.out.kk HK.out HXZ.out)
          have HYn := Lib.hid (HY0d.out.kk HK.out HYZ.out)
          clear HK HZ0d HB0d HX0d HY0d cf0 f0 cf1 f1 cf2 f2 cf3 f3 cf4 f4 cf5 f5 cf6 f6
          generalize (((((((v2.setCell ⟨z, 0, none⟩ (.int .i64 x1)).setCell ⟨z, 1, none⟩ (.string x2)).setCell ⟨z, 2, none⟩ (.string x3)).setCell ⟨z, 3, none⟩ (.bool true)).setCell ⟨z, 4, none⟩ (.bool false)).setCell ⟨z, 5, none⟩ (.string x4)).setCell ⟨z, 6, none⟩ (.string ⟨#[]⟩)) = u21 at *
          have HZ21 := HZn
          clear HZn
          have HB21 := HBn
          clear HBn
          have HX21 := HXn
          clear HXn
          have HY21 := HYn
          clear HYn
          refine hK _ _ HX21.out (fun hC => ?_)
          clear hK K9
          try simp only [Act.put, List.setIfInBounds_toArray, List.set_cons_zero, List.set_cons_succ]
          refine wpAnyL_done (by kernel_rfl) ?_ _
          clear hS hC
          go_upto_region 4 with (fail)
          have HZ21d := Lib.hid (show u21.drew.heap[z]? = some (.cells #[.int .i64 x1, .string x2, .string x3, .bool true, .bool false, .string x4, .string ⟨#[]⟩] 29 (0, 0)) from HZ21.out)
          have HB21d := Lib.hid HB21.out.drew
          have HX21d := Lib.hid (HX21.out.below (Below.refl _ _).drew)
          have HY21d := Lib.hid (HY21.out.below (Below.refl _ _).drew)
          clear HB21 HZ21 HX21 HY21
          refine wp_region_L_drew (S := fun _ W => C4 W yb yo (x1, x2, x3, x4)) (by kernel_rfl) HY21d.out (fun hS hC => ?_)
          generalize u21.drew = v4 at *
          refine wpAnyL_take (i := 0) (oi := { dst := some 27, op := .move (.tmp 1), type := _, pos := _, after := _, guard := none }) (v := ?_) rfl (by kernel_rfl) (by kernel_rfl) (by kernel_rfl) (fun _ _ _ h => h) (fun _ _ => Iff.rfl) hC (Or.inl ⟨by rfl, ?_⟩) hS (fun hC hS => ?_)
          rotate_left
          · intro W9 hSw; skip; go_simp; try (with_reducible rfl)
          try simp only [Act.put, List.setIfInBounds_toArray, List.set_cons_zero, List.set_cons_succ]
          refine wpAnyL_take (i := 1) (oi := { dst := some 28, op := .nilCheck (.tmp 27), type := _, pos := _, after := _, guard := none }) (v := ?_) rfl (by kernel_rfl) (by kernel_rfl) (by kernel_rfl) (fun _ _ _ h => h) (fun _ _ => Iff.rfl) hC (Or.inl ⟨by rfl, ?_⟩) hS (fun hC hS => ?_)
          rotate_left
          · intro W9 hSw; skip; go_simp; try (with_reducible rfl)
          try simp only [Act.put, List.setIfInBounds_toArray, List.set_cons_zero, List.set_cons_succ]
          refine wpAnyL_take (i := 2) (oi := { dst := some 29, op := .fieldAddr 32 (.tmp 28) 0, type := _, pos := _, after := _, guard := none }) (v := ?_) rfl (by kernel_rfl) (by kernel_rfl) (by kernel_rfl) (fun _ _ _ h => h) (fun _ _ => Iff.rfl) hC (Or.inl ⟨by rfl, ?_⟩) hS (fun hC hS => ?_)
          rotate_left
          · intro W9 hSw; skip; go_simp; try (with_reducible rfl)
          try simp only [Act.put, List.setIfInBounds_toArray, List.set_cons_zero, List.set_cons_succ]
          refine wpAnyL_take (i := 3) (oi := { dst := some 30, op := .load 3 (.tmp 29), type := _, pos := _, after := _, guard := none }) (v := ?_) rfl (by kernel_rfl) (by kernel_rfl) (by kernel_rfl) (fun _ _ _ h => h) (fun _ _ => Iff.rfl) hC (Or.inl ⟨by rfl, ?_⟩) hS (fun hC hS => ?_)
          rotate_left
          · intro W9 hSw; obtain ⟨q0, q1, q2, q3⟩ := hSw.choose_spec.2.2; try dsimp only at q0 q1 q2 q3; go_simp; try (with_reducible rfl)
          try simp only [Act.put, List.setIfInBounds_toArray, List.set_cons_zero, List.set_cons_succ]
          refine wpAnyL_take (i := 4) (oi := { dst := some 31, op := .move (.tmp 1), type := _, pos := _, after := _, guard := none }) (v := ?_) rfl (by kernel_rfl) (by kernel_rfl) (by kernel_rfl) (fun _ _ _ h => h) (fun _ _ => Iff.rfl) hC (Or.inl ⟨by rfl, ?_⟩) hS (fun hC hS => ?_)
          rotate_left
          · intro W9 hSw; skip; go_simp; try (with_reducible rfl)
          try simp only [Act.put, List.setIfInBounds_toArray, List.set_cons_zero, List.set_cons_succ]
          refine wpAnyL_take (i := 5) (oi := { dst := some 32, op := .nilCheck (.tmp 31), type := _, pos := _, after := _, guard := none }) (v := ?_) rfl (by kernel_rfl) (by kernel_rfl) (by kernel_rfl) (fun _ _ _ h => h) (fun _ _ => Iff.rfl) hC (Or.inl ⟨by rfl, ?_⟩) hS (fun hC hS => ?_)
          rotate_left
          · intro W9 hSw; skip; go_simp; try (with_reducible rfl)
          try simp only [Act.put, List.setIfInBounds_toArray, List.set_cons_zero, List.set_cons_succ]
          refine wpAnyL_take (i := 6) (oi := { dst := some 33, op := .fieldAddr 32 (.tmp 32) 1, type := _, pos := _, after := _, guard := none }) (v := ?_) rfl (by kernel_rfl) (by kernel_rfl) (by kernel_rfl) (fun _ _ _ h => h) (fun _ _ => Iff.rfl) hC (Or.inl ⟨by rfl, ?_⟩) hS (fun hC hS => ?_)
          rotate_left
          · intro W9 hSw; skip; go_simp; try (with_reducible rfl)
          try simp only [Act.put, List.setIfInBounds_toArray, List.set_cons_zero, List.set_cons_succ]
          refine wpAnyL_take (i := 7) (oi := { dst := some 34, op := .load 9 (.tmp 33), type := _, pos := _, after := _, guard := none }) (v := ?_) rfl (by kernel_rfl) (by kernel_rfl) (by kernel_rfl) (fun _ _ _ h => h) (fun _ _ => Iff.rfl) hC (Or.inl ⟨by rfl, ?_⟩) hS (fun hC hS => ?_)
          rotate_left
          · intro W9 hSw; obtain ⟨q0, q1, q2, q3⟩ := hSw.choose_spec.2.2; try dsimp only at q0 q1 q2 q3; go_simp; try (with_reducible rfl)
          try simp only [Act.put, List.setIfInBounds_toArray, List.set_cons_zero, List.set_cons_succ]
          refine wpAnyL_take (i := 8) (oi := { dst := some 35, op := .move (.tmp 1), type := _, pos := _, after := _, guard := none }) (v := ?_) rfl (by kernel_rfl) (by kernel_rfl) (by kernel_rfl) (fun _ _ _ h => h) (fun _ _ => Iff.rfl) hC (Or.inl ⟨by rfl, ?_⟩) hS (fun hC hS => ?_)
          rotate_left
          · intro W9 hSw; skip; go_simp; try (with_reducible rfl)
          try simp only [Act.put, List.setIfInBounds_toArray, List.set_cons_zero, List.set_cons_succ]
          refine wpAnyL_take (i := 9) (oi := { dst := some 36, op := .nilCheck (.tmp 35), type := _, pos := _, after := _, guard := none }) (v := ?_) rfl (by kernel_rfl) (by kernel_rfl) (by kernel_rfl) (fun _ _ _ h => h) (fun _ _ => Iff.rfl) hC (Or.inl ⟨by rfl, ?_⟩) hS (fun hC hS => ?_)
          rotate_left
          · intro W9 hSw; skip; go_simp; try (with_reducible rfl)
          try simp only [Act.put, List.setIfInBounds_toArray, List.set_cons_zero, List.set_cons_succ]
          refine wpAnyL_take (i := 10) (oi := { dst := some 37, op := .fieldAddr 32 (.tmp 36) 2, type := _, pos := _, after := _, guard := none }) (v := ?_) rfl (by kernel_rfl) (by kernel_rfl) (by kernel_rfl) (fun _ _ _ h => h) (fun _ _ => Iff.rfl) hC (Or.inl ⟨by rfl, ?_⟩) hS (fun hC hS => ?_)
          rotate_left
          · intro W9 hSw; skip; go_simp; try (with_reducible rfl)
          try simp only [Act.put, List.setIfInBounds_toArray, List.set_cons_zero, List.set_cons_succ]
          refine wpAnyL_take (i := 11) (oi := { dst := some 38, op := .load 9 (.tmp 37), type := _, pos := _, after := _, guard := none }) (v := ?_) rfl (by kernel_rfl) (by kernel_rfl) (by kernel_rfl) (fun _ _ _ h => h) (fun _ _ => Iff.rfl) hC (Or.inl ⟨by rfl, ?_⟩) hS (fun hC hS => ?_)
          rotate_left
          · intro W9 hSw; obtain ⟨q0, q1, q2, q3⟩ := hSw.choose_spec.2.2; try dsimp only at q0 q1 q2 q3; go_simp; try (with_reducible rfl)
          try simp only [Act.put, List.setIfInBounds_toArray, List.set_cons_zero, List.set_cons_succ]
          refine wpAnyL_take (i := 12) (oi := { dst := some 39, op := .move (.tmp 1), type := _, pos := _, after := _, guard := none }) (v := ?_) rfl (by kernel_rfl) (by kernel_rfl) (by kernel_rfl) (fun _ _ _ h => h) (fun _ _ => Iff.rfl) hC (Or.inl ⟨by rfl, ?_⟩) hS (fun hC hS => ?_)
          rotate_left
          · intro W9 hSw; skip; go_simp; try (with_reducible rfl)
          try simp only [Act.put, List.setIfInBounds_toArray, List.set_cons_zero, List.set_cons_succ]
          refine wpAnyL_take (i := 13) (oi := { dst := some 40, op := .nilCheck (.tmp 39), type := _, pos := _, after := _, guard := none }) (v := ?_) rfl (by kernel_rfl) (by kernel_rfl) (by kernel_rfl) (fun _ _ _ h => h) (fun _ _ => Iff.rfl) hC (Or.inl ⟨by rfl, ?_⟩) hS (fun hC hS => ?_)
          rotate_left
          · intro W9 hSw; skip; go_simp; try (with_reducible rfl)
          try simp only [Act.put, List.setIfInBounds_toArray, List.set_cons_zero, List.set_cons_succ]
          refine wpAnyL_take (i := 14) (oi := { dst := some 41, op := .fieldAddr 32 (.tmp 40) 3, type := _, pos := _, after := _, guard := none }) (v := ?_) rfl (by kernel_rfl) (by kernel_rfl) (by kernel_rfl) (fun _ _ _ h => h) (fun _ _ => Iff.rfl) hC (Or.inl ⟨by rfl, ?_⟩) hS (fun hC hS => ?_)
          rotate_left
          · intro W9 hSw; skip; go_simp; try (with_reducible rfl)
          try simp only [Act.put, List.setIfInBounds_toArray, List.set_cons_zero, List.set_cons_succ]
          refine wpAnyL_take (i := 15) (oi := { dst := some 42, op := .load 9 (.tmp 41), type := _, pos := _, after := _, guard := none }) (v := ?_) rfl (by kernel_rfl) (by kernel_rfl) (by kernel_rfl) (fun _ _ _ h => h) (fun _ _ => Iff.rfl) hC (Or.inl ⟨by rfl, ?_⟩) hS (fun hC hS => ?_)
          rotate_left
          · intro W9 hSw; obtain ⟨q0, q1, q2, q3⟩ := hSw.choose_spec.2.2; try dsimp only at q0 q1 q2 q3; go_simp; try (with_reducible rfl)
          try simp only [Act.put, List.setIfInBounds_toArray, List.set_cons_zero, List.set_cons_succ]
          refine wpAnyL_take (i := 16) (oi := { dst := some 43, op := .fieldAddr 29 (.tmp 5) 0, type := _, pos := _, after := _, guard := none }) (v := ?_) rfl (by kernel_rfl) (by kernel_rfl) (by kernel_rfl) (fun _ _ _ h => h) (fun _ _ => Iff.rfl) hC (Or.inl ⟨by rfl, ?_⟩) hS (fun hC hS => ?_)
          rotate_left
          · intro W9 hSw; skip; go_simp; try (with_reducible rfl)
          try simp only [Act.put, List.setIfInBounds_toArray, List.set_cons_zero, List.set_cons_succ]
          refine wpAnyL_ready (rs := [17]) (by kernel_rfl) (by simp) hC ?_
          refine AllReadyL.cons (o := { dst := none, op := .store 3 (.tmp 43) (.tmp 30), type := _, pos := _, after := _, guard := none }) rfl (fun K9 hK => ?_) ?_
          · skip
            have cf0 : (v4).cell? ⟨z, 0, none⟩ = some (.int .i64 x1) := (cell_of_row _ _ 0 _ _ _ HZ21d.out).trans rfl
            have f0 : (v4).frozen? ⟨z, 0, none⟩ = false := frozen_of_row _ _ _ _ _ HZ21d.out
            go_simp
            have HK := Lib.hid ((KK.refl [z] v4).set (b := z) (by simp) 0 (.int .i64 x1))
            have HZn := Lib.hid (show (v4.setCell ⟨z, 0, none⟩ (.int .i64 x1)).heap[z]? = some (.cells #[.int .i64 x1, .string x2, .string x3, .bool true, .bool false, .string x4, .string ⟨#[]⟩] 29 (0, 0)) by have q := heap_setCell_at (i := 0) (u := .int .i64 x1) (HZ21d.out); exact q)
            have HBn := Lib.hid (HK.out.below HB21d.out (fun b hb => by obtain rfl : b = z := (by simpa using hb); exact HZL.out) HB21d.out.size)
            have HXn := Lib.hid (HX21d.out.kk HK.out HXZ.out)
            have HYn := Lib.hid (HY21d.out.kk HK.out HYZ.out)
            clear HK HZ21d HB21d HX21d HY21d cf0 f0
            generalize (v4.setCell ⟨z, 0, none⟩ (.int .i64 x1)) = u41 at *
            have HZ41 := HZn
            clear HZn
            have HB41 := HBn
            clear HBn
            have HX41 := HXn
            clear HXn
            have HY41 := HYn
            clear HYn
            refine hK _ _ HY41.out (fun hC => ?_)
            clear hK K9
            try simp only [Act.put, List.setIfInBounds_toArray, List.set_cons_zero, List.set_cons_succ]
            refine wpAnyL_take (i := 18) (oi := { dst := some 44, op := .fieldAddr 29 (.tmp 5) 1, type := _, pos := _, after := _, guard := none }) (v := ?_) rfl (by kernel_rfl) (by kernel_rfl) (by kernel_rfl) (fun _ _ _ h => h) (fun _ _ => Iff.rfl) hC (Or.inl ⟨by rfl, ?_⟩) HY41.out (fun hC hS => ?_)
            rotate_left
            · intro W9 hSw; skip; go_simp; try (with_reducible rfl)
            try simp only [Act.put, List.setIfInBounds_toArray, List.set_cons_zero, List.set_cons_succ]
            refine wpAnyL_ready (rs := [19]) (by kernel_rfl) (by simp) hC ?_
            refine AllReadyL.cons (o := { dst := none, op := .store 9 (.tmp 44) (.tmp 34), type := _, pos := _, after := _, guard := none }) rfl (fun K9 hK => ?_) ?_
            · skip
              have cf1 : (u41).cell? ⟨z, 1, none⟩ = some (.string x2) := (cell_of_row _ _ 1 _ _ _ HZ41.out).trans rfl
              have f1 : (u41).frozen? ⟨z, 1, none⟩ = false := frozen_of_row _ _ _ _ _ HZ41.out
              go_simp
              have HK := Lib.hid ((KK.refl [z] u41).set (b := z) (by simp) 1 (.string x2))
              have HZn := Lib.hid (show (u41.setCell ⟨z, 1, none⟩ (.string x2)).heap[z]? = some (.cells #[.int .i64 x1, .string x2, .string x3, .bool true, .bool false, .string x4, .string ⟨#[]⟩] 29 (0, 0)) by have q := heap_setCell_at (i := 1) (u := .string x2) (HZ41.out); exact q)
              have HBn := Lib.hid (HK.out.below HB41.out (fun b hb => by obtain rfl : b = z := (by simpa using hb); exact HZL.out) HB41.out.size)
              have HXn := Lib.hid (HX41.out.kk HK.out HXZ.out)
              have HYn := Lib.hid (HY41.out.kk HK.out HYZ.out)
              clear HK HZ41 HB41 HX41 HY41 cf1 f1
              generalize (u41.setCell ⟨z, 1, none⟩ (.string x2)) = u42 at *
              have HZ42 := HZn
              clear HZn
              have HB42 := HBn
              clear HBn
              have HX42 := HXn
              clear HXn
              have HY42 := HYn
              clear HYn
              refine hK _ _ HY42.out (fun hC => ?_)
              clear hK K9
              try simp only [Act.put, List.setIfInBounds_toArray, List.set_cons_zero, List.set_cons_succ]
              refine wpAnyL_take (i := 20) (oi := { dst := some 45, op := .fieldAddr 29 (.tmp 5) 2, type := _, pos := _, after := _, guard := none }) (v := ?_) rfl (by kernel_rfl) (by kernel_rfl) (by kernel_rfl) (fun _ _ _ h => h) (fun _ _ => Iff.rfl) hC (Or.inl ⟨by rfl, ?_⟩) HY42.out (fun hC hS => ?_)
              rotate_left
              · intro W9 hSw; skip; go_simp; try (with_reducible rfl)
              try simp only [Act.put, List.setIfInBounds_toArray, List.set_cons_zero, List.set_cons_succ]
              refine wpAnyL_ready (rs := [21]) (by kernel_rfl) (by simp) hC ?_
              refine AllReadyL.cons (o := { dst := none, op := .store 9 (.tmp 45) (.tmp 38), type := _, pos := _, after := _, guard := none }) rfl (fun K9 hK => ?_) ?_
              · skip
                have cf2 : (u42).cell? ⟨z, 2, none⟩ = some (.string x3) := (cell_of_row _ _ 2 _ _ _ HZ42.out).trans rfl
                have f2 : (u42).frozen? ⟨z, 2, none⟩ = false := frozen_of_row _ _ _ _ _ HZ42.out
                go_simp
                have HK := Lib.hid ((KK.refl [z] u42).set (b := z) (by simp) 2 (.string x3))
                have HZn := Lib.hid (show (u42.setCell ⟨z, 2, none⟩ (.string x3)).heap[z]? = some (.cells #[.int .i64 x1, .string x2, .string x3, .bool true, .bool false, .string x4, .string ⟨#[]⟩] 29 (0, 0)) by have q := heap_setCell_at (i := 2) (u := .string x3) (HZ42.out); exact q)
                have HBn := Lib.hid (HK.out.below HB42.out (fun b hb => by obtain rfl : b = z := (by simpa using hb); exact HZL.out) HB42.out.size)
                have HXn := Lib.hid (HX42.out.kk HK.out HXZ.out)
                have HYn := Lib.hid (HY42.out.kk HK.out HYZ.out)
                clear HK HZ42 HB42 HX42 HY42 cf2 f2
                generalize (u42.setCell ⟨z, 2, none⟩ (.string x3)) = u43 at *
                have HZ43 := HZn
                clear HZn
                have HB43 := HBn
                clear HBn
                have HX43 := HXn
                clear HXn
                have HY43 := HYn
                clear HYn
                refine hK _ _ HY43.out (fun hC => ?_)
                clear hK K9
                try simp only [Act.put, List.setIfInBounds_toArray, List.set_cons_zero, List.set_cons_succ]
                refine wpAnyL_take (i := 22) (oi := { dst := some 46, op := .fieldAddr 29 (.tmp 5) 4, type := _, pos := _, after := _, guard := none }) (v := ?_) rfl (by kernel_rfl) (by kernel_rfl) (by kernel_rfl) (fun _ _ _ h => h) (fun _ _ => Iff.rfl) hC (Or.inl ⟨by rfl, ?_⟩) HY43.out (fun hC hS => ?_)
                rotate_left
                · intro W9 hSw; skip; go_simp; try (with_reducible rfl)
                try simp only [Act.put, List.setIfInBounds_toArray, List.set_cons_zero, List.set_cons_succ]
                refine wpAnyL_ready (rs := [23]) (by kernel_rfl) (by simp) hC ?_
                refine AllReadyL.cons (o := { dst := none, op := .store 4 (.tmp 46) (.const (.bool true)), type := _, pos := _, after := _, guard := none }) rfl (fun K9 hK => ?_) ?_
                · skip
                  have cf4 : (u43).cell? ⟨z, 4, none⟩ = some (.bool false) := (cell_of_row _ _ 4 _ _ _ HZ43.out).trans rfl
                  have f4 : (u43).frozen? ⟨z, 4, none⟩ = false := frozen_of_row _ _ _ _ _ HZ43.out
                  go_simp
                  have HK := Lib.hid ((KK.refl [z] u43).set (b := z) (by simp) 4 (.bool true))
                  have HZn := Lib.hid (show (u43.setCell ⟨z, 4, none⟩ (.bool true)).heap[z]? = some (.cells #[.int .i64 x1, .string x2, .string x3, .bool true, .bool true, .string x4, .string ⟨#[]⟩] 29 (0, 0)) by have q := heap_setCell_at (i := 4) (u := .bool true) (HZ43.out); exact q)
                  have HBn := Lib.hid (HK.out.below HB43.out (fun b hb => by obtain rfl : b = z := (by simpa using hb); exact HZL.out) HB43.out.size)
                  have HXn := Lib.hid (HX43.out.kk HK.out HXZ.out)
                  have HYn := Lib.hid (HY43.out.kk HK.out HYZ.out)
                  clear HK HZ43 HB43 HX43 HY43 cf4 f4
                  generalize (u43.setCell ⟨z, 4, none⟩ (.bool true)) = u44 at *
                  have HZ44 := HZn
                  clear HZn
                  have HB44 := HBn
                  clear HBn
                  have HX44 := HXn
                  clear HXn
                  have HY44 := HYn
                  clear HYn
                  refine hK _ _ HY44.out (fun hC => ?_)
                  clear hK K9
                  try simp only [Act.put, List.setIfInBounds_toArray, List.set_cons_zero, List.set_cons_succ]
                  refine wpAnyL_take (i := 24) (oi := { dst := some 47, op := .fieldAddr 29 (.tmp 5) 6, type := _, pos := _, after := _, guard := none }) (v := ?_) rfl (by kernel_rfl) (by kernel_rfl) (by kernel_rfl) (fun _ _ _ h => h) (fun _ _ => Iff.rfl) hC (Or.inl ⟨by rfl, ?_⟩) HY44.out (fun hC hS => ?_)
                  rotate_left
                  · intro W9 hSw; skip; go_simp; try (with_reducible rfl)
                  try simp only [Act.put, List.setIfInBounds_toArray, List.set_cons_zero, List.set_cons_succ]
                  refine wpAnyL_ready (rs := [25]) (by kernel_rfl) (by simp) hC ?_
                  refine AllReadyL.cons (o := { dst := none, op := .store 9 (.tmp 47) (.tmp 42), type := _, pos := _, after := _, guard := none }) rfl (fun K9 hK => ?_) ?_
                  · skip
                    have cf6 : (u44).cell? ⟨z, 6, none⟩ = some (.string ⟨#[]⟩) := (cell_of_row _ _ 6 _ _ _ HZ44.out).trans rfl
                    have f6 : (u44).frozen? ⟨z, 6, none⟩ = false := frozen_of_row _ _ _ _ _ HZ44.out
                    go_simp
                    have HK := Lib.hid ((KK.refl [z] u44).set (b := z) (by simp) 6 (.string x4))
                    have HZn := Lib.hid (show (u44.setCell ⟨z, 6, none⟩ (.string x4)).heap[z]? = some (.cells #[.int .i64 x1, .string x2, .string x3, .bool true, .bool true, .string x4, .string x4] 29 (0, 0)) by have q := heap_setCell_at (i := 6) (u := .string x4) (HZ44.out); exact q)
                    have HBn := Lib.hid (HK.out.below HB44.out (fun b hb => by obtain rfl : b = z := (by simpa using hb); exact HZL.out) HB44.out.size)
                    have HXn := Lib.hid (HX44.out.kk HK.out HXZ.out)
                    have HYn := Lib.hid (HY44.out.kk HK.out HYZ.out)
                    clear HK HZ44 HB44 HX44 HY44 cf6 f6
                    generalize (u44.setCell ⟨z, 6, none⟩ (.string x4)) = u45 at *
                    have HZ45 := HZn
                    clear HZn
                    have HB45 := HBn
                    clear HBn
                    have HX45 := HXn
                    clear HXn
                    have HY45 := HYn
                    clear HYn
                    refine hK _ _ HY45.out (fun hC => ?_)
                    clear hK K9
                    try simp only [Act.put, List.setIfInBounds_toArray, List.set_cons_zero, List.set_cons_succ]
                    refine wpAnyL_done (by kernel_rfl) ?_ _
                    clear hS hC
                    have cf0 : (u45).cell? ⟨z, 0, none⟩ = some (.int .i64 x1) := (cell_of_row _ _ 0 _ _ _ HZ45.out).trans rfl
                    have cf1 : (u45).cell? ⟨z, 1, none⟩ = some (.string x2) := (cell_of_row _ _ 1 _ _ _ HZ45.out).trans rfl
                    have cf2 : (u45).cell? ⟨z, 2, none⟩ = some (.string x3) := (cell_of_row _ _ 2 _ _ _ HZ45.out).trans rfl
                    have cf3 : (u45).cell? ⟨z, 3, none⟩ = some (.bool true) := (cell_of_row _ _ 3 _ _ _ HZ45.out).trans rfl
                    have cf4 : (u45).cell? ⟨z, 4, none⟩ = some (.bool true) := (cell_of_row _ _ 4 _ _ _ HZ45.out).trans rfl
                    have cf5 : (u45).cell? ⟨z, 5, none⟩ = some (.string x4) := (cell_of_row _ _ 5 _ _ _ HZ45.out).trans rfl
                    have cf6 : (u45).cell? ⟨z, 6, none⟩ = some (.string x4) := (cell_of_row _ _ 6 _ _ _ HZ45.out).trans rfl
                    go_wp2_with fail
                    refine bodyPost_end (results_none rfl _ _ _) rfl ?_
                    exact ⟨rfl, by rw [HO.out, List.append_nil]; exact HJ.out.kept HB45.out⟩
                  exact AllReadyL.nil
                exact AllReadyL.nil
              exact AllReadyL.nil
            exact AllReadyL.nil
          exact AllReadyL.nil
        exact AllReadyL.nil
      · obtain ⟨s1, s2⟩ := beq_neD he
        have s3 : (x4 != y4) = true := by simp [bne, s1]
        have HO := Lib.hid (show outD (some (x1, x2, x3, x4), some (x1, x2, x3, y4)) = [(x1, x2, x3, true, true, x4, y4)] from by unfold outD chD unB; simp [s3, ptF])
        clear hxy hz hsk he
        go_enter Try.func22, Try.ntmps22
        go_upto_region 1 with (fail)
        rw [← HV.out, ← HZE.out]
        go_upto_region 2 with (fail)
        have HZ0d := Lib.hid (show v.drew.heap[z]? = some (.cells #[.int .i64 0, .string ⟨#[]⟩, .string ⟨#[]⟩, .bool false, .bool false, .string ⟨#[]⟩, .string ⟨#[]⟩] 29 (0, 0)) from HZ0.out)
        have HB0d := Lib.hid HB0.out.drew
        have HX0d := Lib.hid (HX0.out.below (Below.refl _ _).drew)
        have HY0d := Lib.hid (HY0.out.below (Below.refl _ _).drew)
        clear HB0 HZ0 HX0 HY0
        refine wp_region_L_drew (S := fun _ W => C4 W xb xo (x1, x2, x3, x4)) (by kernel_rfl) HX0d.out (fun hS hC => ?_)
        generalize v.drew = v2 at *
        refine wpAnyL_take (i := 0) (oi := { dst := some 8, op := .move (.tmp 0), type := _, pos := _, after := _, guard := none }) (v := ?_) rfl (by kernel_rfl) (by kernel_rfl) (by kernel_rfl) (fun _ _ _ h => h) (fun _ _ => Iff.rfl) hC (Or.inl ⟨by rfl, ?_⟩) hS (fun hC hS => ?_)
        rotate_left
        · intro W9 hSw; skip; go_simp; try (with_reducible rfl)
        try simp only [Act.put, List.setIfInBounds_toArray, List.set_cons_zero, List.set_cons_succ]
        refine wpAnyL_take (i := 1) (oi := { dst := some 9, op := .nilCheck (.tmp 8), type := _, pos := _, after := _, guard := none }) (v := ?_) rfl (by kernel_rfl) (by kernel_rfl) (by kernel_rfl) (fun _ _ _ h => h) (fun _ _ => Iff.rfl) hC (Or.inl ⟨by rfl, ?_⟩) hS (fun hC hS => ?_)
        rotate_left
        · intro W9 hSw; skip; go_simp; try (with_reducible rfl)
        try simp only [Act.put, List.setIfInBounds_toArray, List.set_cons_zero, List.set_cons_succ]
        refine wpAnyL_take (i := 2) (oi := { dst := some 10, op := .fieldAddr 32 (.tmp 9) 0, type := _, pos := _, after := _, guard := none }) (v := ?_) rfl (by kernel_rfl) (by kernel_rfl) (by kernel_rfl) (fun _ _ _ h => h) (fun _ _ => Iff.rfl) hC (Or.inl ⟨by rfl, ?_⟩) hS (fun hC hS => ?_)
        rotate_left
        · intro W9 hSw; skip; go_simp; try (with_reducible rfl)
        try simp only [Act.put, List.setIfInBounds_toArray, List.set_cons_zero, List.set_cons_succ]
        refine wpAnyL_take (i := 3) (oi := { dst := some 11, op := .load 3 (.tmp 10), type := _, pos := _, after := _, guard := none }) (v := ?_) rfl (by kernel_rfl) (by kernel_rfl) (by kernel_rfl) (fun _ _ _ h => h) (fun _ _ => Iff.rfl) hC (Or.inl ⟨by rfl, ?_⟩) hS (fun hC hS => ?_)
        rotate_left
        · intro W9 hSw; obtain ⟨q0, q1, q2, q3⟩ := hSw.choose_spec.2.2; try dsimp only at q0 q1 q2 q3; go_simp; try (with_reducible rfl)
        try simp only [Act.put, List.setIfInBounds_toArray, List.set_cons_zero, List.set_cons_succ]
        refine wpAnyL_take (i := 4) (oi := { dst := some 12, op := .move (.tmp 0), type := _, pos := _, after := _, guard := none }) (v := ?_) rfl (by kernel_rfl) (by kernel_rfl) (by kernel_rfl) (fun _ _ _ h => h) (fun _ _ => Iff.rfl) hC (Or.inl ⟨by rfl, ?_⟩) hS (fun hC hS => ?_)
        rotate_left
        · intro W9 hSw; skip; go_simp; try (with_reducible rfl)
        try simp only [Act.put, List.setIfInBounds_toArray, List.set_cons_zero, List.set_cons_succ]
        refine wpAnyL_take (i := 5) (oi := { dst := some 13, op := .nilCheck (.tmp 12), type := _, pos := _, after := _, guard := none }) (v := ?_) rfl (by kernel_rfl) (by kernel_rfl) (by kernel_rfl) (fun _ _ _ h => h) (fun _ _ => Iff.rfl) hC (Or.inl ⟨by rfl, ?_⟩) hS (fun hC hS => ?_)
        rotate_left
        · intro W9 hSw; skip; go_simp; try (with_reducible rfl)
        try simp only [Act.put, List.setIfInBounds_toArray, List.set_cons_zero, List.set_cons_succ]
        refine wpAnyL_take (i := 6) (oi := { dst := some 14, op := .fieldAddr 32 (.tmp 13) 1, type := _, pos := _, after := _, guard := none }) (v := ?_) rfl (by kernel_rfl) (by kernel_rfl) (by kernel_rfl) (fun _ _ _ h => h) (fun _ _ => Iff.rfl) hC (Or.inl ⟨by rfl, ?_⟩) hS (fun hC hS => ?_)
        rotate_left
        · intro W9 hSw; skip; go_simp; try (with_reducible rfl)
        try simp only [Act.put, List.setIfInBounds_toArray, List.set_cons_zero, List.set_cons_succ]
        refine wpAnyL_take (i := 7) (oi := { dst := some 15, op := .load 9 (.tmp 14), type := _, pos := _, after := _, guard := none }) (v := ?_) rfl (by kernel_rfl) (by kernel_rfl) (by kernel_rfl) (fun _ _ _ h => h) (fun _ _ => Iff.rfl) hC (Or.inl ⟨by rfl, ?_⟩) hS (fun hC hS => ?_)
        rotate_left
        · intro W9 hSw; obtain ⟨q0, q1, q2, q3⟩ := hSw.choose_spec.2.2; try dsimp only at q0 q1 q2 q3; go_simp; try (with_reducible rfl)
        try simp only [Act.put, List.setIfInBounds_toArray, List.set_cons_zero, List.set_cons_succ]
        refine wpAnyL_take (i := 8) (oi := { dst := some 16, op := .move (.tmp 0), type := _, pos := _, after := _, guard := none }) (v := ?_) rfl (by kernel_rfl) (by kernel_rfl) (by kernel_rfl) (fun _ _ _ h => h) (fun _ _ => Iff.rfl) hC (Or.inl ⟨by rfl, ?_⟩) hS (fun hC hS => ?_)
        rotate_left
        · intro W9 hSw; skip; go_simp; try (with_reducible rfl)
        try simp only [Act.put, List.setIfInBounds_toArray, List.set_cons_zero, List.set_cons_succ]
        refine wpAnyL_take (i := 9) (oi := { dst := some 17, op := .nilCheck (.tmp 16), type := _, pos := _, after := _, guard := none }) (v := ?_) rfl (by kernel_rfl) (by kernel_rfl) (by kernel_rfl) (fun _ _ _ h => h) (fun _ _ => Iff.rfl) hC (Or.inl ⟨by rfl, ?_⟩) hS (fun hC hS => ?_)
        rotate_left
        · intro W9 hSw; skip; go_simp; try (with_reducible rfl)
        try simp only [Act.put, List.setIfInBounds_toArray, List.set_cons_zero, List.set_cons_succ]
        refine wpAnyL_take (i := 10) (oi := { dst := some 18, op := .fieldAddr 32 (.tmp 17) 2, type := _, pos := _, after := _, guard := none }) (v := ?_) rfl (by kernel_rfl) (by kernel_rfl) (by kernel_rfl) (fun _ _ _ h => h) (fun _ _ => Iff.rfl) hC (Or.inl ⟨by rfl, ?_⟩) hS (fun hC hS => ?_)
        rotate_left
        · intro W9 hSw; skip; go_simp; try (with_reducible rfl)
        try simp only [Act.put, List.setIfInBounds_toArray, List.set_cons_zero, List.set_cons_succ]
        refine wpAnyL_take (i := 11) (oi := { dst := some 19, op := .load 9 (.tmp 18), type := _, pos := _, after := _, guard := none }) (v := ?_) rfl (by kernel_rfl) (by kernel_rfl) (by kernel_rfl) (fun _ _ _ h => h) (fun _ _ => Iff.rfl) hC (Or.inl ⟨by rfl, ?_⟩) hS (fun hC hS => ?_)
        rotate_left
        · intro W9 hSw; obtain ⟨q0, q1, q2, q3⟩ := hSw.choose_spec.2.2; try dsimp only at q0 q1 q2 q3; go_simp; try (with_reducible rfl)
        try simp only [Act.put, List.setIfInBounds_toArray, List.set_cons_zero, List.set_cons_succ]
        refine wpAnyL_take (i := 12) (oi := { dst := some 20, op := .move (.tmp 0), type := _, pos := _, after := _, guard := none }) (v := ?_) rfl (by kernel_rfl) (by kernel_rfl) (by kernel_rfl) (fun _ _ _ h => h) (fun _ _ => Iff.rfl) hC (Or.inl ⟨by rfl, ?_⟩) hS (fun hC hS => ?_)
        rotate_left
        · intro W9 hSw; skip; go_simp; try (with_reducible rfl)
        try simp only [Act.put, List.setIfInBounds_toArray, List.set_cons_zero, List.set_cons_succ]
        refine wpAnyL_take (i := 13) (oi := { dst := some 21, op := .nilCheck (.tmp 20), type := _, pos := _, after := _, guard := none }) (v := ?_) rfl (by kernel_rfl) (by kernel_rfl) (by kernel_rfl) (fun _ _ _ h => h) (fun _ _ => Iff.rfl) hC (Or.inl ⟨by rfl, ?_⟩) hS (fun hC hS => ?_)
        rotate_left
        · intro W9 hSw; skip; go_simp; try (with_reducible rfl)
        try simp only [Act.put, List.setIfInBounds_toArray, List.set_cons_zero, List.set_cons_succ]
        refine wpAnyL_take (i := 14) (oi := { dst := some 22, op := .fieldAddr 32 (.tmp 21) 3, type := _, pos := _, after := _, guard := none }) (v := ?_) rfl (by kernel_rfl) (by kernel_rfl) (by kernel_rfl) (fun _ _ _ h => h) (fun _ _ => Iff.rfl) hC (Or.inl ⟨by rfl, ?_⟩) hS (fun hC hS => ?_)
        rotate_left
        · intro W9 hSw; skip; go_simp; try (with_reducible rfl)
        try simp only [Act.put, List.setIfInBounds_toArray, List.set_cons_zero, List.set_cons_succ]
        refine wpAnyL_take (i := 15) (oi := { dst := some 23, op := .load 9 (.tmp 22), type := _, pos := _, after := _, guard := none }) (v := ?_) rfl (by kernel_rfl) (by kernel_rfl) (by kernel_rfl) (fun _ _ _ h => h) (fun _ _ => Iff.rfl) hC (Or.inl ⟨by rfl, ?_⟩) hS (fun hC hS => ?_)
        rotate_left
        · intro W9 hSw; obtain ⟨q0, q1, q2, q3⟩ := hSw.choose_spec.2.2; try dsimp only at q0 q1 q2 q3; go_simp; try (with_reducible rfl)
        try simp only [Act.put, List.setIfInBounds_toArray, List.set_cons_zero, List.set_cons_succ]
        refine wpAnyL_take (i := 16) (oi := { dst := some 24, op := .build 29 #[(0, .tmp 11), (1, .tmp 15), (2, .tmp 19), (3, .const (.bool true)), (5, .tmp 23)], type := _, pos := _, after := _, guard := none }) (v := ?_) rfl (by kernel_rfl) (by kernel_rfl) (by kernel_rfl) (fun _ _ _ h => h) (fun _ _ => Iff.rfl) hC (Or.inl ⟨by rfl, ?_⟩) hS (fun hC hS => ?_)
        rotate_left
        · intro W9 hSw; skip; go_simp; try (with_reducible rfl)
        try simp only [Act.put, List.setIfInBounds_toArray, List.set_cons_zero, List.set_cons_succ]
        refine wpAnyL_ready (rs := [17]) (by kernel_rfl) (by simp) hC ?_
        refine AllReadyL.cons (o := { dst := none, op := .store 29 (.tmp 5) (.tmp 24), type := _, pos := _, after := _, guard := none }) rfl (fun K9 hK => ?_) ?_
        · skip
          have cf0 : (v2).cell? ⟨z, 0, none⟩ = some (.int .i64 0) := (cell_of_row _ _ 0 _ _ _ HZ0d.out).trans rfl
          have cf1 : (v2).cell? ⟨z, 1, none⟩ = some (.string ⟨#[]⟩) := (cell_of_row _ _ 1 _ _ _ HZ0d.out).trans rfl
          have cf2 : (v2).cell? ⟨z, 2, none⟩ = some (.string ⟨#[]⟩) := (cell_of_row _ _ 2 _ _ _ HZ0d.out).trans rfl
          have cf3 : (v2).cell? ⟨z, 3, none⟩ = some (.bool false) := (cell_of_row _ _ 3 _ _ _ HZ0d.out).trans rfl
          have cf4 : (v2).cell? ⟨z, 4, none⟩ = some (.bool false) := (cell_of_row _ _ 4 _ _ _ HZ0d.out).trans rfl
          have cf5 : (v2).cell? ⟨z, 5, none⟩ = some (.string ⟨#[]⟩) := (cell_of_row _ _ 5 _ _ _ HZ0d.out).trans rfl
          have cf6 : (v2).cell? ⟨z, 6, none⟩ = some (.string ⟨#[]⟩) := (cell_of_row _ _ 6 _ _ _ HZ0d.out).trans rfl
          have f0 : (v2).frozen? ⟨z, 0, none⟩ = false := frozen_of_row _ _ _ _ _ HZ0d.out
          have f1 : (v2).frozen? ⟨z, 1, none⟩ = false := frozen_of_row _ _ _ _ _ HZ0d.out
          have f2 : (v2).frozen? ⟨z, 2, none⟩ = false := frozen_of_row _ _ _ _ _ HZ0d.out
          have f3 : (v2).frozen? ⟨z, 3, none⟩ = false := frozen_of_row _ _ _ _ _ HZ0d.out
          have f4 : (v2).frozen? ⟨z, 4, none⟩ = false := frozen_of_row _ _ _ _ _ HZ0d.out
          have f5 : (v2).frozen? ⟨z, 5, none⟩ = false := frozen_of_row _ _ _ _ _ HZ0d.out
          have f6 : (v2).frozen? ⟨z, 6, none⟩ = false := frozen_of_row _ _ _ _ _ HZ0d.out
          go_simp
          have HK := Lib.hid ((((((((KK.refl [z] v2).set (b := z) (by simp) 0 (.int .i64 x1)).set (b := z) (by simp) 1 (.string x2)).set (b := z) (by simp) 2 (.string x3)).set (b := z) (by simp) 3 (.bool true)).set (b := z) (by simp) 4 (.bool false)).set (b := z) (by simp) 5 (.string x4)).set (b := z) (by simp) 6 (.string ⟨#[]⟩))
          have HZn := Lib.hid (show (((((((v2.setCell ⟨z, 0, none⟩ (.int .i64 x1)).setCell ⟨z, 1, none⟩ (.string x2)).setCell ⟨z, 2, none⟩ (.string x3)).setCell ⟨z, 3, none⟩ (.bool true)).setCell ⟨z, 4, none⟩ (.bool false)).setCell ⟨z, 5, none⟩ (.string x4)).setCell ⟨z, 6, none⟩ (.string ⟨#[]⟩)).heap[z]? = some (.cells #[.int .i64 x1, .string x2, .string x3, .bool true, .bool false, .string x4, .string ⟨#[]⟩] 29 (0, 0)) by have q := heap_setCell_at (i := 6) (u := .string ⟨#[]⟩) (heap_setCell_at (i := 5) (u := .string x4) (heap_setCell_at (i := 4) (u := .bool false) (heap_setCell_at (i := 3) (u := .bool true) (heap_setCell_at (i := 2) (u := .string x3) (heap_setCell_at (i := 1) (u := .string x2) (heap_setCell_at (i := 0) (u := .int .i64 x1) (HZ0d.out))))))); exact q)
          have HBn := Lib.hid (HK.out.below HB0d.out (fun b hb => by obtain rfl : b = z := (by simpa using hb); exact HZL.out) HB0d.out.size)
          have HXn := Lib.hid (HX0d.out.kk HK.out HXZ.out)
          have HYn := Lib.hid (HY0d.out.kk HK.out HYZ.out)
          clear HK HZ0d HB0d HX0d HY0d cf0 f0 cf1 f1 cf2 f2 cf3 f3 cf4 f4 cf5 f5 cf6 f6
          generalize (((((((v2.setCell ⟨z, 0, none⟩ (.int .i64 x1)).setCell ⟨z, 1, none⟩ (.string x2)).setCell ⟨z, 2, none⟩ (.string x3)).setCell ⟨z, 3, none⟩ (.bool true)).setCell ⟨z, 4, none⟩ (.bool false)).setCell ⟨z, 5, none⟩ (.string x4)).setCell ⟨z, 6, none⟩ (.string ⟨#[]⟩)) = u21 at *
          have HZ21 := HZn
          clear HZn
          have HB21 := HBn
          clear HBn
          have HX21 := HXn
          clear HXn
          have HY21 := HYn
          clear HYn
          refine hK _ _ HX21.out (fun hC => ?_)
          clear hK K9
          try simp only [Act.put, List.setIfInBounds_toArray, List.set_cons_zero, List.set_cons_succ]
          refine wpAnyL_done (by kernel_rfl) ?_ _
          clear hS hC
          go_upto_region 4 with (fail)
          have HZ21d := Lib.hid (show u21.drew.heap[z]? = some (.cells #[.int .i64 x1, .string x2, .string x3, .bool true, .bool false, .string x4, .string ⟨#[]⟩] 29 (0, 0)) from HZ21.out)
          have HB21d := Lib.hid HB21.out.drew
          have HX21d := Lib.hid (HX21.out.below (Below.refl _ _).drew)
          have HY21d := Lib.hid (HY21.out.below (Below.refl _ _).drew)
          clear HB21 HZ21 HX21 HY21
          refine wp_region_L_drew (S := fun _ W => C4 W yb yo (x1, x2, x3, y4)) (by kernel_rfl) HY21d.out (fun hS hC => ?_)
          generalize u21.drew = v4 at *
          refine wpAnyL_take (i := 0) (oi := { dst := some 27, op := .move (.tmp 1), type := _, pos := _, after := _, guard := none }) (v := ?_) rfl (by kernel_rfl) (by kernel_rfl) (by kernel_rfl) (fun _ _ _ h => h) (fun _ _ => Iff.rfl) hC (Or.inl ⟨by rfl, ?_⟩) hS (fun hC hS => ?_)
          rotate_left
          · intro W9 hSw; skip; go_simp; try (with_reducible rfl)
          try simp only [Act.put, List.setIfInBounds_toArray, List.set_cons_zero, List.set_cons_succ]
          refine wpAnyL_take (i := 1) (oi := { dst := some 28, op := .nilCheck (.tmp 27), type := _, pos := _, after := _, guard := none }) (v := ?_) rfl (by kernel_rfl) (by kernel_rfl) (by kernel_rfl) (fun _ _ _ h => h) (fun _ _ => Iff.rfl) hC (Or.inl ⟨by rfl, ?_⟩) hS (fun hC hS => ?_)
          rotate_left
          · intro W9 hSw; skip; go_simp; try (with_reducible rfl)
          try simp only [Act.put, List.setIfInBounds_toArray, List.set_cons_zero, List.set_cons_succ]
          refine wpAnyL_take (i := 2) (oi := { dst := some 29, op := .fieldAddr 32 (.tmp 28) 0, type := _, pos := _, after := _, guard := none }) (v := ?_) rfl (by kernel_rfl) (by kernel_rfl) (by kernel_rfl) (fun _ _ _ h => h) (fun _ _ => Iff.rfl) hC (Or.inl ⟨by rfl, ?_⟩) hS (fun hC hS => ?_)
          rotate_left
          · intro W9 hSw; skip; go_simp; try (with_reducible rfl)
          try simp only [Act.put, List.setIfInBounds_toArray, List.set_cons_zero, List.set_cons_succ]
          refine wpAnyL_take (i := 3) (oi := { dst := some 30, op := .load 3 (.tmp 29), type := _, pos := _, after := _, guard := none }) (v := ?_) rfl (by kernel_rfl) (by kernel_rfl) (by kernel_rfl) (fun _ _ _ h => h) (fun _ _ => Iff.rfl) hC (Or.inl ⟨by rfl, ?_⟩) hS (fun hC hS => ?_)
          rotate_left
          · intro W9 hSw; obtain ⟨q0, q1, q2, q3⟩ := hSw.choose_spec.2.2; try dsimp only at q0 q1 q2 q3; go_simp; try (with_reducible rfl)
          try simp only [Act.put, List.setIfInBounds_toArray, List.set_cons_zero, List.set_cons_succ]
          refine wpAnyL_take (i := 4) (oi := { dst := some 31, op := .move (.tmp 1), type := _, pos := _, after := _, guard := none }) (v := ?_) rfl (by kernel_rfl) (by kernel_rfl) (by kernel_rfl) (fun _ _ _ h => h) (fun _ _ => Iff.rfl) hC (Or.inl ⟨by rfl, ?_⟩) hS (fun hC hS => ?_)
          rotate_left
          · intro W9 hSw; skip; go_simp; try (with_reducible rfl)
          try simp only [Act.put, List.setIfInBounds_toArray, List.set_cons_zero, List.set_cons_succ]
          refine wpAnyL_take (i := 5) (oi := { dst := some 32, op := .nilCheck (.tmp 31), type := _, pos := _, after := _, guard := none }) (v := ?_) rfl (by kernel_rfl) (by kernel_rfl) (by kernel_rfl) (fun _ _ _ h => h) (fun _ _ => Iff.rfl) hC (Or.inl ⟨by rfl, ?_⟩) hS (fun hC hS => ?_)
          rotate_left
          · intro W9 hSw; skip; go_simp; try (with_reducible rfl)
          try simp only [Act.put, List.setIfInBounds_toArray, List.set_cons_zero, List.set_cons_succ]
          refine wpAnyL_take (i := 6) (oi := { dst := some 33, op := .fieldAddr 32 (.tmp 32) 1, type := _, pos := _, after := _, guard := none }) (v := ?_) rfl (by kernel_rfl) (by kernel_rfl) (by kernel_rfl) (fun _ _ _ h => h) (fun _ _ => Iff.rfl) hC (Or.inl ⟨by rfl, ?_⟩) hS (fun hC hS => ?_)
          rotate_left
          · intro W9 hSw; skip; go_simp; try (with_reducible rfl)
          try simp only [Act.put, List.setIfInBounds_toArray, List.set_cons_zero, List.set_cons_succ]
          refine wpAnyL_take (i := 7) (oi := { dst := some 34, op := .load 9 (.tmp 33), type := _, pos := _, after := _, guard := none }) (v := ?_) rfl (by kernel_rfl) (by kernel_rfl) (by kernel_rfl) (fun _ _ _ h => h) (fun _ _ => Iff.rfl) hC (Or.inl ⟨by rfl, ?_⟩) hS (fun hC hS => ?_)
          rotate_left
          · intro W9 hSw; obtain ⟨q0, q1, q2, q3⟩ := hSw.choose_spec.2.2; try dsimp only at q0 q1 q2 q3; go_simp; try (with_reducible rfl)
          try simp only [Act.put, List.setIfInBounds_toArray, List.set_cons_zero, List.set_cons_succ]
          refine wpAnyL_take (i := 8) (oi := { dst := some 35, op := .move (.tmp 1), type := _, pos := _, after := _, guard := none }) (v := ?_) rfl (by kernel_rfl) (by kernel_rfl) (by kernel_rfl) (fun _ _ _ h => h) (fun _ _ => Iff.rfl) hC (Or.inl ⟨by rfl, ?_⟩) hS (fun hC hS => ?_)
          rotate_left
          · intro W9 hSw; skip; go_simp; try (with_reducible rfl)
          try simp only [Act.put, List.setIfInBounds_toArray, List.set_cons_zero, List.set_cons_succ]
          refine wpAnyL_take (i := 9) (oi := { dst := some 36, op := .nilCheck (.tmp 35), type := _, pos := _, after := _, guard := none }) (v := ?_) rfl (by kernel_rfl) (by kernel_rfl) (by kernel_rfl) (fun _ _ _ h => h) (fun _ _ => Iff.rfl) hC (Or.inl ⟨by rfl, ?_⟩) hS (fun hC hS => ?_)
          rotate_left
          · intro W9 hSw; skip; go_simp; try (with_reducible rfl)
          try simp only [Act.put, List.setIfInBounds_toArray, List.set_cons_zero, List.set_cons_succ]
          refine wpAnyL_take (i := 10) (oi := { dst := some 37, op := .fieldAddr 32 (.tmp 36) 2, type := _, pos := _, after := _, guard := none }) (v := ?_) rfl (by kernel_rfl) (by kernel_rfl) (by kernel_rfl) (fun _ _ _ h => h) (fun _ _ => Iff.rfl) hC (Or.inl ⟨by rfl, ?_⟩) hS (fun hC hS => ?_)
          rotate_left
          · intro W9 hSw; skip; go_simp; try (with_reducible rfl)
          try simp only [Act.put, List.setIfInBounds_toArray, List.set_cons_zero, List.set_cons_succ]
          refine wpAnyL_take (i := 11) (oi := { dst := some 38, op := .load 9 (.tmp 37), type := _, pos := _, after := _, guard := none }) (v := ?_) rfl (by kernel_rfl) (by kernel_rfl) (by kernel_rfl) (fun _ _ _ h => h) (fun _ _ => Iff.rfl) hC (Or.inl ⟨by rfl, ?_⟩) hS (fun hC hS => ?_)
          rotate_left
          · intro W9 hSw; obtain ⟨q0, q1, q2, q3⟩ := hSw.choose_spec.2.2; try dsimp only at q0 q1 q2 q3; go_simp; try (with_reducible rfl)
          try simp only [Act.put, List.setIfInBounds_toArray, List.set_cons_zero, List.set_cons_succ]
          refine wpAnyL_take (i := 12) (oi := { dst := some 39, op := .move (.tmp 1), type := _, pos := _, after := _, guard := none }) (v := ?_) rfl (by kernel_rfl) (by kernel_rfl) (by kernel_rfl) (fun _ _ _ h => h) (fun _ _ => Iff.rfl) hC (Or.inl ⟨by rfl, ?_⟩) hS (fun hC hS => ?_)
          rotate_left
          · intro W9 hSw; skip; go_simp; try (with_reducible rfl)
          try simp only [Act.put, List.setIfInBounds_toArray, List.set_cons_zero, List.set_cons_succ]
          refine wpAnyL_take (i := 13) (oi := { dst := some 40, op := .nilCheck (.tmp 39), type := _, pos := _, after := _, guard := none }) (v := ?_) rfl (by kernel_rfl) (by kernel_rfl) (by kernel_rfl) (fun _ _ _ h => h) (fun _ _ => Iff.rfl) hC (Or.inl ⟨by rfl, ?_⟩) hS (fun hC hS => ?_)
          rotate_left
          · intro W9 hSw; skip; go_simp; try (with_reducible rfl)
          try simp only [Act.put, List.setIfInBounds_toArray, List.set_cons_zero, List.set_cons_succ]
          refine wpAnyL_take (i := 14) (oi := { dst := some 41, op := .fieldAddr 32 (.tmp 40) 3, type := _, pos := _, after := _, guard := none }) (v := ?_) rfl (by kernel_rfl) (by kernel_rfl) (by kernel_rfl) (fun _ _ _ h => h) (fun _ _ => Iff.rfl) hC (Or.inl ⟨by rfl, ?_⟩) hS (fun hC hS => ?_)
          rotate_left
          · intro W9 hSw; skip; go_simp; try (with_reducible rfl)
          try simp only [Act.put, List.setIfInBounds_toArray, List.set_cons_zero, List.set_cons_succ]
          refine wpAnyL_take (i := 15) (oi := { dst := some 42, op := .load 9 (.tmp 41), type := _, pos := _, after := _, guard := none }) (v := ?_) rfl (by kernel_rfl) (by kernel_rfl) (by kernel_rfl) (fun _ _ _ h => h) (fun _ _ => Iff.rfl) hC (Or.inl ⟨by rfl, ?_⟩) hS (fun hC hS => ?_)
          rotate_left
          · intro W9 hSw; obtain ⟨q0, q1, q2, q3⟩ := hSw.choose_spec.2.2; try dsimp only at q0 q1 q2 q3; go_simp; try (with_reducible rfl)
          try simp only [Act.put, List.setIfInBounds_toArray, List.set_cons_zero, List.set_cons_succ]
          refine wpAnyL_take (i := 16) (oi := { dst := some 43, op := .fieldAddr 29 (.tmp 5) 0, type := _, pos := _, after := _, guard := none }) (v := ?_) rfl (by kernel_rfl) (by kernel_rfl) (by kernel_rfl) (fun _ _ _ h => h) (fun _ _ => Iff.rfl) hC (Or.inl ⟨by rfl, ?_⟩) hS (fun hC hS => ?_)
          rotate_left
          · intro W9 hSw; skip; go_simp; try (with_reducible rfl)
          try simp only [Act.put, List.setIfInBounds_toArray, List.set_cons_zero, List.set_cons_succ]
          refine wpAnyL_ready (rs := [17]) (by kernel_rfl) (by simp) hC ?_
          refine AllReadyL.cons (o := { dst := none, op := .store 3 (.tmp 43) (.tmp 30), type := _, pos := _, after := _, guard := none }) rfl (fun K9 hK => ?_) ?_
          · skip
            have cf0 : (v4).cell? ⟨z, 0, none⟩ = some (.int .i64 x1) := (cell_of_row _ _ 0 _ _ _ HZ21d.out).trans rfl
            have f0 : (v4).frozen? ⟨z, 0, none⟩ = false := frozen_of_row _ _ _ _ _ HZ21d.out
            go_simp
            have HK := Lib.hid ((KK.refl [z] v4).set (b := z) (by simp) 0 (.int .i64 x1))
            have HZn := Lib.hid (show (v4.setCell ⟨z, 0, none⟩ (.int .i64 x1)).heap[z]? = some (.cells #[.int .i64 x1, .string x2, .string x3, .bool true, .bool false, .string x4, .string ⟨#[]⟩] 29 (0, 0)) by have q := heap_setCell_at (i := 0) (u := .int .i64 x1) (HZ21d.out); exact q)
            have HBn := Lib.hid (HK.out.below HB21d.out (fun b hb => by obtain rfl : b = z := (by simpa using hb); exact HZL.out) HB21d.out.size)
            have HXn := Lib.hid (HX21d.out.kk HK.out HXZ.out)
            have HYn := Lib.hid (HY21d.out.kk HK.out HYZ.out)
            clear HK HZ21d HB21d HX21d HY21d cf0 f0
            generalize (v4.setCell ⟨z, 0, none⟩ (.int .i64 x1)) = u41 at *
            have HZ41 := HZn
            clear HZn
            have HB41 := HBn
            clear HBn
            have HX41 := HXn
            clear HXn
            have HY41 := HYn
            clear HYn
            refine hK _ _ HY41.out (fun hC => ?_)
            clear hK K9
            try simp only [Act.put, List.setIfInBounds_toArray, List.set_cons_zero, List.set_cons_succ]
            refine wpAnyL_take (i := 18) (oi := { dst := some 44, op := .fieldAddr 29 (.tmp 5) 1, type := _, pos := _, after := _, guard := none }) (v := ?_) rfl (by kernel_rfl) (by kernel_rfl) (by kernel_rfl) (fun _ _ _ h => h) (fun _ _ => Iff.rfl) hC (Or.inl ⟨by rfl, ?_⟩) HY41.out (fun hC hS => ?_)
            rotate_left
            · intro W9 hSw; skip; go_simp; try (with_reducible rfl)
            try simp only [Act.put, List.setIfInBounds_toArray, List.set_cons_zero, List.set_cons_succ]
            refine wpAnyL_ready (rs := [19]) (by kernel_rfl) (by simp) hC ?_
            refine AllReadyL.cons (o := { dst := none, op := .store 9 (.tmp 44) (.tmp 34), type := _, pos := _, after := _, guard := none }) rfl (fun K9 hK => ?_) ?_
            · skip
              have cf1 : (u41).cell? ⟨z, 1, none⟩ = some (.string x2) := (cell_of_row _ _ 1 _ _ _ HZ41.out).trans rfl
              have f1 : (u41).frozen? ⟨z, 1, none⟩ = false := frozen_of_row _ _ _ _ _ HZ41.out
              go_simp
              have HK := Lib.hid ((KK.refl [z] u41).set (b := z) (by simp) 1 (.string x2))
              have HZn := Lib.hid (show (u41.setCell ⟨z, 1, none⟩ (.string x2)).heap[z]? = some (.cells #[.int .i64 x1, .string x2, .string x3, .bool true, .bool false, .string x4, .string ⟨#[]⟩] 29 (0, 0)) by have q := heap_setCell_at (i := 1) (u := .string x2) (HZ41.out); exact q)
              have HBn := Lib.hid (HK.out.below HB41.out (fun b hb => by obtain rfl : b = z := (by simpa using hb); exact HZL.out) HB41.out.size)
              have HXn := Lib.hid (HX41.out.kk HK.out HXZ.out)
              have HYn := Lib.hid (HY41.out.kk HK.out HYZ.out)
              clear HK HZ41 HB41 HX41 HY41 cf1 f1
              generalize (u41.setCell ⟨z, 1, none⟩ (.string x2)) = u42 at *
              have HZ42 := HZn
              clear HZn
              have HB42 := HBn
              clear HBn
              have HX42 := HXn
              clear HXn
              have HY42 := HYn
              clear HYn
              refine hK _ _ HY42.out (fun hC => ?_)
              clear hK K9
              try simp only [Act.put, List.setIfInBounds_toArray, List.set_cons_zero, List.set_cons_succ]
              refine wpAnyL_take (i := 20) (oi := { dst := some 45, op := .fieldAddr 29 (.tmp 5) 2, type := _, pos := _, after := _, guard := none }) (v := ?_) rfl (by kernel_rfl) (by kernel_rfl) (by kernel_rfl) (fun _ _ _ h => h) (fun _ _ => Iff.rfl) hC (Or.inl ⟨by rfl, ?_⟩) HY42.out (fun hC hS => ?_)
              rotate_left
              · intro W9 hSw; skip; go_simp; try (with_reducible rfl)
              try simp only [Act.put, List.setIfInBounds_toArray, List.set_cons_zero, List.set_cons_succ]
              refine wpAnyL_ready (rs := [21]) (by kernel_rfl) (by simp) hC ?_
              refine AllReadyL.cons (o := { dst := none, op := .store 9 (.tmp 45) (.tmp 38), type := _, pos := _, after := _, guard := none }) rfl (fun K9 hK => ?_) ?_
              · skip
                have cf2 : (u42).cell? ⟨z, 2, none⟩ = some (.string x3) := (cell_of_row _ _ 2 _ _ _ HZ42.out).trans rfl
                have f2 : (u42).frozen? ⟨z, 2, none⟩ = false := frozen_of_row _ _ _ _ _ HZ42.out
                go_simp
                have HK := Lib.hid ((KK.refl [z] u42).set (b := z) (by simp) 2 (.string x3))
                have HZn := Lib.hid (show (u42.setCell ⟨z, 2, none⟩ (.string x3)).heap[z]? = some (.cells #[.int .i64 x1, .string x2, .string x3, .bool true, .bool false, .string x4, .string ⟨#[]⟩] 29 (0, 0)) by have q := heap_setCell_at (i := 2) (u := .string x3) (HZ42.out); exact q)
                have HBn := Lib.hid (HK.out.below HB42.out (fun b hb => by obtain rfl : b = z := (by simpa using hb); exact HZL.out) HB42.out.size)
                have HXn := Lib.hid (HX42.out.kk HK.out HXZ.out)
                have HYn := Lib.hid (HY42.out.kk HK.out HYZ.out)
                clear HK HZ42 HB42 HX42 HY42 cf2 f2
                generalize (u42.setCell ⟨z, 2, none⟩ (.string x3)) = u43 at *
                have HZ43 := HZn
                clear HZn
                have HB43 := HBn
                clear HBn
                have HX43 := HXn
                clear HXn
                have HY43 := HYn
                clear HYn
                refine hK _ _ HY43.out (fun hC => ?_)
                clear hK K9
                try simp only [Act.put, List.setIfInBounds_toArray, List.set_cons_zero, List.set_cons_succ]
                refine wpAnyL_take (i := 22) (oi := { dst := some 46, op := .fieldAddr 29 (.tmp 5) 4, type := _, pos := _, after := _, guard := none }) (v := ?_) rfl (by kernel_rfl) (by kernel_rfl) (by kernel_rfl) (fun _ _ _ h => h) (fun _ _ => Iff.rfl) hC (Or.inl ⟨by rfl, ?_⟩) HY43.out (fun hC hS => ?_)
                rotate_left
                · intro W9 hSw; skip; go_simp; try (with_reducible rfl)
                try simp only [Act.put, List.setIfInBounds_toArray, List.set_cons_zero, List.set_cons_succ]
                refine wpAnyL_ready (rs := [23]) (by kernel_rfl) (by simp) hC ?_
                refine AllReadyL.cons (o := { dst := none, op := .store 4 (.tmp 46) (.const (.bool true)), type := _, pos := _, after := _, guard := none }) rfl (fun K9 hK => ?_) ?_
                · skip
                  have cf4 : (u43).cell? ⟨z, 4, none⟩ = some (.bool false) := (cell_of_row _ _ 4 _ _ _ HZ43.out).trans rfl
                  have f4 : (u43).frozen? ⟨z, 4, none⟩ = false := frozen_of_row _ _ _ _ _ HZ43.out
                  go_simp
                  have HK := Lib.hid ((KK.refl [z] u43).set (b := z) (by simp) 4 (.bool true))
                  have HZn := Lib.hid (show (u43.setCell ⟨z, 4, none⟩ (.bool true)).heap[z]? = some (.cells #[.int .i64 x1, .string x2, .string x3, .bool true, .bool true, .string x4, .string ⟨#[]⟩] 29 (0, 0)) by have q := heap_setCell_at (i := 4) (u := .bool true) (HZ43.out); exact q)
                  have HBn := Lib.hid (HK.out.below HB43.out (fun b hb => by obtain rfl : b = z := (by simpa using hb); exact HZL.out) HB43.out.size)
                  have HXn := Lib.hid (HX43.out.kk HK.out HXZ.out)
                  have HYn := Lib.hid (HY43.out.kk HK.out HYZ.out)
                  clear HK HZ43 HB43 HX43 HY43 cf4 f4
                  generalize (u43.setCell ⟨z, 4, none⟩ (.bool true)) = u44 at *
                  have HZ44 := HZn
                  clear HZn
                  have HB44 := HBn
                  clear HBn
                  have HX44 := HXn
                  clear HXn
                  have HY44 := HYn
                  clear HYn
                  refine hK _ _ HY44.out (fun hC => ?_)
                  clear hK K9
                  try simp only [Act.put, List.setIfInBounds_toArray, List.set_cons_zero, List.set_cons_succ]
                  refine wpAnyL_take (i := 24) (oi := { dst := some 47, op := .fieldAddr 29 (.tmp 5) 6, type := _, pos := _, after := _, guard := none }) (v := ?_) rfl (by kernel_rfl) (by kernel_rfl) (by kernel_rfl) (fun _ _ _ h => h) (fun _ _ => Iff.rfl) hC (Or.inl ⟨by rfl, ?_⟩) HY44.out (fun hC hS => ?_)
                  rotate_left
                  · intro W9 hSw; skip; go_simp; try (with_reducible rfl)
                  try simp only [Act.put, List.setIfInBounds_toArray, List.set_cons_zero, List.set_cons_succ]
                  refine wpAnyL_ready (rs := [25]) (by kernel_rfl) (by simp) hC ?_
                  refine AllReadyL.cons (o := { dst := none, op := .store 9 (.tmp 47) (.tmp 42), type := _, pos := _, after := _, guard := none }) rfl (fun K9 hK => ?_) ?_
                  · skip
                    have cf6 : (u44).cell? ⟨z, 6, none⟩ = some (.string ⟨#[]⟩) := (cell_of_row _ _ 6 _ _ _ HZ44.out).trans rfl
                    have f6 : (u44).frozen? ⟨z, 6, none⟩ = false := frozen_of_row _ _ _ _ _ HZ44.out
                    go_simp
                    have HK := Lib.hid ((KK.refl [z] u44).set (b := z) (by simp) 6 (.string y4))
                    have HZn := Lib.hid (show (u44.setCell ⟨z, 6, none⟩ (.string y4)).heap[z]? = some (.cells #[.int .i64 x1, .string x2, .string x3, .bool true, .bool true, .string x4, .string y4] 29 (0, 0)) by have q := heap_setCell_at (i := 6) (u := .string y4) (HZ44.out); exact q)
                    have HBn := Lib.hid (HK.out.below HB44.out (fun b hb => by obtain rfl : b = z := (by simpa using hb); exact HZL.out) HB44.out.size)
                    have HXn := Lib.hid (HX44.out.kk HK.out HXZ.out)
                    have HYn := Lib.hid (HY44.out.kk HK.out HYZ.out)
                    clear HK HZ44 HB44 HX44 HY44 cf6 f6
                    generalize (u44.setCell ⟨z, 6, none⟩ (.string y4)) = u45 at *
                    have HZ45 := HZn
                    clear HZn
                    have HB45 := HBn
                    clear HBn
                    have HX45 := HXn
                    clear HXn
                    have HY45 := HYn
                    clear HYn
                    refine hK _ _ HY45.out (fun hC => ?_)
                    clear hK K9
                    try simp only [Act.put, List.setIfInBounds_toArray, List.set_cons_zero, List.set_cons_succ]
                    refine wpAnyL_done (by kernel_rfl) ?_ _
                    clear hS hC
                    have cf0 : (u45).cell? ⟨z, 0, none⟩ = some (.int .i64 x1) := (cell_of_row _ _ 0 _ _ _ HZ45.out).trans rfl
                    have cf1 : (u45).cell? ⟨z, 1, none⟩ = some (.string x2) := (cell_of_row _ _ 1 _ _ _ HZ45.out).trans rfl
                    have cf2 : (u45).cell? ⟨z, 2, none⟩ = some (.string x3) := (cell_of_row _ _ 2 _ _ _ HZ45.out).trans rfl
                    have cf3 : (u45).cell? ⟨z, 3, none⟩ = some (.bool true) := (cell_of_row _ _ 3 _ _ _ HZ45.out).trans rfl
                    have cf4 : (u45).cell? ⟨z, 4, none⟩ = some (.bool true) := (cell_of_row _ _ 4 _ _ _ HZ45.out).trans rfl
                    have cf5 : (u45).cell? ⟨z, 5, none⟩ = some (.string x4) := (cell_of_row _ _ 5 _ _ _ HZ45.out).trans rfl
                    have cf6 : (u45).cell? ⟨z, 6, none⟩ = some (.string y4) := (cell_of_row _ _ 6 _ _ _ HZ45.out).trans rfl
                    obtain ⟨V0, hv0, ho0⟩ := (HJ.out.kept HB45.out).bx
                    have HV0 := Lib.hid hv0
                    have HO0 := Lib.hid ho0
                    clear hv0 ho0
                    have z0 : u45.cell? ⟨w.heap.size, 0, none⟩ = some V0 := (cell_of_row _ _ 0 _ _ _ HV0.out).trans rfl
                    have HSZ := Lib.hid (show w.heap.size + 1 ≤ u45.heap.size from lt_of_block HV0.out)
                    obtain ⟨V0a, V0n, V0c, rfl⟩ := HO0.out.sl3
                    go_wp2_with (at_builtin; refine wpList_appX rfl (.tmp 63) (.tmp 65) 23 29 _ 80 rfl Try.underlying23 info_cg rfl (by omega) (by omega) cgC_len cgC_one (w.heap.size + 1) u45 ((Below.refl _ _).alloc HSZ.out _) (Nat.le_trans HSZ.out (by simp)) (.slice V0a V0n V0c) acc rfl (HO0.out.alloc _) u45.heap.size 1 (x1, x2, x3, true, true, x4, y4) #[.int .i64 x1, .string x2, .string x3, .bool true, .bool true, .string x4, .string y4] 29 (0, 0) rfl (heap_alloc_new u45 _) rfl (by have := HAC.out; omega) ?_)
                    intro v9 w9 HO9 HB9 _ _
                    obtain ⟨A9, n9, c9, rfl⟩ := HO9.out.sl3
                    have HV9 := Lib.hid (show w9.heap[w.heap.size]? = some (.cells #[.slice V0a V0n V0c] 23 (0, 0)) from (HB9.out.block _ (Nat.lt_succ_self _)).trans HV0.out)
                    clear z0 cf0 cf1 cf2 cf3 cf4 cf5 cf6
                    have z0 : w9.cell? ⟨w.heap.size, 0, none⟩ = some (.slice V0a V0n V0c) := (cell_of_row _ _ 0 _ _ _ HV9.out).trans rfl
                    have f0 : w9.frozen? ⟨w.heap.size, 0, none⟩ = false := frozen_of_row _ _ _ _ _ HV9.out
                    have HK9 := Lib.hid ((KK.refl [w.heap.size] w9).set (b := w.heap.size) (by simp) 0 (.slice A9 n9 c9))
                    have HW9 := Lib.hid (show (w9.setCell ⟨w.heap.size, 0, none⟩ (.slice A9 n9 c9)).heap[w.heap.size]? = some (.cells #[.slice A9 n9 c9] 23 (0, 0)) from heap_setCell_at (i := 0) (u := .slice A9 n9 c9) HV9.out)
                    have HR9 := Lib.hid (HO9.out.kk HK9.out (fun b hb => by obtain rfl : b = w.heap.size := (by simpa using hb); omega))
                    have HL9 := Lib.hid (show Below w.heap.size w w9 from (HJ.out.kept HB45.out).bel.trans (HB9.out.mono (Nat.le_succ _)))
                    have HM9 := Lib.hid (HK9.out.below HL9.out (fun b hb => by obtain rfl : b = w.heap.size := (by simpa using hb); exact Nat.le_refl _) (Nat.le_of_lt (lt_of_block HV9.out)))
                    go_wp2_with fail
                    refine bodyPost_end (results_none rfl _ _ _) rfl ?_
                    exact ⟨rfl, by rw [HO.out]; exact ⟨⟨_, HW9.out, HR9.out⟩, HM9.out⟩⟩
                  exact AllReadyL.nil
                exact AllReadyL.nil
              exact AllReadyL.nil
            exact AllReadyL.nil
          exact AllReadyL.nil
        exact AllReadyL.nil
end Go.Proofs.Ytpjpegmjcgkonaa

namespace Go.Proofs.Ytpjpegmjcgkonaa
open Go.RowKit Vi

theorem info_fcD : (Try.prog.info? 32).map (fun i => (i.zero, i.size, i.bytes)) = some (some (.agg #[.int .i64 0, .string ⟨#[]⟩, .string ⟨#[]⟩, .string ⟨#[]⟩]), 4, 56) := by kernel_rfl
theorem elem_fsl : Try.prog.elem 22 = 32 := by kernel_rfl
theorem size_fsl (W : World) : (sizeOf 32).run Try.prog W = .ok 4 W := by
  obtain ⟨i0, hi, _, hz1, _⟩ := info_parts info_fcD
  simp [sizeOf, typeInfo, hi, hz1]
theorem und_fsl : Try.prog.underlying 22 = some (.slice (Try.prog.elem 22)) := by rw [elem_fsl]; exact Try.underlying22
theorem sliceF_from (a : Option Addr) (n c : Nat) (hk : 1 ≤ n) (W : World) : (Instr.slice 22 (.slice a n c) (some (.int .i64 1)) none none).run Try.prog W = .ok (.slice (cutX 4 a c 1) (n - 1) (c - 1)) W := by
  rw [run_slice_l W _ a n c und_fsl .i64 1 (by omega) (by omega), elem_fsl, size_fsl]
  simp [Result.andThen, sliced, cutX]
theorem rd_c4 {W : World} {b o n k : Nat} {l : List Fc} {x : Fc} (h : RdX fcC 4 W (some ⟨b, o, none⟩) n l) (hx : l[k]? = some x) (hk : k < n) : C4 W b (o + k * 4) x := by
  obtain ⟨b2, o2, e, _, hc⟩ := h.2 (by omega)
  injection e with e
  injection e with e1 e2 _
  subst e1 e2
  exact ⟨by have q := hc k x 0 _ hx rfl; simpa using q, hc k x 1 _ hx rfl, hc k x 2 _ hx rfl, hc k x 3 _ hx rfl⟩
theorem rd_some {α : Type} {f : α → List Value} {s n : Nat} {W : World} {A : Option Addr} {l : List α} (h : RdX f s W A n l) (hn : 0 < n) : ∃ b o, A = some ⟨b, o, none⟩ := by
  obtain ⟨b, o, e, _⟩ := h.2 hn
  exact ⟨b, o, e⟩
theorem fl_len {α β : Type} {f : α → List β} (h : ∀ x, (f x).length ≤ 1) : ∀ l : List α, (l.flatMap f).length ≤ l.length
  | [] => by simp
  | x :: l => by rw [List.flatMap_cons, List.length_append, List.length_cons]; have := h x; have := fl_len h l; omega
theorem outD_len (p : Option Fc × Option Fc) : (outD p).length ≤ 1 := by unfold outD; split <;> simp
set_option linter.unusedSimpArgs false in
set_option maxRecDepth 100000 in
set_option maxHeartbeats 8000000 in
theorem meetD_any (w : World) (X : List Fc) (Y : List Fc) (A1 : Option Addr) (n1 c1 : Nat) (A2 : Option Addr) (n2 c2 : Nat) (u : World) (h1 : RdX fcC 4 w A1 n1 X) (h2 : RdX fcC 4 w A2 n2 Y) (l1 : n1 ≤ c1) (l2 : n2 ≤ c2) (m1 : n1 ≤ 100000) (m2 : n2 ≤ 100000) (hJ : JB cgC 7 29 23 w u []) :
    Calls Try.prog 20 #[.slice A1 n1 c1, .slice A2 n2 c2, (.func (.func 21) #[] #[]), .func (.func 22) #[] #[.pointer (some ⟨w.heap.size, 0, none⟩)]] u fun e u' => e = .returned (.tuple #[]) ∧ JB cgC 7 29 23 w u' ((meetL cmpF X Y).flatMap outD) := by
  have HJ0 := Lib.hid hJ
  have H1 := Lib.hid h1
  have H2 := Lib.hid h2
  obtain ⟨tot, htot⟩ : ∃ tot, tot = (meetL cmpF X Y).flatMap outD := ⟨_, rfl⟩
  have HTOT := Lib.hid htot
  have HX := Lib.hid h1.1
  have HY := Lib.hid h2.1
  rw [← htot]
  have HM := Lib.hid (And.intro (And.intro l1 l2) (And.intro m1 m2))
  clear htot h1 h2 hJ l1 l2 m1 m2
  go_enter Try.func20, Try.ntmps20
  go_wp2_with fail
  go_loopw [0, 1] (fun p q wr => ∃ (xs : List Fc) (ys : List Fc) (B1 : Option Addr) (N1 d1 : Nat) (B2 : Option Addr) (N2 d2 : Nat) (acc : List Cg), p = .slice B1 N1 d1 ∧ q = .slice B2 N2 d2 ∧ RdX fcC 4 w B1 N1 xs ∧ RdX fcC 4 w B2 N2 ys ∧ N1 ≤ d1 ∧ N2 ≤ d2 ∧ acc.length + N1 + N2 ≤ 200000 ∧ acc ++ (meetL cmpF xs ys).flatMap outD = tot ∧ JB cgC 7 29 23 w wr acc) (fun p q _ => slLen p + slLen q)
  case atStart => exact ⟨X, Y, A1, n1, c1, A2, n2, c2, [], rfl, rfl, H1.out, H2.out, HM.out.1.1, HM.out.1.2, by have := HM.out.2; simp; omega, by rw [HTOT.out]; rfl, HJ0.out⟩
  case round =>
    obtain ⟨xs, ys, B1, N1, d1, B2, N2, d2, acc, rfl, rfl, r1, r2, k1, k2, hlen, heq, hj⟩ := hrel
    have HR1 := Lib.hid r1
    have HR2 := Lib.hid r2
    have HK := Lib.hid (And.intro k1 k2)
    have HLN := Lib.hid hlen
    have HEQ := Lib.hid heq
    have HJ := Lib.hid hj
    have hN1 : (N1 : Int) ≤ 9223372036854775807 := by omega
    have hN2 : (N2 : Int) ≤ 9223372036854775807 := by omega
    clear r1 r2 k1 k2 hlen heq hj HJ0
    by_cases hb : 0 < N1 ∧ 0 < N2
    · obtain ⟨hp1, hp2⟩ := hb
      obtain ⟨b1, o1, rfl⟩ := rd_some HR1.out hp1
      obtain ⟨b2, o2, rfl⟩ := rd_some HR2.out hp2
      have hd1 : decide ((0 : Int) < (N1 : Int)) = true := decide_eq_true (by omega)
      have hd2 : decide ((0 : Int) < (N2 : Int)) = true := decide_eq_true (by omega)
      have hd3 : decide (0 < N1) = true := decide_eq_true hp1
      have hd4 : decide (0 < N2) = true := decide_eq_true hp2
      have hxl := HR1.out.1
      have hyl := HR2.out.1
      obtain ⟨x, xs', rfl⟩ : ∃ x xs', xs = x :: xs' := by cases xs with
        | nil => simp at hxl; omega
        | cons x r => exact ⟨x, r, rfl⟩
      obtain ⟨y, ys', rfl⟩ : ∃ y ys', ys = y :: ys' := by cases ys with
        | nil => simp at hyl; omega
        | cons x r => exact ⟨x, r, rfl⟩
      have HCX := Lib.hid (show C4 wr b1 o1 x by have q := rd_c4 (HR1.out.below HJ.out.bel) (k := 0) rfl hp1; simpa using q)
      have HCY := Lib.hid (show C4 wr b2 o2 y by have q := rd_c4 (HR2.out.below HJ.out.bel) (k := 0) rfl hp2; simpa using q)
      have HD1 := Lib.hid (HR1.out.drop 1 hp1 HK.out.1)
      have HD2 := Lib.hid (HR2.out.drop 1 hp2 HK.out.2)
      have hsl1 := fun W => sliceF_from (some ⟨b1, o1, none⟩) N1 d1 hp1 W
      have hsl2 := fun W => sliceF_from (some ⟨b2, o2, none⟩) N2 d2 hp2 W
      generalize cutX 4 (some ⟨b1, o1, none⟩) d1 1 = E1 at hsl1 HD1
      generalize cutX 4 (some ⟨b2, o2, none⟩) d2 1 = E2 at hsl2 HD2
      clear hxl hyl
      go_upto_region 1 with (fail)
      have HCX := Lib.hid (HCX.out.below (Below.refl _ _).drew)
      have HCY := Lib.hid (HCY.out.below (Below.refl _ _).drew)
      have HJ := Lib.hid (HJ.out.kept (Below.refl _ _).drew)
      refine wp_region_L_drew (S := fun _ _ => True) (by kernel_rfl) trivial (fun hS hC => ?_)
      generalize wr.drew = v1 at *
      refine wpAnyL_take (i := 0) (oi := { dst := some 21, op := .move (.tmp 0), type := _, pos := _, after := _, guard := none }) (v := ?_) rfl (by kernel_rfl) (by kernel_rfl) (by kernel_rfl) (fun _ _ _ h => h) (fun _ _ => Iff.rfl) hC (Or.inl ⟨by rfl, ?_⟩) trivial (fun hC hS => ?_)
      rotate_left
      · intro W9 hSw; skip; go_simp; try (with_reducible rfl)
      try simp only [Act.put, List.setIfInBounds_toArray, List.set_cons_zero, List.set_cons_succ]
      refine wpAnyL_take (i := 1) (oi := { dst := some 22, op := .indexAddr 22 (.tmp 21) (.const (.int Go.IntKind.i64 0)), type := _, pos := _, after := _, guard := none }) (v := ?_) rfl (by kernel_rfl) (by kernel_rfl) (by kernel_rfl) (fun _ _ _ h => h) (fun _ _ => Iff.rfl) hC (Or.inl ⟨by rfl, ?_⟩) trivial (fun hC hS => ?_)
      rotate_left
      · intro W9 hSw; skip; go_simp; try (with_reducible rfl)
      try simp only [Act.put, List.setIfInBounds_toArray, List.set_cons_zero, List.set_cons_succ]
      refine wpAnyL_take (i := 2) (oi := { dst := some 23, op := .move (.tmp 1), type := _, pos := _, after := _, guard := none }) (v := ?_) rfl (by kernel_rfl) (by kernel_rfl) (by kernel_rfl) (fun _ _ _ h => h) (fun _ _ => Iff.rfl) hC (Or.inl ⟨by rfl, ?_⟩) trivial (fun hC hS => ?_)
      rotate_left
      · intro W9 hSw; skip; go_simp; try (with_reducible rfl)
      try simp only [Act.put, List.setIfInBounds_toArray, List.set_cons_zero, List.set_cons_succ]
      refine wpAnyL_take (i := 3) (oi := { dst := some 24, op := .indexAddr 22 (.tmp 23) (.const (.int Go.IntKind.i64 0)), type := _, pos := _, after := _, guard := none }) (v := ?_) rfl (by kernel_rfl) (by kernel_rfl) (by kernel_rfl) (fun _ _ _ h => h) (fun _ _ => Iff.rfl) hC (Or.inl ⟨by rfl, ?_⟩) trivial (fun hC hS => ?_)
      rotate_left
      · intro W9 hSw; skip; go_simp; try (with_reducible rfl)
      try simp only [Act.put, List.setIfInBounds_toArray, List.set_cons_zero, List.set_cons_succ]
      refine wpAnyL_take (i := 4) (oi := { dst := some 8, op := .assign (.tmp 22), type := _, pos := _, after := _, guard := none }) (v := ?_) rfl (by kernel_rfl) (by kernel_rfl) (by kernel_rfl) (fun _ _ _ h => h) (fun _ _ => Iff.rfl) hC (Or.inl ⟨by rfl, ?_⟩) trivial (fun hC hS => ?_)
      rotate_left
      · intro W9 hSw; skip; go_simp; try (with_reducible rfl)
      try simp only [Act.put, List.setIfInBounds_toArray, List.set_cons_zero, List.set_cons_succ]
      refine wpAnyL_take (i := 5) (oi := { dst := some 9, op := .assign (.tmp 24), type := _, pos := _, after := _, guard := none }) (v := ?_) rfl (by kernel_rfl) (by kernel_rfl) (by kernel_rfl) (fun _ _ _ h => h) (fun _ _ => Iff.rfl) hC (Or.inl ⟨by rfl, ?_⟩) trivial (fun hC hS => ?_)
      rotate_left
      · intro W9 hSw; skip; go_simp; try (with_reducible rfl)
      try simp only [Act.put, List.setIfInBounds_toArray, List.set_cons_zero, List.set_cons_succ]
      refine wpAnyL_done (by kernel_rfl) ?_ _
      clear hS hC
      go_upto_region 2 with (fail)
      have HCX := Lib.hid (HCX.out.below (Below.refl _ _).drew)
      have HCY := Lib.hid (HCY.out.below (Below.refl _ _).drew)
      have HJ := Lib.hid (HJ.out.kept (Below.refl _ _).drew)
      obtain ⟨x1, x2, x3, x4⟩ := x
      obtain ⟨y1, y2, y3, y4⟩ := y
      refine wp_region_L_drew (S := fun _ W => C4 W b1 o1 (x1, x2, x3, x4) ∧ C4 W b2 o2 (y1, y2, y3, y4)) (by kernel_rfl) ⟨HCX.out, HCY.out⟩ (fun hS hC => ?_)
      generalize v1.drew = v2 at *
      refine wpAnyL_take (i := 0) (oi := { dst := some 25, op := .move (.tmp 2), type := _, pos := _, after := _, guard := none }) (v := ?_) rfl (by kernel_rfl) (by kernel_rfl) (by kernel_rfl) (fun _ _ _ h => h) (fun _ _ => Iff.rfl) hC (Or.inl ⟨by rfl, ?_⟩) hS (fun hC hS => ?_)
      rotate_left
      · intro W9 hSw; skip; go_simp; try (with_reducible rfl)
      try simp only [Act.put, List.setIfInBounds_toArray, List.set_cons_zero, List.set_cons_succ]
      refine wpAnyL_take (i := 1) (oi := { dst := some 26, op := .move (.tmp 8), type := _, pos := _, after := _, guard := none }) (v := ?_) rfl (by kernel_rfl) (by kernel_rfl) (by kernel_rfl) (fun _ _ _ h => h) (fun _ _ => Iff.rfl) hC (Or.inl ⟨by rfl, ?_⟩) hS (fun hC hS => ?_)
      rotate_left
      · intro W9 hSw; skip; go_simp; try (with_reducible rfl)
      try simp only [Act.put, List.setIfInBounds_toArray, List.set_cons_zero, List.set_cons_succ]
      refine wpAnyL_take (i := 2) (oi := { dst := some 27, op := .nilCheck (.tmp 26), type := _, pos := _, after := _, guard := none }) (v := ?_) rfl (by kernel_rfl) (by kernel_rfl) (by kernel_rfl) (fun _ _ _ h => h) (fun _ _ => Iff.rfl) hC (Or.inl ⟨by rfl, ?_⟩) hS (fun hC hS => ?_)
      rotate_left
      · intro W9 hSw; skip; go_simp; try (with_reducible rfl)
      try simp only [Act.put, List.setIfInBounds_toArray, List.set_cons_zero, List.set_cons_succ]
      refine wpAnyL_take (i := 3) (oi := { dst := some 28, op := .load 32 (.tmp 27), type := _, pos := _, after := _, guard := none }) (v := ?_) rfl (by kernel_rfl) (by kernel_rfl) (by kernel_rfl) (fun _ _ _ h => h) (fun _ _ => Iff.rfl) hC (Or.inl ⟨by rfl, ?_⟩) hS (fun hC hS => ?_)
      rotate_left
      · intro W9 hSw; obtain ⟨q0, q1, q2, q3⟩ := hSw.choose_spec.2.2.1; try dsimp only at q0 q1 q2 q3; go_simp; try (with_reducible rfl)
      try simp only [Act.put, List.setIfInBounds_toArray, List.set_cons_zero, List.set_cons_succ]
      refine wpAnyL_take (i := 4) (oi := { dst := some 29, op := .move (.tmp 9), type := _, pos := _, after := _, guard := none }) (v := ?_) rfl (by kernel_rfl) (by kernel_rfl) (by kernel_rfl) (fun _ _ _ h => h) (fun _ _ => Iff.rfl) hC (Or.inl ⟨by rfl, ?_⟩) hS (fun hC hS => ?_)
      rotate_left
      · intro W9 hSw; skip; go_simp; try (with_reducible rfl)
      try simp only [Act.put, List.setIfInBounds_toArray, List.set_cons_zero, List.set_cons_succ]
      refine wpAnyL_take (i := 5) (oi := { dst := some 30, op := .nilCheck (.tmp 29), type := _, pos := _, after := _, guard := none }) (v := ?_) rfl (by kernel_rfl) (by kernel_rfl) (by kernel_rfl) (fun _ _ _ h => h) (fun _ _ => Iff.rfl) hC (Or.inl ⟨by rfl, ?_⟩) hS (fun hC hS => ?_)
      rotate_left
      · intro W9 hSw; skip; go_simp; try (with_reducible rfl)
      try simp only [Act.put, List.setIfInBounds_toArray, List.set_cons_zero, List.set_cons_succ]
      refine wpAnyL_take (i := 6) (oi := { dst := some 31, op := .load 32 (.tmp 30), type := _, pos := _, after := _, guard := none }) (v := ?_) rfl (by kernel_rfl) (by kernel_rfl) (by kernel_rfl) (fun _ _ _ h => h) (fun _ _ => Iff.rfl) hC (Or.inl ⟨by rfl, ?_⟩) hS (fun hC hS => ?_)
      rotate_left
      · intro W9 hSw; obtain ⟨q0, q1, q2, q3⟩ := hSw.choose_spec.2.2.2; try dsimp only at q0 q1 q2 q3; go_simp; try (with_reducible rfl)
      try simp only [Act.put, List.setIfInBounds_toArray, List.set_cons_zero, List.set_cons_succ]
      refine wpAnyL_ready (rs := [7]) (by kernel_rfl) (by simp) hC ?_
      refine AllReadyL.cons (o := { dst := some 32, op := .call { callee := .value (.tmp 25), args := #[.tmp 28, .tmp 31], argTypes := #[32, 32] }, type := _, pos := _, after := _, guard := none }) rfl (fun K9 hK => ?_) ?_
      · skip
        go_simp
        refine (fcmp_any x1 x2 x3 x4 y1 y2 y3 y4 v2).mono ?_
        rintro e v3 ⟨rfl, hb⟩
        have HCX3 := Lib.hid (HCX.out.below hb)
        have HCY3 := Lib.hid (HCY.out.below hb)
        have HJ3 := Lib.hid (HJ.out.kept hb)
        clear hb HCX HCY HJ
        refine hK _ _ ⟨HCX3.out, HCY3.out⟩ (fun hC => ?_)
        clear hK K9
        try simp only [Act.put, List.setIfInBounds_toArray, List.set_cons_zero, List.set_cons_succ]
        refine wpAnyL_take (i := 8) (oi := { dst := some 10, op := .assign (.tmp 32), type := _, pos := _, after := _, guard := none }) (v := ?_) rfl (by kernel_rfl) (by kernel_rfl) (by kernel_rfl) (fun _ _ _ h => h) (fun _ _ => Iff.rfl) hC (Or.inl ⟨by rfl, ?_⟩) ⟨HCX3.out, HCY3.out⟩ (fun hC hS => ?_)
        rotate_left
        · intro W9 hSw; skip; go_simp; try (with_reducible rfl)
        try simp only [Act.put, List.setIfInBounds_toArray, List.set_cons_zero, List.set_cons_succ]
        refine wpAnyL_done (by kernel_rfl) ?_ _
        clear hS hC
        obtain ⟨cv, hcv⟩ : ∃ cv, cv = cmpF (x1, x2, x3, x4) (y1, y2, y3, y4) := ⟨_, rfl⟩
        have HCV := Lib.hid hcv
        rw [← hcv]
        clear hcv
        by_cases c1 : cv < 0
        · have t1 : decide (cv ≤ 0) = true := decide_eq_true (by omega)
          have t2 : decide (cv ≥ 0) = false := decide_eq_false (by omega)
          have t3 : decide ((0 : Int) ≤ cv) = false := decide_eq_false (by omega)
          have HST := Lib.hid (dstep_any w acc (some ⟨b1, o1, none⟩) none (some (x1, x2, x3, x4)) none v3 HJ3.out ⟨b1, o1, rfl, HCX3.out⟩ rfl (.inl (by simp)) (fun a b ha hb => by cases hb) (by have := HLN.out; omega))
          go_wp2_with fail
          refine HST.out.mono ?_
          rintro e v4 ⟨rfl, hj⟩
          have HJ9 := Lib.hid hj
          clear hj HST HCX3 HCY3 HJ3 hsl1 hsl2
          go_wp2_with fail
          go_roundw
          case rel => exact ⟨xs', (y1, y2, y3, y4) :: ys', E1, N1 - 1, d1 - 1, some ⟨b2, o2, none⟩, N2, d2, acc ++ outD ((some (x1, x2, x3, x4)), none), rfl, rfl, HD1.out, HR2.out, by have := HK.out.1; omega, by have := HK.out.2; omega, by have q := outD_len ((some (x1, x2, x3, x4)), none); rw [List.length_append]; have := HLN.out; omega, by rw [← HEQ.out, meet_lt _ _ (by rw [← HCV.out]; omega), List.flatMap_cons, List.append_assoc], HJ9.out⟩
          case measure => simp [slLen] <;> omega
        · by_cases c2 : 0 < cv
          · have t1 : decide (cv ≤ 0) = false := decide_eq_false (by omega)
            have t2 : decide (cv ≥ 0) = true := decide_eq_true (by omega)
            have t3 : decide ((0 : Int) ≤ cv) = true := decide_eq_true (by omega)
            have HST := Lib.hid (dstep_any w acc none (some ⟨b2, o2, none⟩) none (some (y1, y2, y3, y4)) v3 HJ3.out rfl ⟨b2, o2, rfl, HCY3.out⟩ (.inr (by simp)) (fun a b ha hb => by cases ha) (by have := HLN.out; omega))
            go_wp2_with fail
            refine HST.out.mono ?_
            rintro e v4 ⟨rfl, hj⟩
            have HJ9 := Lib.hid hj
            clear hj HST HCX3 HCY3 HJ3 hsl1 hsl2
            go_wp2_with fail
            go_roundw
            case rel => exact ⟨(x1, x2, x3, x4) :: xs', ys', some ⟨b1, o1, none⟩, N1, d1, E2, N2 - 1, d2 - 1, acc ++ outD (none, (some (y1, y2, y3, y4))), rfl, rfl, HR1.out, HD2.out, by have := HK.out.1; omega, by have := HK.out.2; omega, by have q := outD_len (none, (some (y1, y2, y3, y4))); rw [List.length_append]; have := HLN.out; omega, by rw [← HEQ.out, meet_gt _ _ (by rw [← HCV.out]; omega), List.flatMap_cons, List.append_assoc], HJ9.out⟩
            case measure => simp [slLen] <;> omega
          · have t1 : decide (cv ≤ 0) = true := decide_eq_true (by omega)
            have HSK := Lib.hid (cmpF_eq (x1, x2, x3, x4) (y1, y2, y3, y4) (by rw [← HCV.out]; omega) (by rw [← HCV.out]; omega))
            have t2 : decide (cv ≥ 0) = true := decide_eq_true (by omega)
            have t3 : decide ((0 : Int) ≤ cv) = true := decide_eq_true (by omega)
            have HST := Lib.hid (dstep_any w acc (some ⟨b1, o1, none⟩) (some ⟨b2, o2, none⟩) (some (x1, x2, x3, x4)) (some (y1, y2, y3, y4)) v3 HJ3.out ⟨b1, o1, rfl, HCX3.out⟩ ⟨b2, o2, rfl, HCY3.out⟩ (.inl (by simp)) (fun a b ha hb => by cases ha; cases hb; exact HSK.out) (by have := HLN.out; omega))
            go_wp2_with fail
            refine HST.out.mono ?_
            rintro e v4 ⟨rfl, hj⟩
            have HJ9 := Lib.hid hj
            clear hj HST HCX3 HCY3 HJ3 hsl1 hsl2
            go_wp2_with fail
            go_roundw
            case rel => exact ⟨xs', ys', E1, N1 - 1, d1 - 1, E2, N2 - 1, d2 - 1, acc ++ outD ((some (x1, x2, x3, x4)), (some (y1, y2, y3, y4))), rfl, rfl, HD1.out, HD2.out, by have := HK.out.1; omega, by have := HK.out.2; omega, by have q := outD_len ((some (x1, x2, x3, x4)), (some (y1, y2, y3, y4))); rw [List.length_append]; have := HLN.out; omega, by rw [← HEQ.out, meet_eq _ _ (by rw [← HCV.out]; omega) (by rw [← HCV.out]; omega), List.flatMap_cons, List.append_assoc], HJ9.out⟩
            case measure => simp [slLen] <;> omega
      exact AllReadyL.nil
    · have HBB := Lib.hid hb
      have HMT := Lib.hid (show acc ++ (xs.flatMap fun x => outD (some x, none)) ++ (ys.flatMap fun y => outD (none, some y)) = tot by
        rw [← HEQ.out]
        have e1 := HR1.out.1
        have e2 := HR2.out.1
        cases xs with
        | nil => rw [meet_nil, List.flatMap_map]; simp
        | cons x r =>
          cases ys with
          | nil => rw [meet_nil2, List.flatMap_map]; simp
          | cons y q => exact absurd ⟨by simp at e1; omega, by simp at e2; omega⟩ HBB.out)
      have HGO : Hid (¬ 0 < N1 ∨ 0 < N1 ∧ ¬ 0 < N2) := Lib.hid (by omega)
      clear hb HBB HEQ
      rcases HGO.out with q1 | ⟨q1, q2⟩
      · have hd1 : decide ((0 : Int) < (N1 : Int)) = false := decide_eq_false (by omega)
        have hd3 : decide (0 < N1) = false := decide_eq_false q1
        go_wp2_with fail
        go_loopw [47] (fun i wq => ∃ j : Nat, i = .int .i64 (j : Int) ∧ j ≤ N1 ∧ JB cgC 7 29 23 w wq (acc ++ ((xs.take j).flatMap fun x => outD (some x, none)))) (fun i _ => N1 - (intOf i).toNat)
        case atStart => exact ⟨0, rfl, Nat.zero_le _, by simpa using HJ.out⟩
        case round =>
          obtain ⟨j, rfl, hj, hjb⟩ := hrel
          have HJ10 := Lib.hid hjb
          clear hjb
          by_cases hlt : j < N1
          · have hq1 : decide ((j : Int) < (N1 : Int)) = true := decide_eq_true (by omega)
            have hi0 : (0 : Int) ≤ (j : Int) := by omega
            have hw1 : IntKind.i64.wrap ((j : Int) + 1) = (j : Int) + 1 := IntWalk.i64_in _ (by omega)
            have hll := HR1.out.1
            obtain ⟨x, hx⟩ : ∃ x, xs[j]? = some x := ⟨_, List.getElem?_eq_getElem (by omega)⟩
            obtain ⟨b1, o1, hB⟩ := rd_some HR1.out (by omega)
            subst hB
            have HCX := Lib.hid (rd_c4 (HR1.out.below HJ10.out.bel) hx hlt)
            have HTK := Lib.hid (show acc ++ ((xs.take (j + 1)).flatMap fun x => outD (some x, none)) = (acc ++ ((xs.take j).flatMap fun x => outD (some x, none))) ++ outD (some x, none) by obtain ⟨hj2, hx2⟩ := List.getElem?_eq_some_iff.1 hx; rw [List.take_succ_eq_append_getElem hj2, hx2, List.flatMap_append, List.append_assoc]; simp)
            have HST := Lib.hid (dstep_any w _ (some ⟨b1, o1 + j * 4, none⟩) none (some x) none wr HJ10.out ⟨b1, o1 + j * 4, rfl, HCX.out⟩ rfl (.inl (by simp)) (fun a b ha hb => by cases hb) (by have := HLN.out; have q1 := fl_len (f := fun x : Fc => outD (some x, none)) (fun x => outD_len (some x, none)) (xs.take j); rw [List.length_append]; rw [List.length_take] at q1; omega))
            clear hx hll
            go_wp2_with fail
            refine HST.out.mono ?_
            rintro e v4 ⟨rfl, hj9⟩
            have HJ9 := Lib.hid hj9
            clear hj9 HST HCX
            go_wp2_with fail
            go_roundw
            case rel => exact ⟨j + 1, by go_num, by omega, by rw [HTK.out]; exact HJ9.out⟩
            case measure => simp [intOf] <;> omega
          · have hq1 : decide ((j : Int) < (N1 : Int)) = false := decide_eq_false (by omega)
            have hje : j = N1 := by omega
            subst hje
            have HJ2 := Lib.hid (show JB cgC 7 29 23 w wr (acc ++ (xs.flatMap fun x => outD (some x, none))) by have q := HJ10.out; rwa [List.take_of_length_le (by have := HR1.out.1; omega)] at q)
            go_wp2_with fail
            go_loopw [58] (fun i wq => ∃ j : Nat, i = .int .i64 (j : Int) ∧ j ≤ N2 ∧ JB cgC 7 29 23 w wq ((acc ++ (xs.flatMap fun x => outD (some x, none))) ++ ((ys.take j).flatMap fun y => outD (none, some y)))) (fun i _ => N2 - (intOf i).toNat)
            case atStart => exact ⟨0, rfl, Nat.zero_le _, by simpa using HJ2.out⟩
            case round =>
              obtain ⟨j, rfl, hj, hjb⟩ := hrel
              have HJ11 := Lib.hid hjb
              clear hjb
              by_cases hlt : j < N2
              · have hq1 : decide ((j : Int) < (N2 : Int)) = true := decide_eq_true (by omega)
                have hi0 : (0 : Int) ≤ (j : Int) := by omega
                have hw1 : IntKind.i64.wrap ((j : Int) + 1) = (j : Int) + 1 := IntWalk.i64_in _ (by omega)
                have hll := HR2.out.1
                obtain ⟨x, hx⟩ : ∃ x, ys[j]? = some x := ⟨_, List.getElem?_eq_getElem (by omega)⟩
                obtain ⟨b1, o1, hB⟩ := rd_some HR2.out (by omega)
                subst hB
                have HCX := Lib.hid (rd_c4 (HR2.out.below HJ11.out.bel) hx hlt)
                have HTK := Lib.hid (show (acc ++ (xs.flatMap fun x => outD (some x, none))) ++ ((ys.take (j + 1)).flatMap fun y => outD (none, some y)) = ((acc ++ (xs.flatMap fun x => outD (some x, none))) ++ ((ys.take j).flatMap fun y => outD (none, some y))) ++ outD (none, some x) by obtain ⟨hj2, hx2⟩ := List.getElem?_eq_some_iff.1 hx; rw [List.take_succ_eq_append_getElem hj2, hx2, List.flatMap_append, List.append_assoc]; simp)
                have HST := Lib.hid (dstep_any w _ none (some ⟨b1, o1 + j * 4, none⟩) none (some x) wr HJ11.out rfl ⟨b1, o1 + j * 4, rfl, HCX.out⟩ (.inr (by simp)) (fun a b ha hb => by cases ha) (by have := HLN.out; have e1 := HR1.out.1; have q1 := fl_len (f := fun x : Fc => outD (some x, none)) (fun x => outD_len (some x, none)) xs; have q2 := fl_len (f := fun y : Fc => outD (none, some y)) (fun y => outD_len (none, some y)) (ys.take j); rw [List.length_append, List.length_append]; rw [List.length_take] at q2; omega))
                clear hx hll
                go_wp2_with fail
                refine HST.out.mono ?_
                rintro e v4 ⟨rfl, hj9⟩
                have HJ9 := Lib.hid hj9
                clear hj9 HST HCX
                go_wp2_with fail
                go_roundw
                case rel => exact ⟨j + 1, by go_num, by omega, by rw [HTK.out]; exact HJ9.out⟩
                case measure => simp [intOf] <;> omega
              · have hq1 : decide ((j : Int) < (N2 : Int)) = false := decide_eq_false (by omega)
                have hje : j = N2 := by omega
                subst hje
                have HJ3 := Lib.hid (show JB cgC 7 29 23 w wr ((acc ++ (xs.flatMap fun x => outD (some x, none))) ++ (ys.flatMap fun y => outD (none, some y))) by have q := HJ11.out; rwa [List.take_of_length_le (by have := HR2.out.1; omega)] at q)
                go_wp2_with fail
                refine bodyPost_end (results_none rfl _ _ _) rfl ?_
                exact ⟨rfl, by rw [← HMT.out]; exact HJ3.out⟩
      · have hd1 : decide ((0 : Int) < (N1 : Int)) = true := decide_eq_true (by omega)
        have hd3 : decide (0 < N1) = true := decide_eq_true q1
        have hd2 : decide ((0 : Int) < (N2 : Int)) = false := decide_eq_false (by omega)
        have hd4 : decide (0 < N2) = false := decide_eq_false q2
        go_wp2_with fail
        go_loopw [47] (fun i wq => ∃ j : Nat, i = .int .i64 (j : Int) ∧ j ≤ N1 ∧ JB cgC 7 29 23 w wq (acc ++ ((xs.take j).flatMap fun x => outD (some x, none)))) (fun i _ => N1 - (intOf i).toNat)
        case atStart => exact ⟨0, rfl, Nat.zero_le _, by simpa using HJ.out⟩
        case round =>
          obtain ⟨j, rfl, hj, hjb⟩ := hrel
          have HJ10 := Lib.hid hjb
          clear hjb
          by_cases hlt : j < N1
          · have hq1 : decide ((j : Int) < (N1 : Int)) = true := decide_eq_true (by omega)
            have hi0 : (0 : Int) ≤ (j : Int) := by omega
            have hw1 : IntKind.i64.wrap ((j : Int) + 1) = (j : Int) + 1 := IntWalk.i64_in _ (by omega)
            have hll := HR1.out.1
            obtain ⟨x, hx⟩ : ∃ x, xs[j]? = some x := ⟨_, List.getElem?_eq_getElem (by omega)⟩
            obtain ⟨b1, o1, hB⟩ := rd_some HR1.out (by omega)
            subst hB
            have HCX := Lib.hid (rd_c4 (HR1.out.below HJ10.out.bel) hx hlt)
            have HTK := Lib.hid (show acc ++ ((xs.take (j + 1)).flatMap fun x => outD (some x, none)) = (acc ++ ((xs.take j).flatMap fun x => outD (some x, none))) ++ outD (some x, none) by obtain ⟨hj2, hx2⟩ := List.getElem?_eq_some_iff.1 hx; rw [List.take_succ_eq_append_getElem hj2, hx2, List.flatMap_append, List.append_assoc]; simp)
            have HST := Lib.hid (dstep_any w _ (some ⟨b1, o1 + j * 4, none⟩) none (some x) none wr HJ10.out ⟨b1, o1 + j * 4, rfl, HCX.out⟩ rfl (.inl (by simp)) (fun a b ha hb => by cases hb) (by have := HLN.out; have q1 := fl_len (f := fun x : Fc => outD (some x, none)) (fun x => outD_len (some x, none)) (xs.take j); rw [List.length_append]; rw [List.length_take] at q1; omega))
            clear hx hll
            go_wp2_with fail
            refine HST.out.mono ?_
            rintro e v4 ⟨rfl, hj9⟩
            have HJ9 := Lib.hid hj9
            clear hj9 HST HCX
            go_wp2_with fail
            go_roundw
            case rel => exact ⟨j + 1, by go_num, by omega, by rw [HTK.out]; exact HJ9.out⟩
            case measure => simp [intOf] <;> omega
          · have hq1 : decide ((j : Int) < (N1 : Int)) = false := decide_eq_false (by omega)
            have hje : j = N1 := by omega
            subst hje
            have HJ2 := Lib.hid (show JB cgC 7 29 23 w wr (acc ++ (xs.flatMap fun x => outD (some x, none))) by have q := HJ10.out; rwa [List.take_of_length_le (by have := HR1.out.1; omega)] at q)
            go_wp2_with fail
            go_loopw [58] (fun i wq => ∃ j : Nat, i = .int .i64 (j : Int) ∧ j ≤ N2 ∧ JB cgC 7 29 23 w wq ((acc ++ (xs.flatMap fun x => outD (some x, none))) ++ ((ys.take j).flatMap fun y => outD (none, some y)))) (fun i _ => N2 - (intOf i).toNat)
            case atStart => exact ⟨0, rfl, Nat.zero_le _, by simpa using HJ2.out⟩
            case round =>
              obtain ⟨j, rfl, hj, hjb⟩ := hrel
              have HJ11 := Lib.hid hjb
              clear hjb
              by_cases hlt : j < N2
              · have hq1 : decide ((j : Int) < (N2 : Int)) = true := decide_eq_true (by omega)
                have hi0 : (0 : Int) ≤ (j : Int) := by omega
                have hw1 : IntKind.i64.wrap ((j : Int) + 1) = (j : Int) + 1 := IntWalk.i64_in _ (by omega)
                have hll := HR2.out.1
                obtain ⟨x, hx⟩ : ∃ x, ys[j]? = some x := ⟨_, List.getElem?_eq_getElem (by omega)⟩
                obtain ⟨b1, o1, hB⟩ := rd_some HR2.out (by omega)
                subst hB
                have HCX := Lib.hid (rd_c4 (HR2.out.below HJ11.out.bel) hx hlt)
                have HTK := Lib.hid (show (acc ++ (xs.flatMap fun x => outD (some x, none))) ++ ((ys.take (j + 1)).flatMap fun y => outD (none, some y)) = ((acc ++ (xs.flatMap fun x => outD (some x, none))) ++ ((ys.take j).flatMap fun y => outD (none, some y))) ++ outD (none, some x) by obtain ⟨hj2, hx2⟩ := List.getElem?_eq_some_iff.1 hx; rw [List.take_succ_eq_append_getElem hj2, hx2, List.flatMap_append, List.append_assoc]; simp)
                have HST := Lib.hid (dstep_any w _ none (some ⟨b1, o1 + j * 4, none⟩) none (some x) wr HJ11.out rfl ⟨b1, o1 + j * 4, rfl, HCX.out⟩ (.inr (by simp)) (fun a b ha hb => by cases ha) (by have := HLN.out; have e1 := HR1.out.1; have q1 := fl_len (f := fun x : Fc => outD (some x, none)) (fun x => outD_len (some x, none)) xs; have q2 := fl_len (f := fun y : Fc => outD (none, some y)) (fun y => outD_len (none, some y)) (ys.take j); rw [List.length_append, List.length_append]; rw [List.length_take] at q2; omega))
                clear hx hll
                go_wp2_with fail
                refine HST.out.mono ?_
                rintro e v4 ⟨rfl, hj9⟩
                have HJ9 := Lib.hid hj9
                clear hj9 HST HCX
                go_wp2_with fail
                go_roundw
                case rel => exact ⟨j + 1, by go_num, by omega, by rw [HTK.out]; exact HJ9.out⟩
                case measure => simp [intOf] <;> omega
              · have hq1 : decide ((j : Int) < (N2 : Int)) = false := decide_eq_false (by omega)
                have hje : j = N2 := by omega
                subst hje
                have HJ3 := Lib.hid (show JB cgC 7 29 23 w wr ((acc ++ (xs.flatMap fun x => outD (some x, none))) ++ (ys.flatMap fun y => outD (none, some y))) by have q := HJ11.out; rwa [List.take_of_length_le (by have := HR2.out.1; omega)] at q)
                go_wp2_with fail
                refine bodyPost_end (results_none rfl _ _ _) rfl ?_
                exact ⟨rfl, by rw [← HMT.out]; exact HJ3.out⟩
end Go.Proofs.Ytpjpegmjcgkonaa

namespace Go.Proofs.Ytpjpegmjcgkonaa
open Go.RowKit Vi

/-- the fact that a change leaves -/
def behindC (c : Cg) : Fc := (c.1, c.2.1, c.2.2.1, c.2.2.2.2.2.2)
def cmpC (f : Fc) (c : Cg) : Int := cmpF f (behindC c)
def outA (p : Option Fc × Option Cg) : List Fc := match p with
  | (some f, none) => [f]
  | (none, none) => []
  | (_, some c) => if c.2.2.2.2.1 = true then [behindC c] else []
def C7 (W : World) (b o : Nat) (x : Cg) : Prop := W.cell? ⟨b, o, none⟩ = some (.int .i64 x.1) ∧ W.cell? ⟨b, o + 1, none⟩ = some (.string x.2.1) ∧ W.cell? ⟨b, o + 2, none⟩ = some (.string x.2.2.1) ∧ W.cell? ⟨b, o + 3, none⟩ = some (.bool x.2.2.2.1) ∧ W.cell? ⟨b, o + 4, none⟩ = some (.bool x.2.2.2.2.1) ∧ W.cell? ⟨b, o + 5, none⟩ = some (.string x.2.2.2.2.2.1) ∧ W.cell? ⟨b, o + 6, none⟩ = some (.string x.2.2.2.2.2.2)
theorem C7.lt {W : World} {b o : Nat} {x : Cg} (h : C7 W b o x) : b < W.heap.size := World.block_lt_of_cell? W _ h.1
theorem C7.blk {W W' : World} {b o : Nat} {x : Cg} (h : C7 W b o x) (k : W'.heap[b]? = W.heap[b]?) : C7 W' b o x :=
  ⟨(World.cell?_of_block (a := ⟨b, o, none⟩) k).trans h.1, (World.cell?_of_block (a := ⟨b, o + 1, none⟩) k).trans h.2.1, (World.cell?_of_block (a := ⟨b, o + 2, none⟩) k).trans h.2.2.1, (World.cell?_of_block (a := ⟨b, o + 3, none⟩) k).trans h.2.2.2.1, (World.cell?_of_block (a := ⟨b, o + 4, none⟩) k).trans h.2.2.2.2.1, (World.cell?_of_block (a := ⟨b, o + 5, none⟩) k).trans h.2.2.2.2.2.1, (World.cell?_of_block (a := ⟨b, o + 6, none⟩) k).trans h.2.2.2.2.2.2⟩
theorem C7.below {W W' : World} {b o : Nat} {x : Cg} (h : C7 W b o x) (k : Below W.heap.size W W') : C7 W' b o x := h.blk (k.block b h.lt)
def PtC (W : World) (p : Option Addr) : Option Cg → Prop
  | none => p = none
  | some x => ∃ b o, p = some ⟨b, o, none⟩ ∧ C7 W b o x
theorem results_c1D {fn : Func} {p : Tmp} {ty : TypeId} (h : fn.results = #[.cell p ty]) (tmps : Array Value) (w : World) (g : Nat) (cs : Array Value)
    (hp : tmps.getD p undef = .pointer (some ⟨g, 0, none⟩)) (hr : (loadVar ty ⟨g, 0, none⟩).run Try.prog w = .ok (.agg cs) w) :
    (results fn tmps).run Try.prog w = .ok (.agg cs) w := by
  have hp' : tmps[p]?.getD undef = .pointer (some ⟨g, 0, none⟩) := by simpa using hp
  simp [results, h, hp', asAddr, hr]
theorem info_cgS : (Try.prog.info? 29).map (·.size) = some 7 := by kernel_rfl
theorem info_fcS : (Try.prog.info? 32).map (·.size) = some 4 := by kernel_rfl
abbrev cgV (c : Cg) : Value := .agg #[.int .i64 c.1, .string c.2.1, .string c.2.2.1, .bool c.2.2.2.1, .bool c.2.2.2.2.1, .string c.2.2.2.2.2.1, .string c.2.2.2.2.2.2]
set_option maxRecDepth 100000 in
set_option maxHeartbeats 4000000 in
theorem behind_any (y1 : Int) (y2 y3 : ByteArray) (y4 y5 : Bool) (y6 y7 : ByteArray) (w : World) :
    Calls Try.prog 26 #[.agg #[.int .i64 y1, .string y2, .string y3, .bool y4, .bool y5, .string y6, .string y7]] w fun e w' => e = .returned (.agg #[.int .i64 y1, .string y2, .string y3, .string y7]) ∧ Below w.heap.size w w' := by
  have HB1 := Lib.hid (Below.refl w.heap.size w)
  have HF2 := Lib.hid (blk_new w (.cells #[.int .i64 y1, .string y2, .string y3, .bool y4, .bool y5, .string y6, .string y7] 29 (0, 0)))
  have HB3 := Lib.hid (HB1.out.alloc HB1.out.size (.cells #[.int .i64 y1, .string y2, .string y3, .bool y4, .bool y5, .string y6, .string y7] 29 (0, 0)))
  clear HB1
  have HF4 := Lib.hid (blk_alloc HF2.out (.cells #[.int .i64 0, .string ⟨#[]⟩, .string ⟨#[]⟩, .string ⟨#[]⟩] 32 (0, 0)))
  clear HF2
  have HF5 : Hid (((w.alloc (.cells #[.int .i64 y1, .string y2, .string y3, .bool y4, .bool y5, .string y6, .string y7] 29 (0, 0))).alloc (.cells #[.int .i64 0, .string ⟨#[]⟩, .string ⟨#[]⟩, .string ⟨#[]⟩] 32 (0, 0))).heap[w.heap.size + 1]? = some (.cells #[.int .i64 0, .string ⟨#[]⟩, .string ⟨#[]⟩, .string ⟨#[]⟩] 32 (0, 0))) := Lib.hid (blk_newN (W := (w.alloc (.cells #[.int .i64 y1, .string y2, .string y3, .bool y4, .bool y5, .string y6, .string y7] 29 (0, 0)))) (o := (.cells #[.int .i64 0, .string ⟨#[]⟩, .string ⟨#[]⟩, .string ⟨#[]⟩] 32 (0, 0))) (by simp))
  have HB6 := Lib.hid (HB3.out.alloc (by have := HB3.out.size; simp at this ⊢ <;> omega) (.cells #[.int .i64 0, .string ⟨#[]⟩, .string ⟨#[]⟩, .string ⟨#[]⟩] 32 (0, 0)))
  clear HB3
  obtain ⟨v, hv⟩ : ∃ v, v = ((w.alloc (.cells #[.int .i64 y1, .string y2, .string y3, .bool y4, .bool y5, .string y6, .string y7] 29 (0, 0))).alloc (.cells #[.int .i64 0, .string ⟨#[]⟩, .string ⟨#[]⟩, .string ⟨#[]⟩] 32 (0, 0))) := ⟨_, rfl⟩
  have HVv := Lib.hid hv
  rw [← hv] at HF4 HF5 HB6
  clear hv
  go_enter Try.func26, Try.ntmps26
  go_upto_region 1 with (fail)
  rw [← HVv.out]
  have hc7 : v.cell? ⟨w.heap.size, 0, none⟩ = some (.int .i64 y1) := by rw [cell_of_row _ _ _ _ _ _ HF4.out]; rfl
  have hc8 : v.cell? ⟨w.heap.size, 1, none⟩ = some (.string y2) := by rw [cell_of_row _ _ _ _ _ _ HF4.out]; rfl
  have hc9 : v.cell? ⟨w.heap.size, 2, none⟩ = some (.string y3) := by rw [cell_of_row _ _ _ _ _ _ HF4.out]; rfl
  have hc10 : v.cell? ⟨w.heap.size, 6, none⟩ = some (.string y7) := by rw [cell_of_row _ _ _ _ _ _ HF4.out]; rfl
  go_wp2_with (first
    | refine wpList_store_rowY rfl 32 (.tmp 2) (.tmp 11) rfl (w.heap.size + 1) #[.int .i64 y1, .string y2, .string y3, .string y7] rfl rfl 32 _ HF5.out (info_fcS) rfl (by simp [Value.oneCell']) w.heap.size w HB6.out (by omega) ?_)
  intro w1 hbk hoth hbel _
  clear hc7 hc8 hc9 hc10
  have HF11 := Lib.hid (blk_oth HF4.out hoth.out (by omega))
  have HF12 := Lib.hid hbk.out
  have HB13 := Lib.hid hbel.out
  clear hbk hoth hbel HB6 HF4 HF5
  go_wp2_with fail
  refine bodyPost_ret (results_c1D rfl _ _ (w.heap.size + 1) #[.int .i64 y1, .string y2, .string y3, .string y7] rfl (run_loadVar_row _ (w.heap.size + 1) 32 32 _ (0, 0) _ HF12.out Try.underlying32 rfl (by kernel_rfl))) rfl ?_
  exact ⟨rfl, HB13.out⟩
set_option maxRecDepth 100000 in
set_option maxHeartbeats 4000000 in
theorem acmpv_any (x1 : Int) (x2 x3 x4 : ByteArray) (y1 : Int) (y2 y3 : ByteArray) (y4 y5 : Bool) (y6 y7 : ByteArray) (w : World) :
    Calls Try.prog 25 #[.agg #[.int .i64 x1, .string x2, .string x3, .string x4], .agg #[.int .i64 y1, .string y2, .string y3, .bool y4, .bool y5, .string y6, .string y7]] w fun e w' => e = .returned (.int .i64 (cmpF (x1, x2, x3, x4) (y1, y2, y3, y7))) ∧ Below w.heap.size w w' := by
  have HB1 := Lib.hid (Below.refl w.heap.size w)
  have HF2 := Lib.hid (blk_new w (.cells #[.int .i64 x1, .string x2, .string x3, .string x4] 32 (0, 0)))
  have HB3 := Lib.hid (HB1.out.alloc HB1.out.size (.cells #[.int .i64 x1, .string x2, .string x3, .string x4] 32 (0, 0)))
  clear HB1
  have HF4 := Lib.hid (blk_alloc HF2.out (.cells #[.int .i64 y1, .string y2, .string y3, .bool y4, .bool y5, .string y6, .string y7] 29 (0, 0)))
  clear HF2
  have HF5 : Hid (((w.alloc (.cells #[.int .i64 x1, .string x2, .string x3, .string x4] 32 (0, 0))).alloc (.cells #[.int .i64 y1, .string y2, .string y3, .bool y4, .bool y5, .string y6, .string y7] 29 (0, 0))).heap[w.heap.size + 1]? = some (.cells #[.int .i64 y1, .string y2, .string y3, .bool y4, .bool y5, .string y6, .string y7] 29 (0, 0))) := Lib.hid (blk_newN (W := (w.alloc (.cells #[.int .i64 x1, .string x2, .string x3, .string x4] 32 (0, 0)))) (o := (.cells #[.int .i64 y1, .string y2, .string y3, .bool y4, .bool y5, .string y6, .string y7] 29 (0, 0))) (by simp))
  have HB6 := Lib.hid (HB3.out.alloc (by have := HB3.out.size; simp at this ⊢ <;> omega) (.cells #[.int .i64 y1, .string y2, .string y3, .bool y4, .bool y5, .string y6, .string y7] 29 (0, 0)))
  clear HB3
  obtain ⟨v, hv⟩ : ∃ v, v = ((w.alloc (.cells #[.int .i64 x1, .string x2, .string x3, .string x4] 32 (0, 0))).alloc (.cells #[.int .i64 y1, .string y2, .string y3, .bool y4, .bool y5, .string y6, .string y7] 29 (0, 0))) := ⟨_, rfl⟩
  have HVv := Lib.hid hv
  rw [← hv] at HF4 HF5 HB6
  clear hv
  go_enter Try.func25, Try.ntmps25
  go_upto_region 1 with (fail)
  rw [← HVv.out]
  have HP0 := Lib.hid (show v.drew.heap[w.heap.size]? = some (.cells #[.int .i64 x1, .string x2, .string x3, .string x4] 32 (0, 0)) from HF4.out)
  have HQ0 := Lib.hid (show v.drew.heap[w.heap.size + 1]? = some (.cells #[.int .i64 y1, .string y2, .string y3, .bool y4, .bool y5, .string y6, .string y7] 29 (0, 0)) from HF5.out)
  have HB0 := Lib.hid HB6.out.drew
  refine wp_region_L_drew (S := fun _ W => W.heap[w.heap.size]? = some (.cells #[.int .i64 x1, .string x2, .string x3, .string x4] 32 (0, 0)) ∧ W.heap[w.heap.size + 1]? = some (.cells #[.int .i64 y1, .string y2, .string y3, .bool y4, .bool y5, .string y6, .string y7] 29 (0, 0))) (by kernel_rfl) ⟨HP0.out, HQ0.out⟩ (fun hS hC => ?_)
  generalize v.drew = v1 at *
  refine wpAnyL_take (i := 0) (oi := { dst := some 5, op := .load 32 (.tmp 2), type := _, pos := _, after := _, guard := none }) (v := ?_) rfl (by kernel_rfl) (by kernel_rfl) (by kernel_rfl) (fun _ _ _ h => h) (fun _ _ => Iff.rfl) hC (Or.inl ⟨by rfl, ?_⟩) hS (fun hC hS => ?_)
  rotate_left
  · intro W9 hSw; have q0 := (cell_of_row _ _ 0 _ _ _ hSw.choose_spec.2.2.1).trans rfl; have q1 := (cell_of_row _ _ 1 _ _ _ hSw.choose_spec.2.2.1).trans rfl; have q2 := (cell_of_row _ _ 2 _ _ _ hSw.choose_spec.2.2.1).trans rfl; have q3 := (cell_of_row _ _ 3 _ _ _ hSw.choose_spec.2.2.1).trans rfl; go_simp; try (with_reducible rfl)
  try simp only [Act.put, List.setIfInBounds_toArray, List.set_cons_zero, List.set_cons_succ]
  refine wpAnyL_take (i := 1) (oi := { dst := some 6, op := .load 29 (.tmp 3), type := _, pos := _, after := _, guard := none }) (v := ?_) rfl (by kernel_rfl) (by kernel_rfl) (by kernel_rfl) (fun _ _ _ h => h) (fun _ _ => Iff.rfl) hC (Or.inl ⟨by rfl, ?_⟩) hS (fun hC hS => ?_)
  rotate_left
  · intro W9 hSw; have q0 := (cell_of_row _ _ 0 _ _ _ hSw.choose_spec.2.2.2).trans rfl; have q1 := (cell_of_row _ _ 1 _ _ _ hSw.choose_spec.2.2.2).trans rfl; have q2 := (cell_of_row _ _ 2 _ _ _ hSw.choose_spec.2.2.2).trans rfl; have q3 := (cell_of_row _ _ 3 _ _ _ hSw.choose_spec.2.2.2).trans rfl; have q4 := (cell_of_row _ _ 4 _ _ _ hSw.choose_spec.2.2.2).trans rfl; have q5 := (cell_of_row _ _ 5 _ _ _ hSw.choose_spec.2.2.2).trans rfl; have q6 := (cell_of_row _ _ 6 _ _ _ hSw.choose_spec.2.2.2).trans rfl; go_simp; try (with_reducible rfl)
  try simp only [Act.put, List.setIfInBounds_toArray, List.set_cons_zero, List.set_cons_succ]
  refine wpAnyL_ready (rs := [2]) (by kernel_rfl) (by simp) hC ?_
  refine AllReadyL.cons (o := { dst := some 7, op := .call { callee := .value (.func 26), args := #[.tmp 6], argTypes := #[29] }, type := _, pos := _, after := _, guard := none }) rfl (fun K9 hK => ?_) ?_
  · skip
    go_simp
    refine (behind_any y1 y2 y3 y4 y5 y6 y7 v1).mono ?_
    rintro e v2 ⟨rfl, hb⟩
    have HP1 := Lib.hid (blk_below HP0.out hb)
    have HQ1 := Lib.hid (blk_below HQ0.out hb)
    have HB1 := Lib.hid (HB0.out.trans (hb.mono HB0.out.size))
    clear hb
    refine hK _ _ ⟨HP1.out, HQ1.out⟩ (fun hC => ?_)
    clear hK K9
    try simp only [Act.put, List.setIfInBounds_toArray, List.set_cons_zero, List.set_cons_succ]
    refine wpAnyL_ready (rs := [3]) (by kernel_rfl) (by simp) hC ?_
    refine AllReadyL.cons (o := { dst := some 8, op := .call { callee := .value (.func 21), args := #[.tmp 5, .tmp 7], argTypes := #[32, 32] }, type := _, pos := _, after := _, guard := none }) rfl (fun K9 hK => ?_) ?_
    · skip
      go_simp
      refine (fcmp_any x1 x2 x3 x4 y1 y2 y3 y7 v2).mono ?_
      rintro e v3 ⟨rfl, hb⟩
      have HP2 := Lib.hid (blk_below HP1.out hb)
      have HQ2 := Lib.hid (blk_below HQ1.out hb)
      have HB2 := Lib.hid (HB1.out.trans (hb.mono HB1.out.size))
      clear hb
      refine hK _ _ ⟨HP2.out, HQ2.out⟩ (fun hC => ?_)
      clear hK K9
      try simp only [Act.put, List.setIfInBounds_toArray, List.set_cons_zero, List.set_cons_succ]
      refine wpAnyL_take (i := 4) (oi := { dst := some 4, op := .assign (.tmp 8), type := _, pos := _, after := _, guard := none }) (v := ?_) rfl (by kernel_rfl) (by kernel_rfl) (by kernel_rfl) (fun _ _ _ h => h) (fun _ _ => Iff.rfl) hC (Or.inl ⟨by rfl, ?_⟩) ⟨HP2.out, HQ2.out⟩ (fun hC hS => ?_)
      rotate_left
      · intro W9 hSw; skip; go_simp; try (with_reducible rfl)
      try simp only [Act.put, List.setIfInBounds_toArray, List.set_cons_zero, List.set_cons_succ]
      refine wpAnyL_done (by kernel_rfl) ?_ _
      clear hS hC
      go_wp2_with fail
      go_ret
      exact ⟨rfl, HB2.out⟩
    exact AllReadyL.nil
  exact AllReadyL.nil
theorem acmp_any (f : Fc) (c : Cg) (w : World) : Calls Try.prog 25 #[.agg #[.int .i64 f.1, .string f.2.1, .string f.2.2.1, .string f.2.2.2], cgV c] w fun e w' => e = .returned (.int .i64 (cmpC f c)) ∧ Below w.heap.size w w' :=
  acmpv_any f.1 f.2.1 f.2.2.1 f.2.2.2 c.1 c.2.1 c.2.2.1 c.2.2.2.1 c.2.2.2.2.1 c.2.2.2.2.2.1 c.2.2.2.2.2.2 w
structure SG (A : World → Prop) (k1 D : Nat) (ob : Obj) (k : Nat) (L : Array Bool) (W : World) : Prop where
  x : L.getD k1 false = false → A W
  d : L.getD k false = false → W.heap[D]? = some ob
theorem SG.set {A : World → Prop} {k1 D : Nat} {ob : Obj} {k j : Nat} (h0 : j ≠ k1) (h1 : j ≠ k) (L : Array Bool) (w : World) : SG A k1 D ob k (L.setIfInBounds j true) w ↔ SG A k1 D ob k L w :=
  ⟨fun h => ⟨fun q => h.x (by rw [getF_set L j k1 h0]; exact q), fun q => h.d (by rw [getF_set L j k h1]; exact q)⟩, fun h => ⟨fun q => h.x (by rw [getF_set L j k1 h0] at q; exact q), fun q => h.d (by rw [getF_set L j k h1] at q; exact q)⟩⟩
theorem SG.dOf {md : Region.Mode} {ops : Array Oper} {A : World → Prop} {k1 D : Nat} {ob : Obj} {k j : Nat} {w : World} (h : SI md ops (SG A k1 D ob k) j w) (f : Nat) (hw : waits md ops f k j = true) : w.heap[D]? = some ob := by
  obtain ⟨L, hs, hi, hS⟩ := h
  exact hS.d (shut_of hs hi f k hw)
theorem SG.xOf {md : Region.Mode} {ops : Array Oper} {A : World → Prop} {k1 D : Nat} {ob : Obj} {k j : Nat} {w : World} (h : SI md ops (SG A k1 D ob k) j w) (f : Nat) (hw : waits md ops f k1 j = true) : A w := by
  obtain ⟨L, hs, hi, hS⟩ := h
  exact hS.x (shut_of hs hi f k1 hw)
set_option linter.unusedSimpArgs false in
set_option maxRecDepth 100000 in
set_option maxHeartbeats 8000000 in
theorem astep_any (w : World) (acc : List Fc) (px py : Option Addr) (x : Option Fc) (y : Option Cg) (u : World) (hJ : JB fcC 4 32 22 w u acc) (hx : PtF u px x) (hy : PtC u py y) (hxy : x ≠ none ∨ y ≠ none) (_ : ∀ a b, x = some a → y = some b → sameK a (behindC b)) (ha : acc.length < 1000000) :
    Calls Try.prog 28 #[.pointer px, .pointer py, .pointer (some ⟨w.heap.size, 0, none⟩)] u fun e u' => e = .returned (.tuple #[]) ∧ JB fcC 4 32 22 w u' (acc ++ outA (x, y)) := by
  have HJ := Lib.hid hJ
  have HAC := Lib.hid ha
  obtain ⟨V0, hv0, ho0⟩ := hJ.bx
  have HV0 := Lib.hid hv0
  have HO0 := Lib.hid ho0
  have HSZ := Lib.hid (show w.heap.size + 1 ≤ u.heap.size from lt_of_block hv0)
  obtain ⟨V0a, V0n, V0c, rfl⟩ := ho0.sl3
  have z0 : u.cell? ⟨w.heap.size, 0, none⟩ = some (.slice V0a V0n V0c) := (cell_of_row _ _ 0 _ _ _ hv0).trans rfl
  clear hJ ha hv0 ho0
  cases y with
  | none =>
    obtain rfl : py = none := hy
    cases x with
    | none => rcases hxy with h | h <;> exact absurd rfl h
    | some x =>
      obtain ⟨xb, xo, rfl, hcx⟩ := hx
      obtain ⟨x1, x2, x3, x4⟩ := x
      obtain ⟨q0, q1, q2, q3⟩ := hcx
      dsimp only at q0 q1 q2 q3
      have HO := Lib.hid (show outA (some (x1, x2, x3, x4), none) = [(x1, x2, x3, x4)] from rfl)
      clear hxy
      go_enter Try.func28, Try.ntmps28
      go_upto_region 1 with (fail)
      have HC0 := Lib.hid (show C4 u.drew xb xo (x1, x2, x3, x4) from ⟨q0, q1, q2, q3⟩)
      have HJ0 := Lib.hid (HJ.out.kept (Below.refl _ _).drew)
      have HV0 := Lib.hid (show u.drew.heap[w.heap.size]? = some (.cells #[.slice V0a V0n V0c] 22 (0, 0)) from HV0.out)
      have HO0 := Lib.hid HO0.out.drew
      clear q0 q1 q2 q3 z0 HJ HSZ
      refine wp_region_L_drew (S := SG (fun W => C4 W xb xo (x1, x2, x3, x4)) 4 w.heap.size (.cells #[.slice V0a V0n V0c] 22 (0, 0)) 6) (by kernel_rfl) ⟨fun _ => HC0.out, fun _ => HV0.out⟩ (fun hS hC => ?_)
      generalize u.drew = v0 at *
      refine wpAnyL_take (i := 0) (oi := { dst := some 8, op := .load 22 (.tmp 2), type := _, pos := _, after := _, guard := none }) (v := ?_) rfl (by kernel_rfl) (by kernel_rfl) (by kernel_rfl) (fun _ _ _ h => h) (SG.set (by decide) (by decide)) hC (Or.inl ⟨by rfl, ?_⟩) hS (fun hC hS => ?_)
      rotate_left
      · intro W9 hSw; have q0 := (cell_of_row _ _ 0 _ _ _ (SG.dOf hSw 12 (by kernel_rfl))).trans rfl; go_simp; try (with_reducible rfl)
      try simp only [Act.put, List.setIfInBounds_toArray, List.set_cons_zero, List.set_cons_succ]
      refine wpAnyL_take (i := 1) (oi := { dst := some 9, op := .move (.tmp 0), type := _, pos := _, after := _, guard := none }) (v := ?_) rfl (by kernel_rfl) (by kernel_rfl) (by kernel_rfl) (fun _ _ _ h => h) (SG.set (by decide) (by decide)) hC (Or.inl ⟨by rfl, ?_⟩) hS (fun hC hS => ?_)
      rotate_left
      · intro W9 hSw; skip; go_simp; try (with_reducible rfl)
      try simp only [Act.put, List.setIfInBounds_toArray, List.set_cons_zero, List.set_cons_succ]
      refine wpAnyL_take (i := 2) (oi := { dst := some 10, op := .nilCheck (.tmp 9), type := _, pos := _, after := _, guard := none }) (v := ?_) rfl (by kernel_rfl) (by kernel_rfl) (by kernel_rfl) (fun _ _ _ h => h) (SG.set (by decide) (by decide)) hC (Or.inl ⟨by rfl, ?_⟩) hS (fun hC hS => ?_)
      rotate_left
      · intro W9 hSw; skip; go_simp; try (with_reducible rfl)
      try simp only [Act.put, List.setIfInBounds_toArray, List.set_cons_zero, List.set_cons_succ]
      refine wpAnyL_take (i := 3) (oi := { dst := some 11, op := .load 32 (.tmp 10), type := _, pos := _, after := _, guard := none }) (v := ?_) rfl (by kernel_rfl) (by kernel_rfl) (by kernel_rfl) (fun _ _ _ h => h) (SG.set (by decide) (by decide)) hC (Or.inl ⟨by rfl, ?_⟩) hS (fun hC hS => ?_)
      rotate_left
      · intro W9 hSw; obtain ⟨q0, q1, q2, q3⟩ := SG.xOf hSw 12 (by kernel_rfl); dsimp only at q0 q1 q2 q3; go_simp; try (with_reducible rfl)
      try simp only [Act.put, List.setIfInBounds_toArray, List.set_cons_zero, List.set_cons_succ]
      refine wpAnyL_ready (rs := [4]) (by kernel_rfl) (by simp) hC ?_
      refine AllReadyL.cons (o := { dst := some 12, op := .buildSlice 22 1 #[(0, .tmp 11)], type := _, pos := _, after := _, guard := none }) rfl (fun K9 hK => ?_) ?_
      · skip
        have HV2 := Lib.hid (blk_alloc HV0.out (.cells #[.int .i64 x1, .string x2, .string x3, .string x4] 32 (0, 0)))
        have HJ2 := Lib.hid (HJ0.out.kept ((Below.refl _ v0).alloc (Nat.le_refl _) (.cells #[.int .i64 x1, .string x2, .string x3, .string x4] 32 (0, 0))))
        have HO2 := Lib.hid (HO0.out.alloc (.cells #[.int .i64 x1, .string x2, .string x3, .string x4] 32 (0, 0)))
        have HN2 := Lib.hid (blk_new v0 (.cells #[.int .i64 x1, .string x2, .string x3, .string x4] 32 (0, 0)))
        have HZ2 := Lib.hid (show w.heap.size + 1 ≤ (v0.alloc (.cells #[.int .i64 x1, .string x2, .string x3, .string x4] 32 (0, 0))).heap.size from lt_of_block HV2.out)
        obtain ⟨q0, q1, q2, q3⟩ := HC0.out
        dsimp only at q0 q1 q2 q3
        go_simp
        refine hK _ _ ⟨fun q => absurd q (by decide), fun _ => HV2.out⟩ (fun hC => ?_)
        clear hK K9
        try simp only [Act.put, List.setIfInBounds_toArray, List.set_cons_zero, List.set_cons_succ]
        refine wpAnyL_ready (rs := [5]) (by kernel_rfl) (by simp) hC ?_
        refine AllReadyL.cons (o := { dst := some 13, op := .call { callee := .builtin .append, args := #[.tmp 8, .tmp 12], argTypes := #[22, 22] }, type := _, pos := _, after := _, guard := none }) rfl (fun K9 hK => ?_) ?_
        · skip
          refine step_appPo rfl (.tmp 8) (.tmp 12) 22 32 _ 56 rfl Try.underlying22 info_fcD rfl (by omega) (by omega) fcC_len fcC_one (w.heap.size + 1) (v0.alloc (.cells #[.int .i64 x1, .string x2, .string x3, .string x4] 32 (0, 0))) (Below.refl _ _) HZ2.out (.slice V0a V0n V0c) acc rfl HO2.out v0.heap.size 1 (x1, x2, x3, x4) #[.int .i64 x1, .string x2, .string x3, .string x4] 32 (0, 0) rfl HN2.out rfl (by have := HAC.out; omega) ?_
          intro v9 w9 HO9 HB9 HG9 _
          obtain ⟨A9, n9, c9, rfl⟩ := HO9.out.sl3
          have HV9 := Lib.hid (show w9.heap[w.heap.size]? = some (.cells #[.slice V0a V0n V0c] 22 (0, 0)) from (HB9.out.block _ (Nat.lt_succ_self _)).trans HV2.out)
          have z0 : w9.cell? ⟨w.heap.size, 0, none⟩ = some (.slice V0a V0n V0c) := (cell_of_row _ _ 0 _ _ _ HV9.out).trans rfl
          have f0 : w9.frozen? ⟨w.heap.size, 0, none⟩ = false := frozen_of_row _ _ _ _ _ HV9.out
          refine hK _ _ ⟨fun q => absurd q (by decide), fun _ => HV9.out⟩ (fun hC => ?_)
          clear hK K9
          try simp only [Act.put, List.setIfInBounds_toArray, List.set_cons_zero, List.set_cons_succ]
          refine wpAnyL_ready (rs := [6]) (by kernel_rfl) (by simp) hC ?_
          refine AllReadyL.cons (o := { dst := none, op := .store 22 (.tmp 2) (.tmp 13), type := _, pos := _, after := _, guard := none }) rfl (fun K9 hK => ?_) ?_
          · skip
            go_simp
            have HK9 := Lib.hid ((KK.refl [w.heap.size] w9).set (b := w.heap.size) (by simp) 0 (.slice A9 n9 c9))
            have HW9 := Lib.hid (show (w9.setCell ⟨w.heap.size, 0, none⟩ (.slice A9 n9 c9)).heap[w.heap.size]? = some (.cells #[.slice A9 n9 c9] 22 (0, 0)) from heap_setCell_at (i := 0) (u := .slice A9 n9 c9) HV9.out)
            have HR9 := Lib.hid (HO9.out.kk HK9.out (fun b hb => by obtain rfl : b = w.heap.size := (by simpa using hb); omega))
            have HL9 := Lib.hid (show Below w.heap.size w w9 from HJ2.out.bel.trans (HB9.out.mono (Nat.le_succ _)))
            have HM9 := Lib.hid (HK9.out.below HL9.out (fun b hb => by obtain rfl : b = w.heap.size := (by simpa using hb); exact Nat.le_refl _) (Nat.le_of_lt (lt_of_block HV9.out)))
            refine hK _ _ ⟨fun q => absurd q (by decide), fun q => absurd q (by decide)⟩ (fun hC => ?_)
            clear hK K9
            try simp only [Act.put, List.setIfInBounds_toArray, List.set_cons_zero, List.set_cons_succ]
            refine wpAnyL_done (by kernel_rfl) ?_ _
            clear hS hC
            go_wp2_with fail
            refine bodyPost_end (results_none rfl _ _ _) rfl ?_
            exact ⟨rfl, by rw [HO.out]; exact ⟨⟨_, HW9.out, HR9.out⟩, HM9.out⟩⟩
          exact AllReadyL.nil
        exact AllReadyL.nil
      exact AllReadyL.nil
  | some y =>
    obtain ⟨yb, yo, rfl, hcy⟩ := hy
    have HCY := Lib.hid hcy
    obtain ⟨y1, y2, y3, y4, y5, y6, y7⟩ := y
    obtain ⟨q0, q1, q2, q3, q4, q5, q6⟩ := hcy
    dsimp only at q0 q1 q2 q3 q4 q5 q6
    clear hxy hx
    cases y5 with
    | false =>
      have HO := Lib.hid (show outA (x, some (y1, y2, y3, y4, false, y6, y7)) = [] from by cases x <;> simp [outA])
      go_enter Try.func28, Try.ntmps28
      go_wp2_with fail
      refine bodyPost_end (results_none rfl _ _ _) rfl ?_
      exact ⟨rfl, by rw [HO.out, List.append_nil]; exact HJ.out⟩
    | true =>
      have HO := Lib.hid (show outA (x, some (y1, y2, y3, y4, true, y6, y7)) = [(y1, y2, y3, y7)] from by cases x <;> simp [outA, behindC])
      go_enter Try.func28, Try.ntmps28
      go_upto_region 3 with (fail)
      have HC0 := Lib.hid (HCY.out.below (Below.refl _ _).drew)
      have HJ0 := Lib.hid (HJ.out.kept (Below.refl _ _).drew)
      have HV0 := Lib.hid (show u.drew.heap[w.heap.size]? = some (.cells #[.slice V0a V0n V0c] 22 (0, 0)) from HV0.out)
      have HO0 := Lib.hid HO0.out.drew
      clear q0 q1 q2 q3 q4 q5 q6 z0 HJ HCY HSZ
      refine wp_region_L_drew (S := SG (fun W => C7 W yb yo (y1, y2, y3, y4, true, y6, y7)) 4 w.heap.size (.cells #[.slice V0a V0n V0c] 22 (0, 0)) 7) (by kernel_rfl) ⟨fun _ => HC0.out, fun _ => HV0.out⟩ (fun hS hC => ?_)
      generalize u.drew = v0 at *
      refine wpAnyL_take (i := 0) (oi := { dst := some 19, op := .load 22 (.tmp 2), type := _, pos := _, after := _, guard := none }) (v := ?_) rfl (by kernel_rfl) (by kernel_rfl) (by kernel_rfl) (fun _ _ _ h => h) (SG.set (by decide) (by decide)) hC (Or.inl ⟨by rfl, ?_⟩) hS (fun hC hS => ?_)
      rotate_left
      · intro W9 hSw; have q0 := (cell_of_row _ _ 0 _ _ _ (SG.dOf hSw 12 (by kernel_rfl))).trans rfl; go_simp; try (with_reducible rfl)
      try simp only [Act.put, List.setIfInBounds_toArray, List.set_cons_zero, List.set_cons_succ]
      refine wpAnyL_take (i := 1) (oi := { dst := some 20, op := .move (.tmp 1), type := _, pos := _, after := _, guard := none }) (v := ?_) rfl (by kernel_rfl) (by kernel_rfl) (by kernel_rfl) (fun _ _ _ h => h) (SG.set (by decide) (by decide)) hC (Or.inl ⟨by rfl, ?_⟩) hS (fun hC hS => ?_)
      rotate_left
      · intro W9 hSw; skip; go_simp; try (with_reducible rfl)
      try simp only [Act.put, List.setIfInBounds_toArray, List.set_cons_zero, List.set_cons_succ]
      refine wpAnyL_take (i := 2) (oi := { dst := some 21, op := .nilCheck (.tmp 20), type := _, pos := _, after := _, guard := none }) (v := ?_) rfl (by kernel_rfl) (by kernel_rfl) (by kernel_rfl) (fun _ _ _ h => h) (SG.set (by decide) (by decide)) hC (Or.inl ⟨by rfl, ?_⟩) hS (fun hC hS => ?_)
      rotate_left
      · intro W9 hSw; skip; go_simp; try (with_reducible rfl)
      try simp only [Act.put, List.setIfInBounds_toArray, List.set_cons_zero, List.set_cons_succ]
      refine wpAnyL_take (i := 3) (oi := { dst := some 22, op := .load 29 (.tmp 21), type := _, pos := _, after := _, guard := none }) (v := ?_) rfl (by kernel_rfl) (by kernel_rfl) (by kernel_rfl) (fun _ _ _ h => h) (SG.set (by decide) (by decide)) hC (Or.inl ⟨by rfl, ?_⟩) hS (fun hC hS => ?_)
      rotate_left
      · intro W9 hSw; obtain ⟨q0, q1, q2, q3, q4, q5, q6⟩ := SG.xOf hSw 12 (by kernel_rfl); dsimp only at q0 q1 q2 q3 q4 q5 q6; go_simp; try (with_reducible rfl)
      try simp only [Act.put, List.setIfInBounds_toArray, List.set_cons_zero, List.set_cons_succ]
      refine wpAnyL_ready (rs := [4]) (by kernel_rfl) (by simp) hC ?_
      refine AllReadyL.cons (o := { dst := some 23, op := .call { callee := .value (.func 26), args := #[.tmp 22], argTypes := #[29] }, type := _, pos := _, after := _, guard := none }) rfl (fun K9 hK => ?_) ?_
      · skip
        go_simp
        refine (behind_any y1 y2 y3 y4 true y6 y7 v0).mono ?_
        rintro e v2 ⟨rfl, hb⟩
        have HV1 := Lib.hid (blk_below HV0.out hb)
        have HJ1 := Lib.hid (HJ0.out.kept hb)
        have HO1 := Lib.hid (HO0.out.kept hb)
        clear hb
        refine hK _ _ ⟨fun q => absurd q (by decide), fun _ => HV1.out⟩ (fun hC => ?_)
        clear hK K9
        try simp only [Act.put, List.setIfInBounds_toArray, List.set_cons_zero, List.set_cons_succ]
        refine wpAnyL_ready (rs := [5]) (by kernel_rfl) (by simp) hC ?_
        refine AllReadyL.cons (o := { dst := some 24, op := .buildSlice 22 1 #[(0, .tmp 23)], type := _, pos := _, after := _, guard := none }) rfl (fun K9 hK => ?_) ?_
        · skip
          have HV2 := Lib.hid (blk_alloc HV1.out (.cells #[.int .i64 y1, .string y2, .string y3, .string y7] 32 (0, 0)))
          have HJ2 := Lib.hid (HJ1.out.kept ((Below.refl _ v2).alloc (Nat.le_refl _) (.cells #[.int .i64 y1, .string y2, .string y3, .string y7] 32 (0, 0))))
          have HO2 := Lib.hid (HO1.out.alloc (.cells #[.int .i64 y1, .string y2, .string y3, .string y7] 32 (0, 0)))
          have HN2 := Lib.hid (blk_new v2 (.cells #[.int .i64 y1, .string y2, .string y3, .string y7] 32 (0, 0)))
          have HZ2 := Lib.hid (show w.heap.size + 1 ≤ (v2.alloc (.cells #[.int .i64 y1, .string y2, .string y3, .string y7] 32 (0, 0))).heap.size from lt_of_block HV2.out)
          go_simp
          refine hK _ _ ⟨fun q => absurd q (by decide), fun _ => HV2.out⟩ (fun hC => ?_)
          clear hK K9
          try simp only [Act.put, List.setIfInBounds_toArray, List.set_cons_zero, List.set_cons_succ]
          refine wpAnyL_ready (rs := [6]) (by kernel_rfl) (by simp) hC ?_
          refine AllReadyL.cons (o := { dst := some 25, op := .call { callee := .builtin .append, args := #[.tmp 19, .tmp 24], argTypes := #[22, 22] }, type := _, pos := _, after := _, guard := none }) rfl (fun K9 hK => ?_) ?_
          · skip
            refine step_appPo rfl (.tmp 19) (.tmp 24) 22 32 _ 56 rfl Try.underlying22 info_fcD rfl (by omega) (by omega) fcC_len fcC_one (w.heap.size + 1) (v2.alloc (.cells #[.int .i64 y1, .string y2, .string y3, .string y7] 32 (0, 0))) (Below.refl _ _) HZ2.out (.slice V0a V0n V0c) acc rfl HO2.out v2.heap.size 1 (y1, y2, y3, y7) #[.int .i64 y1, .string y2, .string y3, .string y7] 32 (0, 0) rfl HN2.out rfl (by have := HAC.out; omega) ?_
            intro v9 w9 HO9 HB9 HG9 _
            obtain ⟨A9, n9, c9, rfl⟩ := HO9.out.sl3
            have HV9 := Lib.hid (show w9.heap[w.heap.size]? = some (.cells #[.slice V0a V0n V0c] 22 (0, 0)) from (HB9.out.block _ (Nat.lt_succ_self _)).trans HV2.out)
            have z0 : w9.cell? ⟨w.heap.size, 0, none⟩ = some (.slice V0a V0n V0c) := (cell_of_row _ _ 0 _ _ _ HV9.out).trans rfl
            have f0 : w9.frozen? ⟨w.heap.size, 0, none⟩ = false := frozen_of_row _ _ _ _ _ HV9.out
            refine hK _ _ ⟨fun q => absurd q (by decide), fun _ => HV9.out⟩ (fun hC => ?_)
            clear hK K9
            try simp only [Act.put, List.setIfInBounds_toArray, List.set_cons_zero, List.set_cons_succ]
            refine wpAnyL_ready (rs := [7]) (by kernel_rfl) (by simp) hC ?_
            refine AllReadyL.cons (o := { dst := none, op := .store 22 (.tmp 2) (.tmp 25), type := _, pos := _, after := _, guard := none }) rfl (fun K9 hK => ?_) ?_
            · skip
              go_simp
              have HK9 := Lib.hid ((KK.refl [w.heap.size] w9).set (b := w.heap.size) (by simp) 0 (.slice A9 n9 c9))
              have HW9 := Lib.hid (show (w9.setCell ⟨w.heap.size, 0, none⟩ (.slice A9 n9 c9)).heap[w.heap.size]? = some (.cells #[.slice A9 n9 c9] 22 (0, 0)) from heap_setCell_at (i := 0) (u := .slice A9 n9 c9) HV9.out)
              have HR9 := Lib.hid (HO9.out.kk HK9.out (fun b hb => by obtain rfl : b = w.heap.size := (by simpa using hb); omega))
              have HL9 := Lib.hid (show Below w.heap.size w w9 from HJ2.out.bel.trans (HB9.out.mono (Nat.le_succ _)))
              have HM9 := Lib.hid (HK9.out.below HL9.out (fun b hb => by obtain rfl : b = w.heap.size := (by simpa using hb); exact Nat.le_refl _) (Nat.le_of_lt (lt_of_block HV9.out)))
              refine hK _ _ ⟨fun q => absurd q (by decide), fun q => absurd q (by decide)⟩ (fun hC => ?_)
              clear hK K9
              try simp only [Act.put, List.setIfInBounds_toArray, List.set_cons_zero, List.set_cons_succ]
              refine wpAnyL_done (by kernel_rfl) ?_ _
              clear hS hC
              go_wp2_with fail
              refine bodyPost_end (results_none rfl _ _ _) rfl ?_
              exact ⟨rfl, by rw [HO.out]; exact ⟨⟨_, HW9.out, HR9.out⟩, HM9.out⟩⟩
            exact AllReadyL.nil
          exact AllReadyL.nil
        exact AllReadyL.nil
      exact AllReadyL.nil
end Go.Proofs.Ytpjpegmjcgkonaa
