/- The disk family, merged for a claim. Conditions as in its parts. -/
import Derived.Test.YtiagbadnmkeokaaDKa
import Derived.Test.YtiagbadnmkeokaaStB
import Derived.IntWalk
import Derived.Deep.RegionHeld3
import Derived.Lib.MinMax
namespace Go.Proofs.Ytiagbadnmkeokaa
open Go.RowKit Vi

abbrev Wr := Int × ByteArray
def wrC (x : Wr) : List Value := [.int .i64 x.1, .string x.2]
theorem wrC_len (x : Wr) : (wrC x).length = 2 := rfl
theorem wrC_one (x : Wr) : ∀ u ∈ wrC x, u.oneCell' = true := by
  intro u hu
  simp [wrC] at hu
  rcases hu with rfl | rfl <;> rfl
theorem info_wrB : (Try.prog.info? 91).map (fun i => (i.zero, i.size, i.bytes)) = some (some (.agg #[.int .i64 0, .string ⟨#[]⟩]), 2, 24) := by kernel_rfl
theorem flat_st (l : List ByteArray) : flat stC l = l.map Value.string := by
  induction l with
  | nil => rfl
  | cons x r ih =>
    show stC x ++ flat stC r = _
    rw [ih]
    rfl
theorem OwX.setS {w : World} {B g n c i : Nat} {T : TypeId} {SS : List ByteArray} (s : ByteArray) (h : OwX stC 1 T w B (.slice (some ⟨g, 0, none⟩) n c) SS) : OwX stC 1 T (w.setCell ⟨g, i, none⟩ (.string s)) B (.slice (some ⟨g, 0, none⟩) n c) (SS.set i s) := by
  unfold OwX at h ⊢
  rw [flat_st] at h ⊢
  rcases h with ⟨h1, h | ⟨g', cap, cur, h2, h3, h4, h5, h6, h7, h8⟩⟩
  · cases h.1
  · injection h2 with e1 e2 e3
    injection e1 with e1
    injection e1 with e1
    subst e1
    refine ⟨by rw [List.length_map, List.length_set] at *; exact h1, .inr ⟨g, cap, cur.setIfInBounds i (.string s), by rw [List.length_set, e2, e3], h3, ?_, by rw [List.length_set]; exact h5, h6, by rw [Array.size_setIfInBounds]; exact h7, ?_⟩⟩
    · exact heap_setCell_at (i := i) (u := .string s) h4
    · rw [Array.toList_setIfInBounds, List.length_set, List.take_set, h8, List.map_set]
theorem OwX.kkD {α : Type} {f : α → List Value} {s : Nat} {T : TypeId} {w W : World} {B g : Nat} {v : Value} {l : List α} {cs : Array Value} {T' : TypeId} {fr : Nat × Nat} (h : OwX f s T w B v l) (k : KK [g] w W) (hg : w.heap[g]? = some (.cells cs T' fr)) (hT : T ≠ T') : OwX f s T W B v l := by
  rcases h with ⟨h1, h | ⟨b, cap, cur, h2, h3, h4, h5⟩⟩
  · exact ⟨h1, .inl h⟩
  · exact ⟨h1, .inr ⟨b, cap, cur, h2, h3, k.blk h4 (fun e => by
      have e1 : b = g := by simpa using e
      subst e1
      rw [hg] at h4
      cases h4
      exact hT rfl), h5⟩⟩
/-- a disk that is there -/
structure DK (D : Nat) (SS : List ByteArray) (CC : List Wr) (dn : Bool) (ops fu : Int) (w : World) : Prop where
  box : ∃ (sa : Option Addr) (sn sc : Nat) (ca : Option Addr) (cn cc : Nat), w.heap[D]? = some (dkO sa sn sc ca cn cc true dn ops fu) ∧ OwX stC 1 9 w 0 (.slice sa sn sc) SS ∧ OwX wrC 2 91 w 0 (.slice ca cn cc) CC
  at' : ∀ x ∈ CC, 0 ≤ x.1 ∧ x.1 < (SS.length : Int) ∧ x.2.size = 128
theorem DK.kept {D : Nat} {SS : List ByteArray} {CC : List Wr} {dn : Bool} {ops fu : Int} {w w' : World} (h : DK D SS CC dn ops fu w) (hb : Below w.heap.size w w') : DK D SS CC dn ops fu w' := by
  obtain ⟨⟨sa, sn, sc, ca, cn, cc, h1, h2, h3⟩, h4⟩ := h
  exact ⟨⟨sa, sn, sc, ca, cn, cc, blk_below h1 hb, h2.kept hb, h3.kept hb⟩, h4⟩
/-- a block is a disk's own: its box, or that of one of its rows -/
def InD (D : Nat) (w : World) (b : Nat) : Prop := b = D ∨ (∃ o n c, w.cell? ⟨D, 0, none⟩ = some (.slice (some ⟨b, o, none⟩) n c)) ∨ (∃ o n c, w.cell? ⟨D, 1, none⟩ = some (.slice (some ⟨b, o, none⟩) n c))
/-- only a disk's own blocks have turned, and no other old one has become its own -/
structure Kd (D : Nat) (w w' : World) : Prop where
  os : w'.os = w.os
  tape : w'.tape = w.tape
  output : w'.output = w.output
  size : w.heap.size ≤ w'.heap.size
  block : ∀ b, b < w.heap.size → ¬ InD D w b → w'.heap[b]? = w.heap[b]?
  ind : ∀ b, b < w.heap.size → InD D w' b → InD D w b
theorem Kd.refl (D : Nat) (w : World) : Kd D w w := ⟨rfl, rfl, rfl, Nat.le_refl _, fun _ _ _ => rfl, fun _ _ h => h⟩
theorem Kd.trans {D : Nat} {a b c : World} (h : Kd D a b) (k : Kd D b c) : Kd D a c :=
  ⟨k.os.trans h.os, k.tape.trans h.tape, k.output.trans h.output, Nat.le_trans h.size k.size, fun i hi hn => (k.block i (Nat.lt_of_lt_of_le hi h.size) (fun q => hn (h.ind i hi q))).trans (h.block i hi hn), fun i hi q => h.ind i hi (k.ind i (Nat.lt_of_lt_of_le hi h.size) q)⟩
theorem Kd.of_below {D : Nat} {w w' : World} (hb : Below w.heap.size w w') (hD : D < w.heap.size) : Kd D w w' :=
  ⟨hb.os, hb.tape, hb.output, hb.size, fun b hb' _ => hb.block b hb', fun b _ q => by
    rcases q with q | ⟨o, n, c, q⟩ | ⟨o, n, c, q⟩
    · exact .inl q
    · exact .inr (.inl ⟨o, n, c, by rw [← hb.cell (p := ⟨D, 0, none⟩) hD]; exact q⟩)
    · exact .inr (.inr ⟨o, n, c, by rw [← hb.cell (p := ⟨D, 1, none⟩) hD]; exact q⟩)⟩
theorem InD.self (D : Nat) (w : World) : InD D w D := .inl rfl
section
variable {D : Nat} {sa : Option Addr} {sn sc : Nat} {ca : Option Addr} {cn cc : Nat} {mk dn : Bool} {ops fu : Int} {w : World}
theorem InD.safe {g o : Nat} (h : w.heap[D]? = some (dkO (some ⟨g, o, none⟩) sn sc ca cn cc mk dn ops fu)) : InD D w g := .inr (.inl ⟨o, sn, sc, (dk_cells h).1⟩)
theorem InD.cache {g o : Nat} (h : w.heap[D]? = some (dkO sa sn sc (some ⟨g, o, none⟩) cn cc mk dn ops fu)) : InD D w g := .inr (.inr ⟨o, cn, cc, (dk_cells h).2.1⟩)
theorem InD.cases {b : Nat} (h : w.heap[D]? = some (dkO sa sn sc ca cn cc mk dn ops fu)) (q : InD D w b) : b = D ∨ (∃ o, sa = some ⟨b, o, none⟩) ∨ ∃ o, ca = some ⟨b, o, none⟩ := by
  rcases q with q | ⟨o, n, c, q⟩ | ⟨o, n, c, q⟩
  · exact .inl q
  · rw [(dk_cells h).1] at q
    cases q
    exact .inr (.inl ⟨o, rfl⟩)
  · rw [(dk_cells h).2.1] at q
    cases q
    exact .inr (.inr ⟨o, rfl⟩)
theorem Kd.of_box {sa' : Option Addr} {sn' sc' : Nat} {ca' : Option Addr} {cn' cc' : Nat} {mk' dn' : Bool} {ops' fu' : Int} {w' : World} {l : List Nat} (k : KK l w w') (hl : ∀ b ∈ l, InD D w b)
    (h : w.heap[D]? = some (dkO sa sn sc ca cn cc mk dn ops fu)) (h' : w'.heap[D]? = some (dkO sa' sn' sc' ca' cn' cc' mk' dn' ops' fu'))
    (hs : ∀ b o, sa' = some ⟨b, o, none⟩ → InD D w b ∨ w.heap.size ≤ b) (hc : ∀ b o, ca' = some ⟨b, o, none⟩ → InD D w b ∨ w.heap.size ≤ b) : Kd D w w' :=
  ⟨k.os, k.tape, k.output, k.size, fun b hb hn => k.block b hb (fun q => hn (hl b q)), fun b hb q => by
    rcases q.cases h' with q | ⟨o, q⟩ | ⟨o, q⟩
    · subst q; exact .inl rfl
    · rcases hs b o q with r | r
      · exact r
      · omega
    · rcases hc b o q with r | r
      · exact r
      · omega⟩
/-- the box's rows stay -/
theorem Kd.of_same {mk' dn' : Bool} {ops' fu' : Int} {w' : World} (k : KK [D] w w') (h : w.heap[D]? = some (dkO sa sn sc ca cn cc mk dn ops fu)) (h' : w'.heap[D]? = some (dkO sa sn sc ca cn cc mk' dn' ops' fu')) : Kd D w w' :=
  Kd.of_box k (fun b hb => by obtain rfl : b = D := (by simpa using hb); exact .inl rfl) h h' (fun b o e => .inl (by subst e; exact InD.safe h)) (fun b o e => .inl (by subst e; exact InD.cache h))
/-- the cache is gone -/
theorem Kd.of_none {mk' dn' : Bool} {ops' fu' : Int} {w' : World} (k : KK [D] w w') (h : w.heap[D]? = some (dkO sa sn sc ca cn cc mk dn ops fu)) (h' : w'.heap[D]? = some (dkO sa sn sc none 0 0 mk' dn' ops' fu')) : Kd D w w' :=
  Kd.of_box k (fun b hb => by obtain rfl : b = D := (by simpa using hb); exact .inl rfl) h h' (fun b o e => .inl (by subst e; exact InD.safe h)) (fun b o e => by cases e)
end
theorem DK.lt {D : Nat} {SS : List ByteArray} {CC : List Wr} {dn : Bool} {ops fu : Int} {w : World} (h : DK D SS CC dn ops fu w) : D < w.heap.size := by
  obtain ⟨⟨sa, sn, sc, ca, cn, cc, h1, h2, h3⟩, h4⟩ := h
  exact lt_of_block h1
theorem own_lt {α : Type} {f : α → List Value} {s : Nat} {T : TypeId} {w : World} {B g o n c : Nat} {l : List α} (h : OwX f s T w B (.slice (some ⟨g, o, none⟩) n c) l) : g < w.heap.size := by
  rcases h.2 with ⟨e, _⟩ | ⟨g', cap, cur, e, _, h4, _⟩
  · cases e
  · injection e with e _ _
    injection e with e
    injection e with e _ _
    subst e
    exact lt_of_block h4
/-- what is new is none of a disk's own -/
theorem DK.new {D : Nat} {SS : List ByteArray} {CC : List Wr} {dn : Bool} {ops fu : Int} {w : World} (h : DK D SS CC dn ops fu w) {b : Nat} (q : InD D w b) : b < w.heap.size := by
  obtain ⟨⟨sa, sn, sc, ca, cn, cc, h1, h2, h3⟩, h4⟩ := h
  rcases q.cases h1 with q | ⟨o, q⟩ | ⟨o, q⟩
  · subst q; exact lt_of_block h1
  · subst q; exact own_lt h2
  · subst q; exact own_lt h3
/-- a row that reads as a list and is none of a disk's own -/
def RdA {α : Type} (D : Nat) (f : α → List Value) (s : Nat) (w : World) (A : Option Addr) (n : Nat) (l : List α) : Prop := RdX f s w A n l ∧ (0 < n → ∀ b o, A = some ⟨b, o, none⟩ → ¬ InD D w b)
theorem RdA.kd {α : Type} {D : Nat} {f : α → List Value} {s : Nat} {w w' : World} {A : Option Addr} {n : Nat} {l : List α} (h : RdA D f s w A n l) (k : Kd D w w') : RdA D f s w' A n l := by
  obtain ⟨⟨h1, h2⟩, h3⟩ := h
  refine ⟨⟨h1, fun hn => ?_⟩, fun hn b o e q => ?_⟩
  · obtain ⟨b, off, e, hb, hc⟩ := h2 hn
    exact ⟨b, off, e, Nat.lt_of_lt_of_le hb k.size, fun i x j u hx hu => (World.cell?_of_block (k.block b hb (h3 hn b off e))).trans (hc i x j u hx hu)⟩
  · obtain ⟨b', off, e', hb, hc⟩ := h2 hn
    rw [e] at e'
    injection e' with e'
    injection e' with e1 e2 e3
    subst e1
    exact h3 hn b o e (k.ind b hb q)
end Go.Proofs.Ytiagbadnmkeokaa

namespace Go.Proofs.Ytiagbadnmkeokaa
open Go.RowKit Vi

set_option maxRecDepth 100000 in
set_option maxHeartbeats 2000000 in
theorem dsettle_none (D : Nat) (SS : List ByteArray) (CC : List Wr) (dn : Bool) (ops fu : Int) (w : World) (h : DK D SS CC dn ops fu w) :
    Calls Try.prog 53 #[.pointer (some ⟨D, 0, none⟩), .func (.func 54) #[] #[]] w fun e w' => e = .returned (.tuple #[]) ∧ DK D SS [] dn ops fu w' ∧ Kd D w w' := by
  obtain ⟨⟨sa, sn, sc, ca, cn, cc, h1, h2, h3⟩, _⟩ := h
  obtain ⟨A, c, e, hr, hc1, hc2⟩ := h3.rd wrC_len
  injection e with e1 e2 e3
  subst e1 e2 e3
  have H := Lib.hid h1
  have HO := Lib.hid h2
  have HC := Lib.hid hr
  obtain ⟨c0, c1, c2, c3, c4, c5⟩ := dk_cells h1
  have hnm : CC.length ≤ maxLen := Nat.le_trans hc1 hc2
  unfold maxLen at hnm
  clear h1 h2 h3 hr hc1 hc2
  generalize hn : CC.length = n at *
  have HN := Lib.hid hn
  clear hn
  go_enter Try.func53, Try.ntmps53
  go_wp2_with fail
  clear c0 c1 c2 c3 c4 c5
  go_loopw [11] (fun i wr => ∃ k : Nat, i = .int .i64 (k : Int) ∧ k ≤ n ∧ Below w.heap.size w wr) (fun i _ => n - (intOf i).toNat)
  case atStart => exact ⟨0, rfl, Nat.zero_le _, Below.refl _ _⟩
  case round =>
    obtain ⟨k, rfl, hk, hb⟩ := hrel
    have HB := Lib.hid hb
    clear hb
    by_cases hlt : k < n
    · have hd1 : decide ((k : Int) < (n : Int)) = true := decide_eq_true (by omega)
      have hi0 : (0 : Int) ≤ (k : Int) := by omega
      obtain ⟨b, off, hl, rfl, hbb, _⟩ := (HC.out.below HB.out).at hlt
      obtain ⟨x, hx⟩ : ∃ x, x = CC[k] := ⟨_, rfl⟩
      have HX := Lib.hid (show CC[k]? = some x by rw [List.getElem?_eq_getElem hl, hx])
      obtain ⟨at0, s⟩ := x
      have x0 : wr.cell? ⟨b, off + k * 2, none⟩ = some (.int .i64 at0) := (HC.out.below HB.out).cellAt HX.out hlt 0 _ rfl
      have x1 : wr.cell? ⟨b, off + k * 2 + 1, none⟩ = some (.string s) := (HC.out.below HB.out).cellAt HX.out hlt 1 _ rfl
      have HNO := Lib.hid (fun W : World => dnone_any (k : Int) W)
      have HBn := Lib.hid (HB.out.alloc HB.out.size (.cells #[.int .i64 at0, .string s] 91 (0, 0)))
      clear hx
      go_wp2_with fail
      clear x0 x1
      refine (HNO.out _).mono ?_
      rintro e w' ⟨rfl, rfl⟩
      go_wp2_with fail
      go_roundw
      case rel => exact ⟨k + 1, by go_num, by omega, HBn.out⟩
      case measure => simp [intOf] <;> omega
    · have hd1 : decide ((k : Int) < (n : Int)) = false := decide_eq_false (by omega)
      have HD := Lib.hid (blk_below H.out HB.out)
      have HO1 := Lib.hid (HO.out.kept HB.out)
      have f1 : wr.frozen? ⟨D, 1, none⟩ = false := frozen_of_row _ _ _ _ _ HD.out
      have y1 : wr.cell? ⟨D, 1, none⟩ = some (.slice ca n cc) := (dk_cells HD.out).2.1
      go_wp2_with fail
      have HK := Lib.hid ((KK.refl [D] wr).set (b := D) (by simp) 1 (.slice none 0 0))
      have HR := Lib.hid (show (wr.setCell ⟨D, 1, none⟩ (.slice none 0 0)).heap[D]? = some (dkO sa sn sc none 0 0 true dn ops fu) from heap_setCell_at (i := 1) (u := .slice none 0 0) HD.out)
      have HO2 := Lib.hid (HO1.out.kkD HK.out HD.out (by decide))
      refine bodyPost_end (results_none rfl _ _ _) rfl ?_
      exact ⟨rfl, ⟨⟨sa, sn, sc, none, 0, 0, HR.out, HO2.out, OwX.nil _⟩, fun x hx => by cases hx⟩, Kd.of_none ((KK.of_below HB.out).trans HK.out) H.out HR.out⟩
set_option maxRecDepth 100000 in
theorem dboot_any (D : Nat) (SS : List ByteArray) (CC : List Wr) (dn : Bool) (ops fu : Int) (w : World) (h : DK D SS CC dn ops fu w) :
    Calls Try.prog 18 #[.pointer (some ⟨D, 0, none⟩)] w fun e w' => e = .returned (.int .i64 0) ∧ DK D SS [] false ops 0 w' ∧ Kd D w w' := by
  have HM := Lib.hid (show Calls Try.prog 43 #[.pointer (some ⟨D, 0, none⟩)] w fun e w' => e = .returned (.bool true) ∧ w = w' by
    obtain ⟨⟨sa, sn, sc, ca, cn, cc, h1, h2, h3⟩, _⟩ := h
    exact dmade_any D sa sn sc ca cn cc true dn ops fu w h1)
  have HS := Lib.hid (dsettle_none D SS CC dn ops fu w h)
  clear h
  go_enter Try.func18, Try.ntmps18
  go_wp2_with fail
  refine HM.out.mono ?_
  rintro e w' ⟨rfl, rfl⟩
  go_wp2_with fail
  refine HS.out.mono ?_
  rintro e w1 ⟨rfl, hd, hk⟩
  have HK := Lib.hid hk
  obtain ⟨⟨sa, sn, sc, ca, cn, cc, h1, h2, h3⟩, h4⟩ := hd
  have HT := Lib.hid (dturn_any D sa sn sc ca cn cc true dn ops fu false w1 h1)
  have H1 := Lib.hid h1
  have H2 := Lib.hid h2
  have H3 := Lib.hid h3
  clear hk h1 h2 h3 h4
  go_wp2_with fail
  refine HT.out.mono ?_
  rintro e w2 ⟨rfl, hb, hk⟩
  have HB := Lib.hid hb
  have HK2 := Lib.hid hk
  have HO2 := Lib.hid (H2.out.kkD hk H1.out (by decide))
  have HO3 := Lib.hid (H3.out.kkD hk H1.out (by decide))
  clear hb hk
  go_wp2_with fail
  go_ret
  exact ⟨rfl, ⟨⟨sa, sn, sc, ca, cn, cc, HB.out, HO2.out, HO3.out⟩, fun x hx => by cases hx⟩, HK.out.trans (Kd.of_same HK2.out H1.out HB.out)⟩
end Go.Proofs.Ytiagbadnmkeokaa

namespace Go.Proofs.Ytiagbadnmkeokaa
open Go.RowKit Vi

theorem DK.made {D : Nat} {SS : List ByteArray} {CC : List Wr} {dn : Bool} {ops fu : Int} {w : World} (h : DK D SS CC dn ops fu w) : Calls Try.prog 43 #[.pointer (some ⟨D, 0, none⟩)] w fun e w' => e = .returned (.bool true) ∧ w = w' := by
  obtain ⟨⟨sa, sn, sc, ca, cn, cc, h1, h2, h3⟩, _⟩ := h
  exact dmade_any D sa sn sc ca cn cc true dn ops fu w h1
theorem DK.readyIs {D : Nat} {SS : List ByteArray} {CC : List Wr} {dn : Bool} {ops fu : Int} {w : World} (h : DK D SS CC dn ops fu w) : Calls Try.prog 56 #[.pointer (some ⟨D, 0, none⟩)] w fun e w' => e = .returned (.int .i64 (if dn = true then 7 else 0)) ∧ w = w' := by
  obtain ⟨⟨sa, sn, sc, ca, cn, cc, h1, h2, h3⟩, _⟩ := h
  exact dready_any D sa sn sc ca cn cc dn ops fu w h1
theorem DK.checkIs {D : Nat} {SS : List ByteArray} {CC : List Wr} {dn : Bool} {ops fu : Int} {w : World} (h : DK D SS CC dn ops fu w) (i : Int) (s : ByteArray) : Calls Try.prog 60 #[.pointer (some ⟨D, 0, none⟩), .int .i64 i, .string s] w fun e w' => e = .returned (.int .i64 (dckE SS.length i s)) ∧ w = w' := by
  obtain ⟨⟨sa, sn, sc, ca, cn, cc, h1, h2, h3⟩, _⟩ := h
  have hl : sn = SS.length := by
    obtain ⟨A, c, e, _, _, _⟩ := h2.rd stC_len
    injection e
  rw [← hl]
  exact dcheck_any D sa sn sc i s w (dk_cells h1).1
def armE (dn : Bool) (n : Int) : Int := if dn = true then 7 else if n < 0 then 2 else 0
/-- what is armed then -/
def armF (dn : Bool) (n fu : Int) : Int := if armE dn n = 0 then n else fu
set_option maxRecDepth 100000 in
theorem darm_any (D : Nat) (SS : List ByteArray) (CC : List Wr) (dn : Bool) (ops fu : Int) (n : Int) (w : World) (h : DK D SS CC dn ops fu w) :
    Calls Try.prog 25 #[.pointer (some ⟨D, 0, none⟩), .int .i64 n] w fun e w' => e = .returned (.int .i64 (armE dn n)) ∧ DK D SS CC dn ops (armF dn n fu) w' ∧ Kd D w w' := by
  have HR := Lib.hid h.readyIs
  cases dn with
  | true =>
    have H := Lib.hid h
    have HZ := Lib.hid (show armE true n = 7 from rfl)
    clear h
    go_enter Try.func25, Try.ntmps25
    go_wp2_with fail
    refine HR.out.mono ?_
    rintro e w' ⟨rfl, rfl⟩
    go_wp2_with fail
    go_ret
    exact ⟨dk_retI HZ.out.symm, by unfold armF; rw [HZ.out]; exact H.out, Kd.refl _ _⟩
  | false =>
    by_cases hn : n < 0
    · have d1 : decide (n < 0) = true := decide_eq_true hn
      have H := Lib.hid h
      have HZ := Lib.hid (show armE false n = 2 by unfold armE; rw [if_neg (by simp), if_pos hn])
      clear h hn
      go_enter Try.func25, Try.ntmps25
      go_wp2_with fail
      refine HR.out.mono ?_
      rintro e w' ⟨rfl, rfl⟩
      go_wp2_with fail
      go_ret
      exact ⟨dk_retI HZ.out.symm, by unfold armF; rw [HZ.out]; exact H.out, Kd.refl _ _⟩
    · have d1 : decide (n < 0) = false := decide_eq_false hn
      have HZ := Lib.hid (show armE false n = 0 by unfold armE; rw [if_neg (by simp), if_neg hn])
      obtain ⟨⟨sa, sn, sc, ca, cn, cc, h1, h2, h3⟩, h4⟩ := h
      have H1 := Lib.hid h1
      have H2 := Lib.hid h2
      have H3 := Lib.hid h3
      have H4 := Lib.hid h4
      have f5 : w.frozen? ⟨D, 5, none⟩ = false := frozen_of_row _ _ _ _ _ h1
      have c5 : w.cell? ⟨D, 5, none⟩ = some (.int .i64 fu) := (dk_cells h1).2.2.2.2.2
      clear h1 h2 h3 h4 hn
      go_enter Try.func25, Try.ntmps25
      go_wp2_with fail
      refine HR.out.mono ?_
      rintro e w' ⟨rfl, rfl⟩
      go_wp2_with fail
      have HK := Lib.hid ((KK.refl [D] w).set (b := D) (by simp) 5 (.int .i64 n))
      have HB := Lib.hid (show (w.setCell ⟨D, 5, none⟩ (.int .i64 n)).heap[D]? = some (dkO sa sn sc ca cn cc true false ops n) from heap_setCell_at (i := 5) (u := .int .i64 n) H1.out)
      have HO2 := Lib.hid (H2.out.kkD HK.out H1.out (by decide))
      have HO3 := Lib.hid (H3.out.kkD HK.out H1.out (by decide))
      go_ret
      exact ⟨dk_retI HZ.out.symm, by unfold armF; rw [HZ.out]; exact ⟨⟨sa, sn, sc, ca, cn, cc, HB.out, HO2.out, HO3.out⟩, H4.out⟩, Kd.of_same HK.out H1.out HB.out⟩
end Go.Proofs.Ytiagbadnmkeokaa

namespace Go.Proofs.Ytiagbadnmkeokaa
open Go.RowKit Vi

/-- the sectors that are safe, one written over -/
def overS (SS : List ByteArray) (i : Int) (s : ByteArray) : List ByteArray := if dckE SS.length i s = 0 then SS.set i.toNat s else SS
set_option maxRecDepth 100000 in
set_option maxHeartbeats 1000000 in
theorem dover_any (D : Nat) (SS : List ByteArray) (CC : List Wr) (dn : Bool) (ops fu : Int) (i : Int) (s : ByteArray) (w : World) (h : DK D SS CC dn ops fu w) :
    Calls Try.prog 26 #[.pointer (some ⟨D, 0, none⟩), .int .i64 i, .string s] w fun e w' => e = .returned (.int .i64 (dckE SS.length i s)) ∧ DK D (overS SS i s) CC dn ops fu w' ∧ Kd D w w' := by
  have HM := Lib.hid h.made
  have HC := Lib.hid (h.checkIs i s)
  obtain ⟨z, hz⟩ : ∃ z, z = dckE SS.length i s := ⟨_, rfl⟩
  rw [← hz] at HC
  by_cases hz0 : z = 0
  rotate_left
  · have hzn : (z != 0) = true := by simpa using hz0
    have H := Lib.hid h
    have HS := Lib.hid (show overS SS i s = SS by unfold overS; rw [if_neg (by rw [← hz]; exact hz0)])
    have HZ := Lib.hid hz
    clear h hz hz0
    go_enter Try.func26, Try.ntmps26
    go_wp2_with fail
    refine HM.out.mono ?_
    rintro e w' ⟨rfl, rfl⟩
    go_wp2_with fail
    refine HC.out.mono ?_
    rintro e w' ⟨rfl, rfl⟩
    go_wp2_with fail
    go_ret
    exact ⟨dk_retI HZ.out, by rw [HS.out]; exact H.out, Kd.refl _ _⟩
  · subst hz0
    have hq : (0 ≤ i ∧ i < (SS.length : Int)) ∧ s.size = 128 := by
      unfold dckE at hz
      split at hz
      · next q =>
        split at hz
        · next q2 => exact ⟨q, q2⟩
        · cases hz
      · cases hz
    obtain ⟨⟨hi0, hi1⟩, _⟩ := hq
    have HS := Lib.hid (show overS SS i s = SS.set i.toNat s by unfold overS; rw [if_pos hz.symm])
    have HZ := Lib.hid hz
    clear hz
    obtain ⟨k, rfl⟩ : ∃ k : Nat, i = (k : Int) := ⟨i.toNat, by omega⟩
    have hkl : k < SS.length := by omega
    obtain ⟨⟨sa, sn, sc, ca, cn, cc, h1, h2, h3⟩, h4⟩ := h
    have h2' := h2
    rcases h2' with ⟨_, ⟨_, h0⟩ | ⟨g, cap, cur, e, hg, hheap, _⟩⟩
    · omega
    injection e with e1 e2 e3
    subst e1 e2 e3
    obtain ⟨A, c, e, hr, _, _⟩ := h2.rd stC_len
    injection e with e1 e2 e3
    subst e1
    have hck : w.cell? ⟨g, k, none⟩ = some (.string SS[k]) := by
      obtain ⟨b, off, hb, _, hc⟩ := hr.2 (by omega)
      injection hb with hb
      injection hb with hb1 hb2
      subst hb1 hb2
      have q := hc k SS[k] 0 (.string SS[k]) (List.getElem?_eq_getElem hkl) rfl
      rw [Nat.zero_add, Nat.mul_one, Nat.add_zero] at q
      exact q
    have hfk : w.frozen? ⟨g, k, none⟩ = false := frozen_of_row _ _ _ _ _ hheap
    have H1 := Lib.hid h1
    have H2 := Lib.hid (h2.setS (i := k) s)
    have H3 := Lib.hid h3
    have H4 := Lib.hid h4
    have HG := Lib.hid hheap
    have hgb := Lib.hid hg
    have c0 : w.cell? ⟨D, 0, none⟩ = some (.slice (some ⟨g, 0, none⟩) SS.length sc) := (dk_cells h1).1
    have hne : D ≠ g := fun e => by subst e; rw [h1] at hheap; cases hheap
    have HK := Lib.hid ((KK.refl [g] w).set (b := g) (by simp) k (.string s))
    obtain ⟨o, ho⟩ : ∃ o, o = SS[k] := ⟨_, rfl⟩
    rw [← ho] at hck
    clear h1 h2 h3 h4 hr hheap hg e3 ho
    go_enter Try.func26, Try.ntmps26
    go_wp2_with fail
    refine HM.out.mono ?_
    rintro e w' ⟨rfl, rfl⟩
    go_wp2_with fail
    refine HC.out.mono ?_
    rintro e w' ⟨rfl, rfl⟩
    go_wp2_with fail
    have HB := Lib.hid (HK.out.blk H1.out (by simpa using hne))
    have HO3 := Lib.hid (H3.out.kkD HK.out HG.out (by decide))
    have HBl := Lib.hid (Kd.of_box HK.out (fun b hb => by obtain rfl : b = g := (by simpa using hb); exact InD.safe H1.out) H1.out HB.out (fun b o e => by cases e; exact .inl (InD.safe H1.out)) (fun b o e => by subst e; exact .inl (InD.cache H1.out)))
    go_ret
    exact ⟨dk_retI HZ.out, by rw [HS.out]; exact ⟨⟨_, _, _, ca, cn, cc, HB.out, by simpa using H2.out, HO3.out⟩, by rw [List.length_set]; exact H4.out⟩, HBl.out⟩
end Go.Proofs.Ytiagbadnmkeokaa

namespace Go.Proofs.Ytiagbadnmkeokaa
open Go.RowKit Vi

/-- the sectors when writes are safe -/
def safeW (SS : List ByteArray) (CC : List Wr) : List ByteArray := CC.foldl (fun S x => S.set x.1.toNat x.2) SS
theorem safeW_len : ∀ (CC : List Wr) (SS : List ByteArray), (safeW SS CC).length = SS.length
  | [], _ => rfl
  | x :: r, SS => by
    show (safeW (SS.set x.1.toNat x.2) r).length = _
    rw [safeW_len r, List.length_set]
theorem safeW_snoc (SS : List ByteArray) (CC : List Wr) (x : Wr) : safeW SS (CC ++ [x]) = (safeW SS CC).set x.1.toNat x.2 := by unfold safeW; rw [List.foldl_append]; rfl
set_option maxRecDepth 100000 in
set_option maxHeartbeats 4000000 in
theorem dsettle_all (D : Nat) (SS : List ByteArray) (CC : List Wr) (dn : Bool) (ops fu : Int) (w : World) (h : DK D SS CC dn ops fu w) :
    Calls Try.prog 53 #[.pointer (some ⟨D, 0, none⟩), .func (.func 59) #[] #[]] w fun e w' => e = .returned (.tuple #[]) ∧ DK D (safeW SS CC) [] dn ops fu w' ∧ Kd D w w' := by
  obtain ⟨⟨sa, sn, sc, ca, cn, cc, h1, h2, h3⟩, h4⟩ := h
  have hsn : sn = SS.length := by
    obtain ⟨A, c, e, _, _, _⟩ := h2.rd stC_len
    injection e
  obtain ⟨A, c, e, hr, hc1, hc2⟩ := h3.rd wrC_len
  injection e with e1 e2 e3
  subst e1 e2 e3
  have H1 := Lib.hid h1
  have HO := Lib.hid h2
  have HC := Lib.hid h3
  have H4 := Lib.hid h4
  have HSN := Lib.hid hsn
  obtain ⟨c0, c1, c2, c3, c4, c5⟩ := dk_cells h1
  have hnm : CC.length ≤ maxLen := Nat.le_trans hc1 hc2
  unfold maxLen at hnm
  clear h1 h2 h3 h4 hr hc1 hc2 hsn
  go_enter Try.func53, Try.ntmps53
  go_wp2_with fail
  clear c0 c1 c2 c3 c4 c5
  go_loopw [11] (fun i wr => ∃ k : Nat, i = .int .i64 (k : Int) ∧ k ≤ CC.length ∧ wr.heap[D]? = some (dkO sa sn sc ca CC.length cc true dn ops fu) ∧ OwX stC 1 9 wr 0 (.slice sa sn sc) (safeW SS (CC.take k)) ∧ OwX wrC 2 91 wr 0 (.slice ca CC.length cc) CC ∧ Kd D w wr) (fun i _ => CC.length - (intOf i).toNat)
  case atStart => exact ⟨0, rfl, Nat.zero_le _, H1.out, HO.out, HC.out, Kd.refl _ _⟩
  case round =>
    obtain ⟨k, rfl, hk, hd, ho, hc, hb⟩ := hrel
    have HD := Lib.hid hd
    have HS := Lib.hid ho
    have HW := Lib.hid hc
    have HB := Lib.hid hb
    have hDl := lt_of_block hd
    obtain ⟨A, c, e, hr, _, _⟩ := hc.rd wrC_len
    injection e with e1 e2 e3
    subst e1
    have HR := Lib.hid hr
    clear hd ho hc hb hr e3
    by_cases hlt : k < CC.length
    · have hd1 : decide ((k : Int) < (CC.length : Int)) = true := decide_eq_true (by omega)
      have hi0 : (0 : Int) ≤ (k : Int) := by omega
      obtain ⟨b, off, hl, hA, hbb, _⟩ := HR.out.at hlt
      obtain ⟨x, hx⟩ : ∃ x, x = CC[k] := ⟨_, rfl⟩
      have HX := Lib.hid (show CC[k]? = some x by rw [List.getElem?_eq_getElem hl, hx])
      have HT := Lib.hid (show safeW SS (CC.take (k + 1)) = (safeW SS (CC.take k)).set x.1.toNat x.2 by rw [List.take_succ_eq_append_getElem hl, ← hx, safeW_snoc])
      obtain ⟨q1, q2, _⟩ := H4.out x (by rw [hx]; exact List.getElem_mem hl)
      obtain ⟨at0, s⟩ := x
      have q1 : 0 ≤ at0 := q1
      have q2 : at0 < (SS.length : Int) := q2
      obtain ⟨j, rfl⟩ : ∃ j : Nat, at0 = (j : Int) := ⟨at0.toNat, by omega⟩
      have hj : j < (safeW SS (CC.take k)).length := by rw [safeW_len]; omega
      have hj0 : (0 : Int) ≤ (j : Int) := by omega
      have hj1 : (j : Int) < (sn : Int) := by rw [HSN.out]; omega
      obtain ⟨T, hT⟩ : ∃ T, T = safeW SS (CC.take k) := ⟨_, rfl⟩
      rw [← hT] at HT HS hj
      have x0 : wr.cell? ⟨b, off + k * 2, none⟩ = some (.int .i64 (j : Int)) := by subst hA; exact HR.out.cellAt HX.out hlt 0 _ rfl
      have x1 : wr.cell? ⟨b, off + k * 2 + 1, none⟩ = some (.string s) := by subst hA; exact HR.out.cellAt HX.out hlt 1 _ rfl
      clear hx hT q1 q2
      obtain rfl := hA
      have hrow := HS.out
      rcases hrow with ⟨_, ⟨_, h0⟩ | ⟨g, cap, cur, e, hg, hheap, _⟩⟩
      · omega
      injection e with e1 e2 e3
      subst e1 e3
      have hne : ¬ D = g := fun e => by
        have q := HD.out
        rw [e, hheap] at q
        cases q
      have hgl := lt_of_block hheap
      obtain ⟨A2, c2, e, hr2, _, _⟩ := HS.out.rd stC_len
      injection e with e1 e2 e3
      subst e1
      have hck : wr.cell? ⟨g, j, none⟩ = some (.string T[j]) := by
        obtain ⟨b2, off2, hb2, _, hc2⟩ := hr2.2 (by omega)
        injection hb2 with hb2
        injection hb2 with hb3 hb4
        subst hb3 hb4
        have q := hc2 j T[j] 0 (.string T[j]) (List.getElem?_eq_getElem hj) rfl
        rw [Nat.zero_add, Nat.mul_one, Nat.add_zero] at q
        exact q
      obtain ⟨o, ho⟩ : ∃ o, o = T[j] := ⟨_, rfl⟩
      rw [← ho] at hck
      have HG := Lib.hid (blk_alloc hheap (.cells #[.int .i64 (j : Int), .string s] 91 (0, 0)))
      have HGB := Lib.hid hg
      have HBn := Lib.hid ((Below.refl wr.heap.size wr).alloc (Nat.le_refl _) (.cells #[.int .i64 (j : Int), .string s] 91 (0, 0)))
      have HDn := Lib.hid (blk_below HD.out HBn.out)
      have HXn := Lib.hid (blk_new wr (.cells #[.int .i64 (j : Int), .string s] 91 (0, 0)))
      have HSn := Lib.hid (HS.out.kept HBn.out)
      have HWn := Lib.hid (HW.out.kept HBn.out)
      have HB1 := Lib.hid (HB.out.trans (Kd.of_below HBn.out hDl))
      have hcn : (wr.alloc (.cells #[.int .i64 (j : Int), .string s] 91 (0, 0))).cell? ⟨g, j, none⟩ = some (.string o) := by rw [HBn.out.cell (p := ⟨g, j, none⟩) hgl]; exact hck
      have HAL := Lib.hid (fun W : World => dall_any (k : Int) W)
      have hbs := HB.out.size
      clear hr2 hheap hg ho e2 e3 hck
      go_wp2_with fail
      clear x0 x1
      refine (HAL.out _).mono ?_
      rintro e w' ⟨rfl, rfl⟩
      go_upto_region 4 with (fail)
      obtain ⟨v, hv⟩ : ∃ v, v = wr.alloc (.cells #[.int .i64 (j : Int), .string s] 91 (0, 0)) := ⟨_, rfl⟩
      rw [← hv] at HG HDn HXn HSn HWn HB1 hcn
      try rw [← hv]
      clear hv HBn
      have hvs : wr.heap.size < v.heap.size := lt_of_block HXn.out
      have hnw : ¬ wr.heap.size = g := by omega
      have y0 : v.drew.cell? ⟨D, 0, none⟩ = some (.slice (some ⟨g, 0, none⟩) sn sc) := (dk_cells (show v.drew.heap[D]? = _ from HDn.out)).1
      have y1 : v.drew.cell? ⟨wr.heap.size, 0, none⟩ = some (.int .i64 (j : Int)) := (cell_of_row _ _ _ _ _ _ (show v.drew.heap[wr.heap.size]? = _ from HXn.out)).trans rfl
      have y2 : v.drew.cell? ⟨wr.heap.size, 1, none⟩ = some (.string s) := (cell_of_row _ _ _ _ _ _ (show v.drew.heap[wr.heap.size]? = _ from HXn.out)).trans rfl
      have y3 : v.drew.cell? ⟨g, j, none⟩ = some (.string o) := hcn
      have f3 : v.drew.frozen? ⟨g, j, none⟩ = false := frozen_of_row _ _ _ _ _ (show v.drew.heap[g]? = _ from HG.out)
      have HK := Lib.hid ((KK.refl [g] v.drew).set (b := g) (by simp) j (.string s))
      have HD9 := Lib.hid (HK.out.blk (show v.drew.heap[D]? = _ from HDn.out) (by simpa using hne))
      have HX9 := Lib.hid (HK.out.blk (show v.drew.heap[wr.heap.size]? = _ from HXn.out) (by simpa using hnw))
      have z0 := (dk_cells HD9.out).1
      have z1 := (cell_of_row _ _ 0 _ _ _ HX9.out).trans rfl
      have z2 := (cell_of_row _ _ 1 _ _ _ HX9.out).trans rfl
      go_region_held3 (fun w9 => w9.cell? ⟨D, 0, none⟩ = some (.slice (some ⟨g, 0, none⟩) sn sc) ∧ w9.cell? ⟨wr.heap.size, 0, none⟩ = some (.int .i64 (j : Int)) ∧ w9.cell? ⟨wr.heap.size, 1, none⟩ = some (.string s))
        (first | exact ⟨y0, y1, y2⟩ | exact ⟨z0, z1, z2⟩ | go_keep) (fail)
      all_goals
        have HS9 := Lib.hid (HSn.out.drew.setS (i := j) s)
        have HW9 := Lib.hid (HWn.out.drew.kkD HK.out (show v.drew.heap[g]? = _ from HG.out) (by decide))
        have HB9 := Lib.hid (HB1.out.trans (Kd.of_box (show KK [g] v _ from HK.out.drewl) (fun b hb => by obtain rfl : b = g := (by simpa using hb); exact InD.safe HDn.out) HDn.out HD9.out (fun b o e => by cases e; exact .inl (InD.safe HDn.out)) (fun b o e => by cases e; exact .inl (InD.cache HDn.out))))
        clear y0 y1 y2 y3 z0 z1 z2 f3
        go_wp2_with fail
        go_roundw
        case rel => exact ⟨k + 1, by go_num, by omega, HD9.out, by rw [HT.out]; exact HS9.out, HW9.out, HB9.out⟩
        case measure => simp [intOf] <;> omega
    · have hd1 : decide ((k : Int) < (CC.length : Int)) = false := decide_eq_false (by omega)
      have HE := Lib.hid (show CC.take k = CC from List.take_of_length_le (by omega))
      have f1 : wr.frozen? ⟨D, 1, none⟩ = false := frozen_of_row _ _ _ _ _ HD.out
      have y1 : wr.cell? ⟨D, 1, none⟩ = some (.slice ca CC.length cc) := (dk_cells HD.out).2.1
      go_wp2_with fail
      have HK := Lib.hid ((KK.refl [D] wr).set (b := D) (by simp) 1 (.slice none 0 0))
      have HR9 := Lib.hid (show (wr.setCell ⟨D, 1, none⟩ (.slice none 0 0)).heap[D]? = some (dkO sa sn sc none 0 0 true dn ops fu) from heap_setCell_at (i := 1) (u := .slice none 0 0) HD.out)
      have HO2 := Lib.hid (HS.out.kkD HK.out HD.out (by decide))
      have HB9 := Lib.hid (HB.out.trans (Kd.of_none HK.out HD.out HR9.out))
      refine bodyPost_end (results_none rfl _ _ _) rfl ?_
      exact ⟨rfl, ⟨⟨sa, sn, sc, none, 0, 0, HR9.out, by rw [← HE.out]; exact HO2.out, OwX.nil _⟩, fun x hx => by cases hx⟩, HB9.out⟩
end Go.Proofs.Ytiagbadnmkeokaa

namespace Go.Proofs.Ytiagbadnmkeokaa
open Go.RowKit Vi

set_option maxRecDepth 100000 in
theorem dflush1 (X D : Nat) (SS : List ByteArray) (CC : List Wr) (dn : Bool) (ops fu : Int) (w : World) (h : DK D SS CC dn ops fu w) (hx : w.heap[X]? = some (.cells #[.pointer (some ⟨D, 0, none⟩)] 25 (0, 0))) :
    Calls Try.prog 58 #[.pointer (some ⟨X, 0, none⟩)] w fun e w' => e = .returned (.tuple #[]) ∧ DK D (safeW SS CC) [] dn ops fu w' ∧ Kd D w w' := by
  have HS := Lib.hid (dsettle_all D SS CC dn ops fu w h)
  have x0 : w.cell? ⟨X, 0, none⟩ = some (.pointer (some ⟨D, 0, none⟩)) := (cell_of_row _ _ _ _ _ _ hx).trans rfl
  clear h hx
  go_enter Try.func58, Try.ntmps58
  go_wp2_with fail
  refine HS.out.mono ?_
  rintro e w1 ⟨rfl, hd, hb⟩
  have HD := Lib.hid hd
  have HB := Lib.hid hb
  clear hd hb x0
  go_wp2_with fail
  refine bodyPost_end (results_none rfl _ _ _) rfl ?_
  exact ⟨rfl, HD.out, HB.out⟩
/-- why a step isn't done -/
def stpE (fu : Int) : Int := if fu = 1 then 7 else 0
def stpD (fu : Int) : Bool := decide (fu = 1)
def stpO (ops fu : Int) : Int := if fu = 1 then ops else ops + 1
def stpS (fu : Int) (SS : List ByteArray) (CC : List Wr) : List ByteArray := if fu = 1 then SS else safeW SS CC
def stpC (fu : Int) (CC : List Wr) : List Wr := if fu = 1 then CC else []
def stpF (fu : Int) : Int := if fu = 1 then 0 else max (fu - 1) 0
set_option maxRecDepth 100000 in
set_option maxHeartbeats 2000000 in
theorem dstep_flush (X D : Nat) (SS : List ByteArray) (CC : List Wr) (ops fu : Int) (w : World) (h : DK D SS CC false ops fu w) (hx : w.heap[X]? = some (.cells #[.pointer (some ⟨D, 0, none⟩)] 25 (0, 0))) (ho : -1000000000 ≤ ops ∧ ops ≤ 1000000000) (hf : 0 ≤ fu ∧ fu ≤ 9223372036854775807) :
    Calls Try.prog 57 #[.pointer (some ⟨D, 0, none⟩), .func (.func 58) #[] #[.pointer (some ⟨X, 0, none⟩)]] w fun e w' => e = .returned (.int .i64 (stpE fu)) ∧ DK D (stpS fu SS CC) (stpC fu CC) (stpD fu) (stpO ops fu) (stpF fu) w' ∧ Kd D w w' := by
  obtain ⟨⟨sa, sn, sc, ca, cn, cc, h1, h2, h3⟩, h4⟩ := h
  have hne : X ≠ D := fun e => by subst e; rw [h1] at hx; cases hx
  have H1 := Lib.hid h1
  have H2 := Lib.hid h2
  have H3 := Lib.hid h3
  have H4 := Lib.hid h4
  obtain ⟨c0, c1, c2, c3, c4, c5⟩ := dk_cells h1
  by_cases hq : fu = 1
  · subst hq
    have HT := Lib.hid (dturn_any D sa sn sc ca cn cc true false ops 1 true w h1)
    clear h1 h2 h3 h4 hx
    go_enter Try.func57, Try.ntmps57
    go_wp2_with fail
    clear c0 c1 c2 c3 c4 c5
    refine HT.out.mono ?_
    rintro e w1 ⟨rfl, hb, hk⟩
    have HB := Lib.hid hb
    have HK := Lib.hid hk
    clear hb hk
    have HO2 := Lib.hid (H2.out.kkD HK.out H1.out (by decide))
    have HO3 := Lib.hid (H3.out.kkD HK.out H1.out (by decide))
    have HBl := Lib.hid (Kd.of_same HK.out H1.out HB.out)
    go_wp2_with fail
    go_ret
    exact ⟨rfl, ⟨⟨sa, sn, sc, ca, cn, cc, HB.out, HO2.out, HO3.out⟩, H4.out⟩, HBl.out⟩
  · have d1 : (fu == 1) = false := by rw [beq_eq_false_iff_ne]; exact hq
    have w1 : IntKind.i64.wrap (fu - 1) = fu - 1 := IntWalk.i64_in _ (by omega)
    have w2 : IntKind.i64.wrap (ops + 1) = ops + 1 := IntWalk.i64_in _ (by omega)
    have f4 : w.frozen? ⟨D, 4, none⟩ = false := frozen_of_row _ _ _ _ _ h1
    have f5 : w.frozen? ⟨D, 5, none⟩ = false := frozen_of_row _ _ _ _ _ h1
    have HQ := Lib.hid hq
    have HX := Lib.hid hx
    clear h1 h2 h3 h4 hx hq
    go_enter Try.func57, Try.ntmps57
    go_wp2_with fail
    have HK := Lib.hid (((KK.refl [D] w).set (b := D) (by simp) 5 (.int .i64 (max (fu - 1) 0))).set (b := D) (by simp) 4 (.int .i64 (ops + 1)))
    have HB := Lib.hid (show ((w.setCell ⟨D, 5, none⟩ (.int .i64 (max (fu - 1) 0))).setCell ⟨D, 4, none⟩ (.int .i64 (ops + 1))).heap[D]? = some (dkO sa sn sc ca cn cc true false (ops + 1) (max (fu - 1) 0)) by have q := heap_setCell_at (i := 4) (u := .int .i64 (ops + 1)) (heap_setCell_at (i := 5) (u := .int .i64 (max (fu - 1) 0)) H1.out); exact q)
    have HX2 := Lib.hid (HK.out.blk HX.out (by simpa using hne))
    have HO2 := Lib.hid (H2.out.kkD HK.out H1.out (by decide))
    have HO3 := Lib.hid (H3.out.kkD HK.out H1.out (by decide))
    have HBl := Lib.hid (Kd.of_same HK.out H1.out HB.out)
    clear c0 c1 c2 c3 c4 c5 f4 f5 w1 w2 d1
    generalize ((w.setCell ⟨D, 5, none⟩ (.int .i64 (max (fu - 1) 0))).setCell ⟨D, 4, none⟩ (.int .i64 (ops + 1))) = v at *
    have HF := Lib.hid (dflush1 X D SS CC false (ops + 1) (max (fu - 1) 0) v ⟨⟨sa, sn, sc, ca, cn, cc, HB.out, HO2.out, HO3.out⟩, H4.out⟩ HX2.out)
    refine HF.out.mono ?_
    rintro e w1 ⟨rfl, hd, hb⟩
    have HD := Lib.hid hd
    have HB2 := Lib.hid (HBl.out.trans hb)
    clear hd hb
    go_wp2_with fail
    go_ret
    exact ⟨dk_retI (by unfold stpE; rw [if_neg HQ.out]), by unfold stpS stpC stpD stpO stpF; rw [if_neg HQ.out, if_neg HQ.out, if_neg HQ.out, if_neg HQ.out, decide_eq_false HQ.out]; exact HD.out, HB2.out⟩
end Go.Proofs.Ytiagbadnmkeokaa

namespace Go.Proofs.Ytiagbadnmkeokaa
open Go.RowKit Vi

set_option maxRecDepth 100000 in
theorem dflush_down (D : Nat) (SS : List ByteArray) (CC : List Wr) (ops fu : Int) (w : World) (h : DK D SS CC true ops fu w) :
    Calls Try.prog 19 #[.pointer (some ⟨D, 0, none⟩)] w fun e w' => e = .returned (.int .i64 7) ∧ DK D SS CC true ops fu w' ∧ Kd D w w' := by
  have HBn := Lib.hid ((Below.refl w.heap.size w).alloc (Nat.le_refl _) (.cells #[.pointer (some ⟨D, 0, none⟩)] 25 (0, 0)))
  have HL := Lib.hid h.lt
  have HD := Lib.hid (h.kept HBn.out)
  have HR := Lib.hid HD.out.readyIs
  have HX := Lib.hid (blk_new w (.cells #[.pointer (some ⟨D, 0, none⟩)] 25 (0, 0)))
  have x0 : (w.alloc (.cells #[.pointer (some ⟨D, 0, none⟩)] 25 (0, 0))).cell? ⟨w.heap.size, 0, none⟩ = some (.pointer (some ⟨D, 0, none⟩)) := (cell_of_row _ _ _ _ _ _ HX.out).trans rfl
  clear h
  go_enter Try.func19, Try.ntmps19
  go_wp2_with fail
  clear x0
  refine HR.out.mono ?_
  rintro e w' ⟨rfl, rfl⟩
  go_wp2_with fail
  go_ret
  exact ⟨rfl, HD.out, Kd.of_below HBn.out HL.out⟩
set_option maxRecDepth 100000 in
theorem dflush_up (D : Nat) (SS : List ByteArray) (CC : List Wr) (ops fu : Int) (w : World) (h : DK D SS CC false ops fu w) (ho : -1000000000 ≤ ops ∧ ops ≤ 1000000000) (hf : 0 ≤ fu ∧ fu ≤ 9223372036854775807) :
    Calls Try.prog 19 #[.pointer (some ⟨D, 0, none⟩)] w fun e w' => e = .returned (.int .i64 (stpE fu)) ∧ DK D (stpS fu SS CC) (stpC fu CC) (stpD fu) (stpO ops fu) (stpF fu) w' ∧ Kd D w w' := by
  have HBn := Lib.hid ((Below.refl w.heap.size w).alloc (Nat.le_refl _) (.cells #[.pointer (some ⟨D, 0, none⟩)] 25 (0, 0)))
  have HL := Lib.hid h.lt
  have HD := Lib.hid (h.kept HBn.out)
  have HR := Lib.hid HD.out.readyIs
  have HX := Lib.hid (blk_new w (.cells #[.pointer (some ⟨D, 0, none⟩)] 25 (0, 0)))
  have HS := Lib.hid (dstep_flush w.heap.size D SS CC ops fu _ HD.out HX.out ho hf)
  have x0 : (w.alloc (.cells #[.pointer (some ⟨D, 0, none⟩)] 25 (0, 0))).cell? ⟨w.heap.size, 0, none⟩ = some (.pointer (some ⟨D, 0, none⟩)) := (cell_of_row _ _ _ _ _ _ HX.out).trans rfl
  clear h
  go_enter Try.func19, Try.ntmps19
  go_wp2_with fail
  refine HR.out.mono ?_
  rintro e w' ⟨rfl, rfl⟩
  go_wp2_with fail
  clear x0
  refine HS.out.mono ?_
  rintro e w1 ⟨rfl, hd, hb⟩
  have HD1 := Lib.hid hd
  have HB1 := Lib.hid ((Kd.of_below HBn.out HL.out).trans hb)
  clear hd hb
  go_wp2_with fail
  go_ret
  exact ⟨rfl, HD1.out, HB1.out⟩
end Go.Proofs.Ytiagbadnmkeokaa
