/- The disk family, merged for a claim. Conditions as in its parts. -/
import Derived.Test.YtiagbadnmkeokaaDNf
import Derived.Test.YtiagbadnmkeokaaDNg
namespace Go.Proofs.Ytiagbadnmkeokaa
open Go.RowKit Vi

/-- what an act makes of a disk -/
def Ds.act (d : Ds) (a : Ac) : Ds :=
  if a.kd = 1 then d.wrt a.at' (acT a) else if a.kd = 2 then d.red a.at' else if a.kd = 3 then d.fls else if a.kd = 4 then d.arm a.nn
  else if a.kd = 5 then d.crash a.ks else if a.kd = 6 then d.boot else if a.kd = 7 then d.over a.at' (acT a) else d
theorem DsOk.act {k : Nat} {d : Ds} (h : DsOk k d) (a : Ac) (hn : a.nn ≤ 9223372036854775807) : DsOk (k + 1) (d.act a) := by
  unfold Ds.act
  split
  · exact h.wrt _ _
  · split
    · exact h.red _
    · split
      · exact h.fls
      · split
        · exact h.arm _ hn
        · split
          · exact h.crash _
          · split
            · exact h.boot
            · split
              · exact h.over _ _
              · exact h.up
theorem does_any (n0 : Nat) (w0 : World) (D : Nat) (d : Ds) (k : Nat) (A : Option Addr) (n c : Nat) (A2 : Option Addr) (n2 c2 : Nat) (a : Ac) (w : World) (h : DW n0 w0 D d w) (o : DsOk k d) (hk : k ≤ 1000) (h1 : RdA D stC 1 w A n d.S) (h2 : RdA D wrC 2 w A2 n2 d.C) (hs : a.t.size ≤ 140737488351232)
    (hka : RdA D inC 1 w a.ka a.kn a.ks) (hkw : ∀ x ∈ a.ks, (Lit.int .i64 x).wf = true) (hkm : a.kn ≤ maxLen) :
    Calls Try.prog 13 #[.pointer (some ⟨D, 0, none⟩), rdv A n c A2 n2 c2 d.ar d.go d.op, acV a] w (DoesP n0 w0 D (d.act a) w) := by
  unfold Ds.act
  by_cases e1 : a.kd = 1
  · rw [if_pos e1]; exact does1 n0 w0 D d k A n c A2 n2 c2 a w h o hk h1 h2 hs e1
  rw [if_neg e1]
  by_cases e2 : a.kd = 2
  · rw [if_pos e2]; exact does2 n0 w0 D d k A n c A2 n2 c2 a w h o hk h1 h2 hs e2
  rw [if_neg e2]
  by_cases e3 : a.kd = 3
  · rw [if_pos e3]; exact does3 n0 w0 D d k A n c A2 n2 c2 a w h o hk h1 h2 hs e3
  rw [if_neg e3]
  by_cases e4 : a.kd = 4
  · rw [if_pos e4]; exact does4 n0 w0 D d k A n c A2 n2 c2 a w h o hk h1 h2 hs e4
  rw [if_neg e4]
  by_cases e5 : a.kd = 5
  · rw [if_pos e5]; exact does5 n0 w0 D d k A n c A2 n2 c2 a w h o hk h1 h2 hs hka hkw hkm e5
  rw [if_neg e5]
  by_cases e6 : a.kd = 6
  · rw [if_pos e6]; exact does6 n0 w0 D d k A n c A2 n2 c2 a w h o hk h1 h2 hs e6
  rw [if_neg e6]
  by_cases e7 : a.kd = 7
  · rw [if_pos e7]; exact does7 n0 w0 D d k A n c A2 n2 c2 a w h o hk h1 h2 hs e7
  rw [if_neg e7]
  exact does8 n0 w0 D d k A n c A2 n2 c2 a w h o hk h1 h2 (by omega)
section
variable {S : List ByteArray} {s t : ByteArray}
theorem aw1 (hS : S.length = 16) (hs : s.size = 128) (C : List Wr) (op : Int) : Ds.wrE ⟨S, C, 0, false, op⟩ 1 s = 0 ∧ Ds.wrt ⟨S, C, 0, false, op⟩ 1 s = ⟨S, C ++ [(1, s)], 0, false, op + 1⟩ := by
  have e : dckE S.length 1 s = 0 := by unfold dckE; rw [hS, if_pos (by decide), if_pos hs]
  constructor
  · simp [Ds.wrE, e, stpE]
  · simp [Ds.wrt, e, wrtC, stpF, stpD, stpO]
    decide
theorem aw2 : Ds.crash ⟨S, [(1, s), (1, t)], 0, false, 2⟩ [0] = ⟨S.set 1 s, [], 0, true, 2⟩ := by
  simp [Ds.crash, setP, inK]
theorem aw3 (hS : S.length = 16) : Ds.rdE ⟨S.set 1 s, [], 0, false, 2⟩ 1 = 0 ∧ Ds.rdS ⟨S.set 1 s, [], 0, false, 2⟩ 1 = s ∧ Ds.red ⟨S.set 1 s, [], 0, false, 2⟩ 1 = ⟨S.set 1 s, [], 0, false, 3⟩ := by
  have e : Ds.rdE ⟨S.set 1 s, [], 0, false, 2⟩ 1 = 0 := by simp [Ds.rdE, hS]
  refine ⟨e, ?_, ?_⟩
  · unfold Ds.rdS
    rw [if_pos e]
    simp [shw, shwL, hS]
  · unfold Ds.red
    rw [if_pos e]
    rfl
end
theorem rd_blkD {α : Type} {f : α → List Value} {s : Nat} (hf : ∀ x, (f x).length = s) {w : World} {b : Nat} {T : TypeId} {fr : Nat × Nat} {cs : Array Value} (l : List α) (h : w.heap[b]? = some (.cells cs T fr)) (hc : cs.toList = flat f l) : RdX f s w (some ⟨b, 0, none⟩) l.length l :=
  ⟨rfl, fun _ => ⟨b, 0, rfl, lt_of_block h, fun k x j u hx hu => by
    have hg := flat_get hf l k j x u hx hu
    rw [← hc] at hg
    rw [cell_of_row _ _ _ _ _ _ h, Nat.zero_add]
    simpa using hg⟩⟩
theorem wfz : ∀ x ∈ ([0] : List Int), (Lit.int .i64 x).wf = true := by
  intro x hx
  obtain rfl : x = 0 := by simpa using hx
  decide
set_option maxRecDepth 100000 in
set_option maxHeartbeats 4000000 in
theorem awake7_any (w : World) : Calls Try.prog 9 #[] w fun e w' => e = .returned (.bool true) ∧ Below w.heap.size w w' := by
  obtain ⟨ta, hta⟩ : ∃ x, x = fullT ⟨#[97]⟩ := ⟨_, rfl⟩
  obtain ⟨tb, htb⟩ : ∃ x, x = fullT ⟨#[98]⟩ := ⟨_, rfl⟩
  have hsa : ta.size = 128 := by rw [hta]; exact fullT_size _
  have hsb : tb.size = 128 := by rw [htb]; exact fullT_size _
  have HFa := Lib.hid (fun W : World => dfull_any ⟨#[97]⟩ W (by decide))
  have HFb := Lib.hid (fun W : World => dfull_any ⟨#[98]⟩ W (by decide))
  rw [← hta] at HFa
  rw [← htb] at HFb
  clear hta htb
  have HN := Lib.hid (show Calls Try.prog 10 #[.int .i64 16] w (NewD (List.replicate 16 noZ) [] w) from dnew_yes 16 w (by decide) (by decide))
  have hS : (List.replicate 16 noZ).length = 16 := List.length_replicate
  generalize List.replicate 16 noZ = S at HN hS
  have hSz : S.length ≤ 4096 := by omega
  have ok0 : DsOk 5 ⟨S, [], 0, false, 0⟩ := ⟨by show 16 ≤ S.length; omega, hSz, Nat.zero_le _, Int.le_refl _, by show (0 : Int) ≤ _; omega, Int.le_refl _, by show (0 : Int) ≤ _; omega⟩
  have q1 := aw1 hS hsa [] 0
  have q2 := aw1 hS hsb [(1, ta)] 1
  have q3 := aw2 (S := S) (s := ta) (t := tb)
  have q5 := aw3 (s := ta) hS
  have ok1 := ok0.wrt 1 ta
  have q1' : Ds.wrt ⟨S, [], 0, false, 0⟩ 1 ta = ⟨S, [(1, ta)], 0, false, 1⟩ := q1.2
  rw [q1'] at ok1
  have ok2 := ok1.wrt 1 tb
  have q2' : Ds.wrt ⟨S, [(1, ta)], 0, false, 1⟩ 1 tb = ⟨S, [(1, ta), (1, tb)], 0, false, 2⟩ := q2.2
  rw [q2'] at ok2
  have ok3 := ok2.crash [0]
  rw [q3] at ok3
  have ok4 := ok3.boot
  have HP1 := Lib.hid (fun (W : World) (D : Nat) (q : DW w.heap.size w D ⟨S, [], 0, false, 0⟩ W) => pwrite q ok0 (by decide) 1 ta)
  have HP2 := Lib.hid (fun (W : World) (D : Nat) (q : DW w.heap.size w D ⟨S, [(1, ta)], 0, false, 1⟩ W) => pwrite q ok1 (by decide) 1 tb)
  have HP3 := Lib.hid (fun (W : World) (D : Nat) (A : Option Addr) (q : DW w.heap.size w D ⟨S, [(1, ta), (1, tb)], 0, false, 2⟩ W) (r : RdX inC 1 W A 1 [0]) => pcrash q ok2 (by decide) A 1 1 [0] r wfz (by decide))
  have HP4 := Lib.hid (fun (W : World) (D : Nat) (q : DW w.heap.size w D ⟨S.set 1 ta, [], 0, true, 2⟩ W) => pboot q)
  have HP5 := Lib.hid (fun (W : World) (D : Nat) (q : DW w.heap.size w D ⟨S.set 1 ta, [], 0, false, 2⟩ W) => pread q ok4 (by decide) 1)
  rw [q1.1, q1'] at HP1
  rw [q2.1, q2'] at HP2
  rw [q3] at HP3
  rw [q5.1, q5.2.1, q5.2.2] at HP5
  clear q1 q1' q2 q2' q3 q5 ok0 ok1 ok2 ok3 ok4 hsa hsb hS hSz
  go_enter Try.func9, Try.ntmps9
  go_wp2_with fail
  refine HN.out.mono ?_
  rintro e w1 ⟨D, rfl, hd, hi, hb⟩
  have HW1 : Hid (DW w.heap.size w D ⟨S, [], 0, false, 0⟩ w1) := Lib.hid ⟨hd, hi, hb, hb.size⟩
  clear hd hi hb HN
  go_wp2_with fail
  refine (HFa.out _).mono ?_
  rintro e w2 ⟨rfl, hb⟩
  have HW2 := Lib.hid (HW1.out.below hb)
  clear hb HW1
  go_wp2_with fail
  refine (HP1.out _ _ HW2.out).mono ?_
  rintro e w3 ⟨rfl, hw3, _⟩
  have HW3 := Lib.hid hw3
  clear hw3 HW2 HP1
  go_wp2_with fail
  refine (HFb.out _).mono ?_
  rintro e w4 ⟨rfl, hb⟩
  have HW4 := Lib.hid (HW3.out.below hb)
  clear hb HW3 HFb
  go_wp2_with fail
  refine (HP2.out _ _ HW4.out).mono ?_
  rintro e w5 ⟨rfl, hw5, _⟩
  have HW5 := Lib.hid hw5
  clear hw5 HW4 HP2
  have HB5 := Lib.hid ((Below.refl w5.heap.size w5).alloc (Nat.le_refl _) (.cells #[.int .i64 0] 3 (0, 0)))
  have HR5 := Lib.hid (rd_blkD (f := inC) (s := 1) (fun _ => rfl) [0] (blk_new w5 (.cells #[.int .i64 0] 3 (0, 0))) rfl)
  have HW6 := Lib.hid (HW5.out.below HB5.out)
  go_wp2_with fail
  refine (HP3.out _ _ _ HW6.out HR5.out).mono ?_
  rintro e w7 ⟨rfl, hw7, _⟩
  have HW7 := Lib.hid hw7
  clear hw7 HW5 HW6 HP3 HB5 HR5
  go_wp2_with fail
  refine (HP4.out _ _ HW7.out).mono ?_
  rintro e w8 ⟨rfl, hw8, _⟩
  have HW8 : Hid (DW w.heap.size w D ⟨S.set 1 ta, [], 0, false, 2⟩ w8) := Lib.hid hw8
  clear hw8 HW7 HP4
  go_wp2_with fail
  refine (HP5.out _ _ HW8.out).mono ?_
  rintro e w9 ⟨rfl, hw9, _⟩
  have HW9 := Lib.hid hw9
  clear hw9 HW8 HP5
  go_wp2_with fail
  refine (HFa.out _).mono ?_
  rintro e w10 ⟨rfl, hb⟩
  have HW10 := Lib.hid (HW9.out.below hb)
  clear hb HW9 HFa
  go_wp2_with fail
  refine ((dk_tail HW10.out.dk rfl).2.1 _ (Below.refl _ _)).mono ?_
  rintro e w11 ⟨rfl, hb⟩
  have HW11 := Lib.hid (HW10.out.below hb)
  clear hb
  go_wp2_with fail
  go_ret
  exact ⟨rfl, HW11.out.bel⟩
end Go.Proofs.Ytiagbadnmkeokaa

namespace Go.Proofs.Ytiagbadnmkeokaa
open Go.RowKit Vi

/-- both disks are d: the program's at D, the document's in box x -/
structure St (n0 : Nat) (w0 : World) (D x : Nat) (d : Ds) (A : Option Addr) (n c : Nat) (A2 : Option Addr) (n2 c2 : Nat) (W : World) : Prop where
  dw : DW n0 w0 D d W
  xb : W.heap[x]? = some (.cells (rdC A n c A2 n2 c2 d) 35 (0, 0))
  nx : ¬ InD D W x
  s : RdA D stC 1 W A n d.S
  c : RdA D wrC 2 W A2 n2 d.C
  n0 : n0 ≤ x
section
variable {n0 : Nat} {w0 : World} {D x : Nat} {d : Ds} {A : Option Addr} {n c : Nat} {A2 : Option Addr} {n2 c2 : Nat} {W W' : World}
theorem St.kept (h : St n0 w0 D x d A n c A2 n2 c2 W) (hb : Below W.heap.size W W') : St n0 w0 D x d A n c A2 n2 c2 W' :=
  ⟨h.dw.below hb, blk_below h.xb hb, fun q => h.nx (q.back hb h.dw.lt), h.s.kd (Kd.of_below hb h.dw.lt), h.c.kd (Kd.of_below hb h.dw.lt), h.n0⟩
theorem St.drew (h : St n0 w0 D x d A n c A2 n2 c2 W) : St n0 w0 D x d A n c A2 n2 c2 W.drew := h.kept (Below.refl _ _).drew
/-- behind a step: its result is stored -/
theorem St.stored {d' : Ds} {B : Option Addr} {m mc : Nat} {B2 : Option Addr} {m2 k2 : Nat} (h : St n0 w0 D x d A n c A2 n2 c2 W) (hd : DW n0 w0 D d' W') (k : Kd D W W') (h1 : RdA D stC 1 W' B m d'.S) (h2 : RdA D wrC 2 W' B2 m2 d'.C) :
    St n0 w0 D x d' B m mc B2 m2 k2 (((((W'.setCell ⟨x, 0, none⟩ (.slice B m mc)).setCell ⟨x, 1, none⟩ (.slice B2 m2 k2)).setCell ⟨x, 2, none⟩ (.int .i64 d'.ar)).setCell ⟨x, 3, none⟩ (.bool d'.go)).setCell ⟨x, 4, none⟩ (.int .i64 d'.op)) := by
  have hx := (k.block _ (lt_of_block h.xb) h.nx).trans h.xb
  have kk := (((((KK.refl [x] W').set (b := x) (by simp) 0 (.slice B m mc)).set (b := x) (by simp) 1 (.slice B2 m2 k2)).set (b := x) (by simp) 2 (.int .i64 d'.ar)).set (b := x) (by simp) 3 (.bool d'.go)).set (b := x) (by simp) 4 (.int .i64 d'.op)
  have q := heap_setCell_at (i := 4) (u := .int .i64 d'.op) (heap_setCell_at (i := 3) (u := .bool d'.go) (heap_setCell_at (i := 2) (u := .int .i64 d'.ar) (heap_setCell_at (i := 1) (u := .slice B2 m2 k2) (heap_setCell_at (i := 0) (u := .slice B m mc) hx))))
  have hT : Typ 35 := ⟨by decide, by decide, by decide⟩
  have hne := hd.dk.ne hx hT
  exact ⟨hd.kk kk hx hT h.n0, q, fun e => h.nx (k.ind _ (lt_of_block h.xb) (e.kk kk hd.lt hne)), h1.kkS stC_txt kk hx (nt2 _ _ _ _ _ _ _ _ _) hd.lt hne, h2.kkS wrC_txt kk hx (nt2 _ _ _ _ _ _ _ _ _) hd.lt hne, h.n0⟩
end
/-- what was there ahead of the disk isn't its own -/
theorem RdX.farA {α : Type} {D : Nat} {f : α → List Value} {s : Nat} {w W : World} {d : Ds} {A : Option Addr} {n : Nat} {l : List α} (h : RdX f s w A n l) (hw : DW w.heap.size w D d W) : RdA D f s W A n l := by
  refine ⟨h.below hw.bel, fun hn b o e q => ?_⟩
  obtain ⟨b', off, e', hb, _⟩ := h.2 hn
  rw [e] at e'
  injection e' with e'
  injection e' with e1 _ _
  subst e1
  have := hw.far b q
  omega
theorem OwX.rdA {α : Type} {D : Nat} {f : α → List Value} {s : Nat} {T : TypeId} {W W' : World} {n c : Nat} {A : Option Addr} {l : List α} {n0 : Nat} {w0 : World} {d : Ds} (hf : ∀ x, (f x).length = s) (hw : DW n0 w0 D d W) (hb : Below W.heap.size W W') (h : OwX f s T W' W.heap.size (.slice A n c) l) : RdA D f s W' A n l := by
  obtain ⟨A', c', e, hr, _, _⟩ := h.rd hf
  injection e with e1 e2 e3
  subst e1 e2 e3
  exact ⟨hr, fun _ b o e q => by
    subst e
    have h1 := own_ge h
    have h2 := hw.dk.new (q.back hb hw.lt)
    omega⟩
end Go.Proofs.Ytiagbadnmkeokaa
