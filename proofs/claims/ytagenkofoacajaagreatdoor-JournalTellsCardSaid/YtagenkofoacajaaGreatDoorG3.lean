/- Several texts of one family, merged for a claim. Conditions as in its parts. -/
import Derived.Test.YtagenkofoacajaaGreatDoorG2
import Derived.Lib.BufferWrite
import Derived.Deep.DeepCutAuto
import Derived.Test.YtagenkofoacajaaGreatDoorProg
import Derived.WalkKit
import Derived.Lib.Hide
import Derived.WalkSpells
import Derived.WalkLawsBesides
import Derived.Test.YtagenkofoacajaaGreatDoorG1
import Derived.Test.YtagenkofoacajaaGreatDoorEc
import Derived.Test.YtagenkofoacajaaGreatDoorG4
import Derived.Test.YtagenkofoacajaaGreatDoorG0
namespace Go.Proofs.YtagenkofoacajaaGreatDoor
open Go.RowKit Vi

/-- copy into a row from its first place on: as much of a text as there is room for -/
theorem run_copy_front {P : Program} (w : World) (dT sT ty elem : TypeId) (g dLen dCap : Nat) (s : ByteArray) (cur : Array Value) (t : TypeId)
    (hu : P.underlying dT = some (.slice elem)) (hs : (P.info? elem).map (·.size) = some 1) (hg : w.heap[g]? = some (.cells cur t (0, 0))) (hfit : dLen ≤ cur.size) :
    (Builtin.copy_ #[dT, sT] ty #[.slice (some ⟨g, 0, none⟩) dLen dCap, .string s]).run P w =
      .ok (goInt (Nat.min s.size dLen)) (w.setRow g (Lib.byteCells (s.data.toList.take (Nat.min s.size dLen)) ++ cur.toList.drop (Nat.min s.size dLen)).toArray) := by
  have hlen : (Lib.byteCells (s.data.toList.take (Nat.min s.size dLen))).length = Nat.min s.size dLen := by
    rw [Lib.byteCells_length, List.length_take, ← Lib.size_eq]
    exact Nat.min_eq_left (Nat.min_le_left _ _)
  have hst := run_storeCells_at P g 0 t (Lib.byteCells (s.data.toList.take (Nat.min s.size dLen))) 0 cur w hg (by rw [hlen]; simp only [Nat.zero_add]; exact Nat.le_trans (Nat.min_le_right _ _) hfit) (Lib.byteCells_one _)
  have htk : List.take (Nat.min s.size dLen) (List.map (fun b : UInt8 => Value.int IntKind.u8 (b.toNat : Int)) s.data.toList) = Lib.byteCells (s.data.toList.take (Nat.min s.size dLen)) := by
    unfold Lib.byteCells
    rw [List.map_take]
  rw [hlen] at hst
  simp only [Nat.add_zero, Nat.zero_add, List.take_zero, List.nil_append] at hst
  cases hq : P.info? elem with
  | none => simp [hq] at hs
  | some i =>
    generalize hm : Nat.min s.size dLen = m at *
    simp [Builtin.copy_, run_underlying hu, Builtin.lenOf, Builtin.firstCells, sizeOf, typeInfo, hq, hm]
    rw [htk, hst]
    simp [Result.andThen]
/-- a sector's first bytes are the text's, noughts stand behind -/
theorem lfull_list (s : ByteArray) : (fullT s).data.toList = s.data.toList.take (Nat.min s.size 128) ++ (zsD 128).drop (Nat.min s.size 128) := by
  unfold fullT
  rw [ByteArray.data_extract, Array.toList_extract]
  have e : (s ++ noZ).data.toList = s.data.toList ++ zsD 128 := by simp [noZ]
  rw [e]
  simp only [List.extract, List.drop_zero, Nat.sub_zero]
  have hl : s.data.toList.length = s.size := (Lib.size_eq s).symm
  rw [List.take_append, hl]
  rcases Nat.lt_or_ge s.size 128 with h | h
  · rw [show Nat.min s.size 128 = s.size from Nat.min_eq_left (by omega)]
    have e1 : s.data.toList.take 128 = s.data.toList := List.take_of_length_le (by omega)
    have e2 : s.data.toList.take s.size = s.data.toList := List.take_of_length_le (by omega)
    rw [e1, e2]
    congr 1
    unfold zsD
    rw [List.take_replicate, List.drop_replicate]
    congr 1
    omega
  · rw [show Nat.min s.size 128 = 128 from Nat.min_eq_right h]
    rw [show 128 - s.size = 0 by omega]
    simp [zsD]
end Go.Proofs.YtagenkofoacajaaGreatDoor

namespace Ar
/-- how many sectors a half has -/
def hf (n : Int) : Int := if n < 16 ∨ 4096 < n then 0 else (n - 2) / 2
/-- the first sector of a half -/
def fs (n h : Int) : Int := if h = 1 then 2 + hf n else 2
/-- how many sectors so many bytes take -/
def sc (b : Int) : Int := if b ≤ 0 then 0 else (b - 1) / 128 + 1
/-- the first sector of the log -/
def lg (n h p : Int) : Int := fs n h + min (sc p) (hf n)
/-- what a log may have -/
def fr (n p r : Int) : Int := hf n - min (sc p) (hf n) - min (max r 0) (hf n) - 1
/-- what is left -/
def lf (n p r : Int) : Int := if hf n - 1 < r ∨ hf n - 1 < sc p then -1 else if 0 < r then hf n - 1 - r - sc p else hf n - 1 - sc p
/-- does it fit -/
def ft (n p t r : Int) : Bool := decide (sc t ≤ fr n p r)
/-- for what a sector is -/
def ofv (n h p t r s : Int) : Int :=
  if n < 16 ∨ 4096 < n ∨ s < 0 ∨ n ≤ s then 6 else if s < 2 then 0
  else if s < fs n h ∨ fs n h + hf n ≤ s then 5
  else if s < lg n h p then 1 else if s < lg n h p + sc t then 2
  else if fs n h + hf n - 1 - s < r then 3 else 4

theorem hf_bd (n : Int) : 0 ≤ hf n ∧ hf n ≤ 2047 := by unfold hf; split <;> omega
theorem hf_in (n : Int) (h0 : 16 ≤ n) (h1 : n ≤ 4096) : hf n = (n - 2) / 2 := by unfold hf; rw [if_neg (by omega)]
theorem hf_out (n : Int) (h : n < 16 ∨ 4096 < n) : hf n = 0 := by unfold hf; rw [if_pos h]
theorem fs_bd (n h : Int) : 2 ≤ fs n h ∧ fs n h ≤ 2049 := by have := hf_bd n; unfold fs; split <;> omega
theorem sc_bd (b : Int) (h : b ≤ 9223372036854775807) : 0 ≤ sc b ∧ sc b ≤ 72057594037927936 := by unfold sc; split <;> omega
theorem sc_le (b : Int) (h : b ≤ 0) : sc b = 0 := by unfold sc; rw [if_pos h]
theorem sc_gt (b : Int) (h : 0 < b) : sc b = (b - 1) / 128 + 1 := by unfold sc; rw [if_neg (by omega)]
theorem sc_ref0 (b : Int) (h : 0 < b) (h1 : b % 128 = 0) : sc b = b / 128 := by rw [sc_gt b h]; omega
theorem sc_ref1 (b : Int) (h : 0 < b) (h1 : 0 < b % 128) : sc b = b / 128 + 1 := by rw [sc_gt b h]; omega
theorem lg_bd (n h p : Int) (hp : p ≤ 9223372036854775807) : 2 ≤ lg n h p ∧ lg n h p ≤ 4096 := by
  have := hf_bd n; have := fs_bd n h; have := sc_bd p hp; unfold lg; omega
theorem fr_bd (n p r : Int) (hp : p ≤ 9223372036854775807) : -4095 ≤ fr n p r ∧ fr n p r ≤ 2046 := by
  have := hf_bd n; have := sc_bd p hp; unfold fr; omega
theorem fr_lf (n p r : Int) (hp : p ≤ 9223372036854775807) : (fr n p r < 0 ∧ lf n p r < 0) ∨ (0 ≤ fr n p r ∧ lf n p r = fr n p r) := by
  have := hf_bd n; have := sc_bd p hp; unfold fr lf
  split
  · omega
  · split <;> omega
theorem lf_bd (n p r : Int) (hp : p ≤ 9223372036854775807) : -4095 ≤ lf n p r ∧ lf n p r ≤ 2046 := by
  have := hf_bd n; have := sc_bd p hp; unfold lf
  split
  · omega
  · split <;> omega
end Ar

namespace Go.Proofs.YtagenkofoacajaaGreatDoor
open Go.RowKit Ar

theorem ret_i {a b : Int} (h : a = b) : Ending.returned (.int .i64 a) = .returned (.int .i64 b) := by rw [h]
theorem ret_b {a b : Bool} (h : a = b) : Ending.returned (.bool a) = .returned (.bool b) := by rw [h]

/-- may a disk have so many sectors? -/
def ck (n : Int) : Int := if n < 16 ∨ 4096 < n then 2 else 0
theorem ck_out (n : Int) (h : n < 16 ∨ 4096 < n) : ck n = 2 := by unfold ck; rw [if_pos h]
theorem ck_in (n : Int) (h0 : 16 ≤ n) (h1 : n ≤ 4096) : ck n = 0 := by unfold ck; rw [if_neg (by omega)]

set_option maxHeartbeats 400000 in
theorem check_any (n : Int) (w : World) (hn0 : -9223372036854775808 ≤ n) (hn1 : n ≤ 9223372036854775807) :
    Calls Tryz.prog 31 #[.int .i64 n] w fun e w' => e = .returned (.int .i64 (ck n)) ∧ w = w' := by
  by_cases a1 : n < 16
  · have H := Lib.hid (ck_out n (Or.inl a1))
    go_enter Tryz.func31, Tryz.ntmps31
    go_wp2
    go_ret
    exact ⟨ret_i H.out.symm, rfl⟩
  · by_cases a2 : 4096 < n
    · have H := Lib.hid (ck_out n (Or.inr a2))
      go_enter Tryz.func31, Tryz.ntmps31
      go_wp2
      go_ret
      exact ⟨ret_i H.out.symm, rfl⟩
    · have H := Lib.hid (ck_in n (by omega) (by omega))
      go_enter Tryz.func31, Tryz.ntmps31
      go_wp2
      go_ret
      exact ⟨ret_i H.out.symm, rfl⟩

set_option maxHeartbeats 400000 in
theorem half_any (n : Int) (w : World) (hn0 : -9223372036854775808 ≤ n) (hn1 : n ≤ 9223372036854775807) :
    Calls Tryz.prog 17 #[.int .i64 n] w fun e w' => e = .returned (.int .i64 (hf n)) ∧ w = w' := by
  by_cases a : n < 16 ∨ 4096 < n
  · have H := Lib.hid (hf_out n a)
    have K := Lib.hid (ck_out n a)
    clear a
    go_enter Tryz.func17, Tryz.ntmps17
    go_wp2_with fail
    refine (check_any n _ hn0 hn1).mono ?_
    rintro e w' ⟨rfl, rfl⟩
    rw [K.out]
    go_wp2
    go_ret
    exact ⟨ret_i H.out.symm, rfl⟩
  · have a1 : 16 ≤ n := by omega
    have a2 : n ≤ 4096 := by omega
    have H := Lib.hid (hf_in n a1 a2)
    have K := Lib.hid (ck_in n a1 a2)
    clear a
    go_enter Tryz.func17, Tryz.ntmps17
    go_wp2_with fail
    refine (check_any n _ hn0 hn1).mono ?_
    rintro e w' ⟨rfl, rfl⟩
    rw [K.out]
    go_wp2
    go_ret
    exact ⟨ret_i H.out.symm, rfl⟩

theorem fs_onefirst (n h : Int) (e : h = 1) : fs n h = 2 + hf n := by unfold fs; rw [if_pos e]
theorem fs_twofirst (n h : Int) (e : ¬ h = 1) : fs n h = 2 := by unfold fs; rw [if_neg e]
set_option maxHeartbeats 400000 in
theorem first_any (n h : Int) (w : World) (hn0 : -9223372036854775808 ≤ n) (hn1 : n ≤ 9223372036854775807) :
    Calls Tryz.prog 90 #[.int .i64 n, .int .i64 h] w fun e w' => e = .returned (.int .i64 (fs n h)) ∧ w = w' := by
  have b := hf_bd n
  by_cases a : h = 1
  · have H := Lib.hid (fs_onefirst n h a)
    subst a
    go_enter Tryz.func90, Tryz.ntmps90
    go_wp2_with fail
    refine (half_any n _ hn0 hn1).mono ?_
    rintro e w' ⟨rfl, rfl⟩
    obtain ⟨b0, b1⟩ := b
    go_wp2
    go_ret
    exact ⟨ret_i H.out.symm, rfl⟩
  · have H := Lib.hid (fs_twofirst n h a)
    have a' : (h == 1) = false := by simpa using a
    go_enter Tryz.func90, Tryz.ntmps90
    go_wp2
    go_ret
    exact ⟨ret_i H.out.symm, rfl⟩

theorem fs_onerefFirst (n h : Int) (e : h = 1) : fs n h = 2 + hf n := by unfold fs; rw [if_pos e]
theorem fs_tworefFirst (n h : Int) (e : ¬ h = 1) : fs n h = 2 := by unfold fs; rw [if_neg e]
end Go.Proofs.YtagenkofoacajaaGreatDoor

namespace Go.Proofs.YtagenkofoacajaaGreatDoor
open Go.RowKit Vi

theorem InD.kkM {D g : Nat} {w w' : World} (k : KK [g] w w') (hD : D < w.heap.size) (hg : D ≠ g) {b : Nat} (q : InD D w' b) : InD D w b := by
  have hb := k.block D hD (by simpa using hg)
  have hc : ∀ i, w'.cell? ⟨D, i, none⟩ = w.cell? ⟨D, i, none⟩ := fun i => World.cell?_of_block hb
  rcases q with q | ⟨o, n, c, q⟩ | ⟨o, n, c, q⟩
  · exact .inl q
  · exact .inr (.inl ⟨o, n, c, by rw [← hc]; exact q⟩)
  · exact .inr (.inr ⟨o, n, c, by rw [← hc]; exact q⟩)
theorem OwX.ofB {α : Type} {f : α → List Value} {s : Nat} {T : TypeId} {w W : World} {B n c : Nat} {A : Option Addr} {l : List α} (h : OwX f s T w B (.slice A n c) l) (hb : ∀ b o, A = some ⟨b, o, none⟩ → b < w.heap.size → W.heap[b]? = w.heap[b]?) : OwX f s T W B (.slice A n c) l := by
  rcases h with ⟨h1, h | ⟨b, cap, cur, h2, h3, h4, h5⟩⟩
  · exact ⟨h1, .inl h⟩
  · have e : A = some ⟨b, 0, none⟩ := by injection h2
    exact ⟨h1, .inr ⟨b, cap, cur, h2, h3, (hb b 0 e (lt_of_block h4)).trans h4, h5⟩⟩
theorem DK.kkM {D g : Nat} {SS : List ByteArray} {CC : List Wr} {dn : Bool} {ops fu : Int} {w w' : World} (h : DK D SS CC dn ops fu w) (k : KK [g] w w') (hn : ¬ InD D w g) : DK D SS CC dn ops fu w' := by
  obtain ⟨⟨sa, sn, sc, ca, cn, cc, h1, h2, h3⟩, h4⟩ := h
  have hD : D ≠ g := fun e => hn (.inl e.symm)
  refine ⟨⟨sa, sn, sc, ca, cn, cc, k.blk h1 (by simpa using hD), h2.ofB (fun b o e hb => k.block b hb (fun q => ?_)), h3.ofB (fun b o e hb => k.block b hb (fun q => ?_))⟩, h4⟩
  · obtain rfl : b = g := by simpa using q
    subst e
    exact hn (InD.safe h1)
  · obtain rfl : b = g := by simpa using q
    subst e
    exact hn (InD.cache h1)
theorem DW.kkM {n : Nat} {w0 : World} {D g : Nat} {d : Ds} {w w' : World} (h : DW n w0 D d w) (k : KK [g] w w') (hng : ¬ InD D w g) (hn : n ≤ g) : DW n w0 D d w' :=
  ⟨h.dk.kkM k hng, fun b q => h.far b (q.kkM k h.lt (fun e => hng (.inl e.symm))), k.below h.bel (fun b hb => by obtain rfl : b = g := (by simpa using hb); exact hn) h.sz, Nat.le_trans h.sz k.size⟩
theorem DsOk.leM {k k' : Nat} {d : Ds} (h : DsOk k d) (hk : k ≤ k') : DsOk k' d := ⟨h.s1, h.s2, by have := h.c; omega, h.a1, h.a2, h.o1, by have := h.o2; omega⟩
section
variable {n : Nat} {w0 : World} {D L : Nat} {d : Ds} {f m : Int} {t : ByteArray} {w w' : World}
end
/-- what a Below from B on leaves: a disk whose blocks lie below B -/
theorem DW.belowB {n : Nat} {w0 : World} {D B : Nat} {d : Ds} {w w' : World} (h : DW n w0 D d w) (hi : ∀ b, InD D w b → b < B) (hb : Below B w w') (hn : n ≤ B) : DW n w0 D d w' ∧ ∀ b, InD D w' b → b < B := by
  obtain ⟨⟨⟨sa, sn, sc, ca, cn, cc, h1, h2, h3⟩, h4⟩, hf, hbl, hs⟩ := h
  have hD : D < B := hi D (.inl rfl)
  have h1' : w'.heap[D]? = some (dkO sa sn sc ca cn cc true d.go d.op d.ar) := (hb.block D hD).trans h1
  have hin : ∀ b, InD D w' b → InD D w b := fun b q => by
    rcases q.cases h1' with q | ⟨o, q⟩ | ⟨o, q⟩
    · exact .inl q
    · subst q; exact InD.safe h1
    · subst q; exact InD.cache h1
  refine ⟨⟨⟨⟨sa, sn, sc, ca, cn, cc, h1', h2.ofB (fun b o e _ => ?_), h3.ofB (fun b o e _ => ?_)⟩, h4⟩, fun b q => hf b (hin b q), hbl.trans (hb.mono hn), Nat.le_trans hs hb.size⟩, fun b q => hi b (hin b q)⟩
  · subst e; exact hb.block b (hi b (InD.safe h1))
  · subst e; exact hb.block b (hi b (InD.cache h1))
theorem Kd.belowB {D : Nat} {w w3 w4 : World} (h : Kd D w w3) (hb : Below w.heap.size w3 w4) (hD : D < w.heap.size) : Kd D w w4 :=
  ⟨hb.os.trans h.os, hb.tape.trans h.tape, hb.output.trans h.output, Nat.le_trans h.size hb.size, fun b q hn => (hb.block b q).trans (h.block b q hn), fun b q hin => h.ind b q (by
    rcases hin with e | ⟨o, n, c, e⟩ | ⟨o, n, c, e⟩
    · exact .inl e
    · exact .inr (.inl ⟨o, n, c, by rw [← hb.cell (p := ⟨D, 0, none⟩) hD]; exact e⟩)
    · exact .inr (.inr ⟨o, n, c, by rw [← hb.cell (p := ⟨D, 1, none⟩) hD]; exact e⟩))⟩
/-- Read once more: no other block becomes the disk's -/
theorem dread_upI (D : Nat) (SS : List ByteArray) (CC : List Wr) (ops fu : Int) (i : Int) (w : World) (h : DK D SS CC false ops fu w) (hi : 0 ≤ i ∧ i < (SS.length : Int)) (hl : CC.length ≤ 1000000) (ho : -1000000000 ≤ ops ∧ ops ≤ 1000000000) :
    Calls Tryz.prog 29 #[.pointer (some ⟨D, 0, none⟩), .int .i64 i] w fun e w' => e = .returned (.tuple #[.string (shw SS CC i), .int .i64 0]) ∧ DK D SS CC false (ops + 1) fu w' ∧ Kd D w w' ∧ ∀ b, InD D w' b → InD D w b := by
  have HR := Lib.hid h.readyIs
  have HH := h.hasIs i
  rw [decide_eq_true hi] at HH
  have HH := Lib.hid HH
  have HI := Lib.hid hi
  obtain ⟨⟨sa, sn, sc, ca, cn, cc, h1, h2, h3⟩, h4⟩ := h
  have H1 := Lib.hid h1
  have H2 := Lib.hid h2
  have H3 := Lib.hid h3
  have H4 := Lib.hid h4
  have c4 : w.cell? ⟨D, 4, none⟩ = some (.int .i64 ops) := (dk_cells h1).2.2.2.2.1
  have f4 : w.frozen? ⟨D, 4, none⟩ = false := frozen_of_row _ _ _ _ _ h1
  have w2 : IntKind.i64.wrap (ops + 1) = ops + 1 := IntWalk.i64_in _ (by omega)
  clear h1 h2 h3 h4 hi
  go_enter Tryz.func29, Tryz.ntmps29
  go_wp2_with fail
  refine HR.out.mono ?_
  rintro e w' ⟨rfl, rfl⟩
  go_wp2_with fail
  refine HH.out.mono ?_
  rintro e w' ⟨rfl, rfl⟩
  go_wp2_with fail
  have HK := Lib.hid ((KK.refl [D] w).set (b := D) (by simp) 4 (.int .i64 (ops + 1)))
  have HB := Lib.hid (show (w.setCell ⟨D, 4, none⟩ (.int .i64 (ops + 1))).heap[D]? = some (dkO sa sn sc ca cn cc true false (ops + 1) fu) from heap_setCell_at (i := 4) (u := .int .i64 (ops + 1)) H1.out)
  have HO2 := Lib.hid (H2.out.kkD HK.out H1.out (by decide))
  have HO3 := Lib.hid (H3.out.kkD HK.out H1.out (by decide))
  have HKd := Lib.hid (Kd.of_same HK.out H1.out HB.out)
  have HIn : Hid (∀ b, InD D (w.setCell ⟨D, 4, none⟩ (.int .i64 (ops + 1))) b → InD D w b) := Lib.hid (fun b q => by
    rcases q.cases HB.out with q | ⟨o, q⟩ | ⟨o, q⟩
    · exact .inl q
    · have := H1.out; subst q; exact InD.safe this
    · have := H1.out; subst q; exact InD.cache this)
  clear c4 f4 w2
  generalize (w.setCell ⟨D, 4, none⟩ (.int .i64 (ops + 1))) = v at *
  have HD : Hid (DK D SS CC false (ops + 1) fu v) := Lib.hid ⟨⟨sa, sn, sc, ca, cn, cc, HB.out, HO2.out, HO3.out⟩, H4.out⟩
  have HS := Lib.hid (dshow_any D SS CC false (ops + 1) fu i v HD.out HI.out hl)
  refine HS.out.mono ?_
  rintro e w1 ⟨rfl, hb⟩
  have HD1 := Lib.hid (HD.out.kept hb)
  have HK1 := Lib.hid (HKd.out.trans (Kd.of_below hb HD.out.lt))
  have HIn1 : Hid (∀ b, InD D w1 b → InD D w b) := Lib.hid (fun b q => HIn.out b (q.back hb HD.out.lt))
  clear hb
  go_wp2_with fail
  go_ret2
  exact ⟨rfl, HD1.out, HK1.out, HIn1.out⟩
section
variable {n : Nat} {w0 : World} {D L : Nat} {d : Ds} {f m : Int} {t : ByteArray} {w : World}
theorem DW.sizeIs (h : DW n w0 D d w) : Calls Tryz.prog 16 #[.pointer (some ⟨D, 0, none⟩)] w fun e w' => e = .returned (.int .i64 (d.S.length : Int)) ∧ w = w' := by
  obtain ⟨⟨sa, sn, sc, ca, cn, cc, h1, h2, h3⟩, h4⟩ := h.dk
  obtain ⟨_, _, e, hr, _, _⟩ := h2.rd stC_len
  injection e with e1 e2 e3
  have hl : d.S.length = sn := hr.1.trans e2.symm
  rw [hl]
  exact dszz_any D sa sn sc ca cn cc d.go d.op d.ar w h1
theorem DW.opsIs (h : DW n w0 D d w) : Calls Tryz.prog 13 #[.pointer (some ⟨D, 0, none⟩)] w fun e w' => e = .returned (.int .i64 d.op) ∧ w = w' := by
  obtain ⟨⟨sa, sn, sc, ca, cn, cc, h1, h2, h3⟩, h4⟩ := h.dk
  exact dops_any D sa sn sc ca cn cc d.go d.op d.ar w h1
end
end Go.Proofs.YtagenkofoacajaaGreatDoor

namespace Go.Proofs.YtagenkofoacajaaGreatDoor
open Go.RowKit Ar

set_option maxHeartbeats 800000 in
theorem last_any (n h : Int) (w : World) (hn0 : -9223372036854775808 ≤ n) (hn1 : n ≤ 9223372036854775807) :
    Calls Tryz.prog 62 #[.int .i64 n, .int .i64 h] w fun e w' => e = .returned (.int .i64 (fs n h + hf n - 1)) ∧ w = w' := by
  have b1 := hf_bd n
  have b3 := fs_bd n h
  go_enter Tryz.func62, Tryz.ntmps62
  go_wp2_with fail
  refine (first_any n h _ hn0 hn1).mono ?_
  rintro e w' ⟨rfl, rfl⟩
  go_wp2_with fail
  refine (half_any n _ hn0 hn1).mono ?_
  rintro e w' ⟨rfl, rfl⟩
  go_wp2
  go_ret
  exact ⟨rfl, rfl⟩

theorem ft_lf (n p t r : Int) (hp1 : p ≤ 9223372036854775807) (ht1 : t ≤ 9223372036854775807) : ft n p t r = (decide (0 ≤ lf n p r) && decide (sc t ≤ lf n p r)) := by
  have := fr_lf n p r hp1
  have := sc_bd t ht1
  unfold ft
  rw [Bool.eq_iff_iff]; simp; omega

/-- where a record stands, and what is told -/
def pl (n h s : Int) : Value := if s < 0 ∨ hf n ≤ s then .tuple #[.int .i64 0, .int .i64 8] else .tuple #[.int .i64 (fs n h + hf n - 1 - s), .int .i64 0]

set_option maxHeartbeats 800000 in
theorem place_any (n h s : Int) (w : World) (hn0 : -9223372036854775808 ≤ n) (hn1 : n ≤ 9223372036854775807) (hs0 : -9223372036854775808 ≤ s) (hs1 : s ≤ 9223372036854775807) :
    Calls Tryz.prog 38 #[.int .i64 n, .int .i64 h, .int .i64 s] w fun e w' => e = .returned (pl n h s) ∧ w = w' := by
  have b1 := hf_bd n
  have b3 := fs_bd n h
  by_cases a : s < 0
  · have HH := Lib.hid (show pl n h s = _ from if_pos (Or.inl a))
    go_enter Tryz.func38, Tryz.ntmps38
    go_wp2
    rw [HH.out]
    go_ret2
    exact ⟨rfl, rfl⟩
  · by_cases c : hf n ≤ s
    · have HH := Lib.hid (show pl n h s = _ from if_pos (Or.inr c))
      go_enter Tryz.func38, Tryz.ntmps38
      go_wp2_with fail
      refine (half_any n _ hn0 hn1).mono ?_
      rintro e w' ⟨rfl, rfl⟩
      go_wp2
      rw [HH.out]
      go_ret2
      exact ⟨rfl, rfl⟩
    · have HH := Lib.hid (show pl n h s = _ from if_neg (by omega))
      have c' : decide (hf n ≤ s) = false := by simpa using c
      go_enter Tryz.func38, Tryz.ntmps38
      go_wp2_with fail
      refine (half_any n _ hn0 hn1).mono ?_
      rintro e w' ⟨rfl, rfl⟩
      go_wp2_with fail
      refine (last_any n h _ hn0 hn1).mono ?_
      rintro e w' ⟨rfl, rfl⟩
      go_wp2
      rw [HH.out]
      go_ret2
      exact ⟨rfl, rfl⟩
end Go.Proofs.YtagenkofoacajaaGreatDoor

namespace Go.Proofs.YtagenkofoacajaaGreatDoor
open Go.RowKit Vi Ar

/-- a journal's box -/
def jnO (D : Nat) (hf ep ct : Int) : Obj := .cells #[.pointer (some ⟨D, 0, none⟩), .int .i64 hf, .int .i64 ep, .int .i64 ct] 33 (0, 0)
/-- a journal at J over the disk d at D -/
structure JW (n : Nat) (w0 : World) (D J : Nat) (d : Ds) (hf ep ct : Int) (w : World) : Prop where
  dw : DW n w0 D d w
  bx : w.heap[J]? = some (jnO D hf ep ct)
  nl : ¬ InD D w J
  ge : n ≤ J
/-- a block that is no disk's -/
def Bx (D b : Nat) (o : Obj) (w : World) : Prop := w.heap[b]? = some o ∧ ¬ InD D w b
theorem Bx.kd {D b : Nat} {o : Obj} {w w' : World} (h : Bx D b o w) (k : Kd D w w') : Bx D b o w' := ⟨(k.block _ (lt_of_block h.1) h.2).trans h.1, fun q => h.2 (k.ind _ (lt_of_block h.1) q)⟩
theorem Bx.below {D b : Nat} {o : Obj} {w w' : World} (h : Bx D b o w) (hb : Below w.heap.size w w') (hD : D < w.heap.size) : Bx D b o w' := h.kd (Kd.of_below hb hD)
section
variable {n : Nat} {w0 : World} {D J : Nat} {d : Ds} {hf ep ct : Int} {w w' : World} {k0 : Nat}
theorem JW.below (h : JW n w0 D J d hf ep ct w) (hb : Below w.heap.size w w') : JW n w0 D J d hf ep ct w' := ⟨h.dw.below hb, blk_below h.bx hb, fun q => h.nl (q.back hb h.dw.lt), h.ge⟩
theorem JW.kd {d' : Ds} (h : JW n w0 D J d hf ep ct w) (hd : DW n w0 D d' w') (k : Kd D w w') : JW n w0 D J d' hf ep ct w' := ⟨hd, (k.block _ (lt_of_block h.bx) h.nl).trans h.bx, fun q => h.nl (k.ind _ (lt_of_block h.bx) q), h.ge⟩
theorem JW.kk {g : Nat} (h : JW n w0 D J d hf ep ct w) (k : KK [g] w w') (hg : ¬ InD D w g) (hn : n ≤ g) (hJ : J ≠ g) : JW n w0 D J d hf ep ct w' := ⟨h.dw.kkM k hg hn, k.blk h.bx (by simpa using hJ), fun q => h.nl (q.kkM k h.dw.lt (fun e => hg (.inl e.symm))), h.ge⟩
theorem JW.c0 (h : JW n w0 D J d hf ep ct w) : w.cell? ⟨J, 0, none⟩ = some (.pointer (some ⟨D, 0, none⟩)) := (cell_of_row _ _ 0 _ _ _ h.bx).trans rfl
theorem JW.c1 (h : JW n w0 D J d hf ep ct w) : w.cell? ⟨J, 1, none⟩ = some (.int .i64 hf) := (cell_of_row _ _ 1 _ _ _ h.bx).trans rfl
theorem JW.c2 (h : JW n w0 D J d hf ep ct w) : w.cell? ⟨J, 2, none⟩ = some (.int .i64 ep) := (cell_of_row _ _ 2 _ _ _ h.bx).trans rfl
theorem JW.c3 (h : JW n w0 D J d hf ep ct w) : w.cell? ⟨J, 3, none⟩ = some (.int .i64 ct) := (cell_of_row _ _ 3 _ _ _ h.bx).trans rfl
theorem JW.fz (h : JW n w0 D J d hf ep ct w) (i : Nat) : w.frozen? ⟨J, i, none⟩ = false := frozen_of_row _ _ _ _ _ h.bx
theorem JW.set (h : JW n w0 D J d hf ep ct w) (c' : Int) : JW n w0 D J d hf ep c' (w.setCell ⟨J, 3, none⟩ (.int .i64 c')) := by
  have k := (KK.refl [J] w).set (b := J) (by simp) 3 (.int .i64 c')
  refine ⟨h.dw.kkM k h.nl h.ge, ?_, fun q => h.nl (q.kkM k h.dw.lt (fun e => h.nl (.inl e.symm))), h.ge⟩
  have q := heap_setCell_at (i := 3) (u := .int .i64 c') h.bx
  exact q
theorem jmade_any (h : JW n w0 D J d hf ep ct w) : Calls Tryz.prog 18 #[.pointer (some ⟨J, 0, none⟩)] w fun e w' => e = .returned (.bool true) ∧ w = w' := by
  have c0 := h.c0
  clear h
  go_enter Tryz.func18, Tryz.ntmps18
  go_wp2_with fail
  go_ret
  exact ⟨rfl, rfl⟩
theorem jcount_any (h : JW n w0 D J d hf ep ct w) : Calls Tryz.prog 11 #[.pointer (some ⟨J, 0, none⟩)] w fun e w' => e = .returned (.int .i64 ct) ∧ w = w' := by
  have c3 := h.c3
  have HM := Lib.hid (jmade_any h)
  clear h
  go_enter Tryz.func11, Tryz.ntmps11
  go_wp2_with fail
  refine HM.out.mono ?_
  rintro e w' ⟨rfl, rfl⟩
  go_wp2_with fail
  go_ret
  exact ⟨rfl, rfl⟩
theorem jplace_any (h : JW n w0 D J d hf ep ct w) (hl : d.S.length ≤ 4096) (s a z : Int) (hs0 : -9223372036854775808 ≤ s) (hs1 : s ≤ 9223372036854775807) (hp : pl (d.S.length : Int) hf s = .tuple #[.int .i64 a, .int .i64 z]) :
    Calls Tryz.prog 20 #[.pointer (some ⟨J, 0, none⟩), .int .i64 s] w fun e w' => e = .returned (.tuple #[.int .i64 a, .int .i64 z]) ∧ Below w.heap.size w w' := by
  have r0 := fun d os => cell_regrown h.c0 d os
  have r1 := fun d os => cell_regrown h.c1 d os
  have HH := Lib.hid h.dw
  obtain ⟨N, hN⟩ : ∃ N : Nat, N = d.S.length := ⟨_, rfl⟩
  have HS := Lib.hid (fun (W : World) (q : DW n w0 D d W) => (by rw [hN]; exact q.sizeIs : Calls Tryz.prog 16 #[.pointer (some ⟨D, 0, none⟩)] W fun e w' => e = .returned (.int .i64 (N : Int)) ∧ W = w'))
  rw [← hN] at hl hp
  have HPL := Lib.hid (fun W : World => (by have y := place_any (N : Int) hf s W (by omega) (by omega) hs0 hs1; rw [hp] at y; exact y : Calls Tryz.prog 38 #[.int .i64 (N : Int), .int .i64 hf, .int .i64 s] W fun e w' => e = .returned (.tuple #[.int .i64 a, .int .i64 z]) ∧ W = w'))
  clear h hp hN
  go_enter Tryz.func20, Tryz.ntmps20
  go_wp2_with fail
  refine wp_region_quiet_below (by kernel_rfl) (by kernel_rfl) ?_
  repeat (any_goals (first | go_big_quiet_step ((first | (go_at_call 16; with_reducible exact Calls.regrown_of (of_same (HS.out _ (HH.out.below (below_regrown _ _ _))))) | (go_at_call 38; with_reducible exact Calls.regrown_of (of_same (HPL.out _))))) | quiet_step ((first | (go_at_call 16; with_reducible exact Calls.regrown_of (of_same (HS.out _ (HH.out.below (below_regrown _ _ _))))) | (go_at_call 38; with_reducible exact Calls.regrown_of (of_same (HPL.out _)))))))
  refine wpQuiet_nil ?_
  intro v1 hv1
  have hb1 := below_anyY hv1
  clear hv1 r0 r1
  go_wp2_with fail
  go_ret2
  exact ⟨rfl, hb1⟩
set_option maxRecDepth 100000 in
set_option maxHeartbeats 2000000 in
theorem jwr1 (h : JW n w0 D J d hf ep ct w) (o : DsOk k0 d) (hk : k0 ≤ 900) (p I Z : Nat) (i : Int) (s : ByteArray) (hp : Bx D p (.cells #[.pointer (some ⟨J, 0, none⟩)] 30 (0, 0)) w) (hi : Bx D I (.cells #[.int .i64 i] 3 (0, 0)) w) (hz : Bx D Z (.cells #[.string s] 9 (0, 0)) w) :
    Calls Tryz.prog 45 #[.pointer (some ⟨p, 0, none⟩), .pointer (some ⟨I, 0, none⟩), .pointer (some ⟨Z, 0, none⟩)] w (PI n w0 D (d.wrt i s) (d.wrE i s) w) := by
  have hbd : Below w.heap.size w w.drew := (Below.refl _ w).drew
  have HV := Lib.hid (h.below hbd)
  have HP := Lib.hid (hp.below hbd h.dw.lt)
  have HI := Lib.hid (hi.below hbd h.dw.lt)
  have HZ := Lib.hid (hz.below hbd h.dw.lt)
  have HK := Lib.hid (Kd.of_below hbd h.dw.lt)
  have HWR := Lib.hid (fun (W : World) (q : DW n w0 D d W) => pwrite q o (by omega) i s)
  obtain ⟨e2, he2⟩ : ∃ e, e = d.wrE i s := ⟨_, rfl⟩
  obtain ⟨d2, hd2⟩ : ∃ x, x = d.wrt i s := ⟨_, rfl⟩
  rw [← he2, ← hd2] at HWR ⊢
  clear hbd h hp hi hz he2 hd2 o
  go_enter Tryz.func45, Tryz.ntmps45
  go_upto_region 1 with (fail)
  refine wp_region_L_drew (S := fun _ W => W.heap[p]? = some (.cells #[.pointer (some ⟨J, 0, none⟩)] 30 (0, 0)) ∧ W.heap[I]? = some (.cells #[.int .i64 i] 3 (0, 0)) ∧ W.heap[Z]? = some (.cells #[.string s] 9 (0, 0)) ∧ W.heap[J]? = some (jnO D hf ep ct)) (by kernel_rfl) ⟨HP.out.1, HI.out.1, HZ.out.1, HV.out.bx⟩ (fun hS hC => ?_)
  generalize w.drew = v0 at *
  refine wpAnyL_take (i := 0) (oi := { dst := some 4, op := .load 30 (.tmp 0), type := _, pos := _, after := _, guard := none }) (v := ?_) rfl (by kernel_rfl) (by kernel_rfl) (by kernel_rfl) (fun _ _ _ h => h) (fun _ _ => Iff.rfl) hC (Or.inl ⟨by rfl, ?_⟩) ⟨HP.out.1, HI.out.1, HZ.out.1, HV.out.bx⟩ (fun hC hS => ?_)
  rotate_left
  · intro W9 hSw; have q0 := (cell_of_row _ _ 0 _ _ _ hSw.choose_spec.2.2.1).trans rfl; go_simp; try (with_reducible rfl)
  try simp only [Act.put, List.setIfInBounds_toArray, List.set_cons_zero, List.set_cons_succ]
  refine wpAnyL_take (i := 1) (oi := { dst := some 5, op := .nilCheck (.tmp 4), type := _, pos := _, after := _, guard := none }) (v := ?_) rfl (by kernel_rfl) (by kernel_rfl) (by kernel_rfl) (fun _ _ _ h => h) (fun _ _ => Iff.rfl) hC (Or.inl ⟨by rfl, ?_⟩) ⟨HP.out.1, HI.out.1, HZ.out.1, HV.out.bx⟩ (fun hC hS => ?_)
  rotate_left
  · intro W9 hSw; skip; go_simp; try (with_reducible rfl)
  try simp only [Act.put, List.setIfInBounds_toArray, List.set_cons_zero, List.set_cons_succ]
  refine wpAnyL_take (i := 2) (oi := { dst := some 6, op := .fieldAddr 33 (.tmp 5) 0, type := _, pos := _, after := _, guard := none }) (v := ?_) rfl (by kernel_rfl) (by kernel_rfl) (by kernel_rfl) (fun _ _ _ h => h) (fun _ _ => Iff.rfl) hC (Or.inl ⟨by rfl, ?_⟩) ⟨HP.out.1, HI.out.1, HZ.out.1, HV.out.bx⟩ (fun hC hS => ?_)
  rotate_left
  · intro W9 hSw; skip; go_simp; try (with_reducible rfl)
  try simp only [Act.put, List.setIfInBounds_toArray, List.set_cons_zero, List.set_cons_succ]
  refine wpAnyL_take (i := 3) (oi := { dst := some 7, op := .load 31 (.tmp 6), type := _, pos := _, after := _, guard := none }) (v := ?_) rfl (by kernel_rfl) (by kernel_rfl) (by kernel_rfl) (fun _ _ _ h => h) (fun _ _ => Iff.rfl) hC (Or.inl ⟨by rfl, ?_⟩) ⟨HP.out.1, HI.out.1, HZ.out.1, HV.out.bx⟩ (fun hC hS => ?_)
  rotate_left
  · intro W9 hSw; have q0 := (cell_of_row _ _ 0 _ _ _ hSw.choose_spec.2.2.2.2.2).trans rfl; go_simp; try (with_reducible rfl)
  try simp only [Act.put, List.setIfInBounds_toArray, List.set_cons_zero, List.set_cons_succ]
  refine wpAnyL_take (i := 4) (oi := { dst := some 8, op := .load 3 (.tmp 1), type := _, pos := _, after := _, guard := none }) (v := ?_) rfl (by kernel_rfl) (by kernel_rfl) (by kernel_rfl) (fun _ _ _ h => h) (fun _ _ => Iff.rfl) hC (Or.inl ⟨by rfl, ?_⟩) ⟨HP.out.1, HI.out.1, HZ.out.1, HV.out.bx⟩ (fun hC hS => ?_)
  rotate_left
  · intro W9 hSw; have q0 := (cell_of_row _ _ 0 _ _ _ hSw.choose_spec.2.2.2.1).trans rfl; go_simp; try (with_reducible rfl)
  try simp only [Act.put, List.setIfInBounds_toArray, List.set_cons_zero, List.set_cons_succ]
  refine wpAnyL_take (i := 5) (oi := { dst := some 9, op := .load 9 (.tmp 2), type := _, pos := _, after := _, guard := none }) (v := ?_) rfl (by kernel_rfl) (by kernel_rfl) (by kernel_rfl) (fun _ _ _ h => h) (fun _ _ => Iff.rfl) hC (Or.inl ⟨by rfl, ?_⟩) ⟨HP.out.1, HI.out.1, HZ.out.1, HV.out.bx⟩ (fun hC hS => ?_)
  rotate_left
  · intro W9 hSw; have q0 := (cell_of_row _ _ 0 _ _ _ hSw.choose_spec.2.2.2.2.1).trans rfl; go_simp; try (with_reducible rfl)
  try simp only [Act.put, List.setIfInBounds_toArray, List.set_cons_zero, List.set_cons_succ]
  refine wpAnyL_ready (rs := [6]) (by kernel_rfl) (by simp) hC ?_
  refine AllReadyL.cons (o := { dst := some 10, op := .call { callee := .value (.func 46), args := #[.tmp 7, .tmp 8, .tmp 9], argTypes := #[31, 3, 9] }, type := _, pos := _, after := _, guard := none }) rfl (fun K9 hK => ?_) ?_
  · skip
    go_simp
    refine (HWR.out _ HV.out.dw).mono ?_
    rintro e v1 ⟨rfl, hd, hk2⟩
    have HV := Lib.hid (HV.out.kd hd hk2)
    have HP := Lib.hid (HP.out.kd hk2)
    have HI := Lib.hid (HI.out.kd hk2)
    have HZ := Lib.hid (HZ.out.kd hk2)
    have HK := Lib.hid (HK.out.trans hk2)
    clear hd hk2
    refine hK _ _ ⟨HP.out.1, HI.out.1, HZ.out.1, HV.out.bx⟩ (fun hC => ?_)
    clear hK K9
    try simp only [Act.put, List.setIfInBounds_toArray, List.set_cons_zero, List.set_cons_succ]
    refine wpAnyL_take (i := 7) (oi := { dst := some 3, op := .assign (.tmp 10), type := _, pos := _, after := _, guard := none }) (v := ?_) rfl (by kernel_rfl) (by kernel_rfl) (by kernel_rfl) (fun _ _ _ h => h) (fun _ _ => Iff.rfl) hC (Or.inl ⟨by rfl, ?_⟩) ⟨HP.out.1, HI.out.1, HZ.out.1, HV.out.bx⟩ (fun hC hS => ?_)
    rotate_left
    · intro W9 hSw; skip; go_simp; try (with_reducible rfl)
    try simp only [Act.put, List.setIfInBounds_toArray, List.set_cons_zero, List.set_cons_succ]
    refine wpAnyL_done (by kernel_rfl) ?_ _
    clear hS hC
    go_wp2_with fail
    go_ret
    exact ⟨rfl, HV.out.dw, HK.out⟩
  exact AllReadyL.nil
/-- a write as a function's value -/
def wrF (p : Nat) : Value := .func (.func 45) #[] #[.pointer (some ⟨p, 0, none⟩), .pointer (some ⟨p + 1, 0, none⟩), .pointer (some ⟨p + 2, 0, none⟩)]
/-- the boxes that it holds -/
structure WrB (D J p : Nat) (i : Int) (s : ByteArray) (w : World) : Prop where
  a : Bx D p (.cells #[.pointer (some ⟨J, 0, none⟩)] 30 (0, 0)) w
  b : Bx D (p + 1) (.cells #[.int .i64 i] 3 (0, 0)) w
  c : Bx D (p + 2) (.cells #[.string s] 9 (0, 0)) w
theorem WrB.kd {p : Nat} {i : Int} {s : ByteArray} (h : WrB D J p i s w) (k : Kd D w w') : WrB D J p i s w' := ⟨h.a.kd k, h.b.kd k, h.c.kd k⟩
theorem jwrite_any (h : JW n w0 D J d hf ep ct w) (i : Int) (s : ByteArray) :
    Calls Tryz.prog 23 #[.pointer (some ⟨J, 0, none⟩), .int .i64 i, .string s] w fun e w' => e = .returned (wrF w.heap.size) ∧ WrB D J w.heap.size i s w' ∧ Below w.heap.size w w' := by
  have HBn := Lib.hid ((((Below.refl w.heap.size w).alloc (Nat.le_refl _) (.cells #[.pointer (some ⟨J, 0, none⟩)] 30 (0, 0))).alloc (by simp) (.cells #[.int .i64 i] 3 (0, 0))).alloc (by simp; omega) (.cells #[.string s] 9 (0, 0)))
  have HX := Lib.hid (blk_alloc (blk_alloc (blk_new w (.cells #[.pointer (some ⟨J, 0, none⟩)] 30 (0, 0))) (.cells #[.int .i64 i] 3 (0, 0))) (.cells #[.string s] 9 (0, 0)))
  have HI := Lib.hid (blk_alloc (two_blk w (.cells #[.pointer (some ⟨J, 0, none⟩)] 30 (0, 0)) (.cells #[.int .i64 i] 3 (0, 0))) (.cells #[.string s] 9 (0, 0)))
  have HZ := Lib.hid (three_blk w (.cells #[.pointer (some ⟨J, 0, none⟩)] 30 (0, 0)) (.cells #[.int .i64 i] 3 (0, 0)) (.cells #[.string s] 9 (0, 0)))
  have hno : ∀ b, w.heap.size ≤ b → ¬ InD D (((w.alloc (.cells #[.pointer (some ⟨J, 0, none⟩)] 30 (0, 0))).alloc (.cells #[.int .i64 i] 3 (0, 0))).alloc (.cells #[.string s] 9 (0, 0))) b := fun b hb q => by have := h.dw.dk.new (q.back HBn.out h.dw.lt); omega
  have HNO := Lib.hid hno
  clear h hno
  go_enter Tryz.func23, Tryz.ntmps23
  go_wp2_with fail
  go_ret
  exact ⟨rfl, ⟨⟨HX.out, HNO.out _ (Nat.le_refl _)⟩, ⟨HI.out, HNO.out _ (by omega)⟩, ⟨HZ.out, HNO.out _ (by omega)⟩⟩, HBn.out⟩
end
end Go.Proofs.YtagenkofoacajaaGreatDoor

namespace Go.Proofs.YtagenkofoacajaaGreatDoor
open Go.RowKit Vi

/-- a step of a disk: a write, or a flush -/
def jop (d : Ds) : Option Wr → Ds × Int
  | none => (d.fls, d.flE)
  | some x => (d.wrt x.1 x.2, d.wrE x.1 x.2)
/-- steps, up to the first error -/
def jst : List (Option Wr) → Ds → Ds × Int
  | [], d => (d, 0)
  | o :: r, d => if (jop d o).2 ≠ 0 then jop d o else jst r (jop d o).1
theorem jst_no {o : Option Wr} {r : List (Option Wr)} {d : Ds} {R : Ds × Int} (h : jst (o :: r) d = R) (q : (jop d o).2 ≠ 0) : R = jop d o := by rw [jst, if_pos q] at h; exact h.symm
theorem jst_yes {o : Option Wr} {r : List (Option Wr)} {d : Ds} {R : Ds × Int} (h : jst (o :: r) d = R) (q : (jop d o).2 = 0) : jst r (jop d o).1 = R := by rw [jst, if_neg (fun h => h q)] at h; exact h
theorem jop_ok {k : Nat} {d : Ds} (h : DsOk k d) (o : Option Wr) : DsOk (k + 1) (jop d o).1 := by
  cases o with
  | none => exact h.fls
  | some x => exact h.wrt x.1 x.2
def flF (D : Nat) : Value := .func (.func 24) #[.pointer (some ⟨D, 0, none⟩)] #[]
section
variable {n : Nat} {w0 : World} {D J : Nat} {d : Ds} {hf ep ct : Int} {w : World} {k0 : Nat}
theorem jopw (h : JW n w0 D J d hf ep ct w) (o : DsOk k0 d) (hk : k0 ≤ 900) (p : Nat) (x : Wr) (hp : WrB D J p x.1 x.2 w) : Calls Tryz.prog 45 #[.pointer (some ⟨p, 0, none⟩), .pointer (some ⟨p + 1, 0, none⟩), .pointer (some ⟨p + 2, 0, none⟩)] w fun e w' => e = .returned (.int .i64 (jop d (some x)).2) ∧ JW n w0 D J (jop d (some x)).1 hf ep ct w' ∧ Kd D w w' :=
  (jwr1 h o hk p (p + 1) (p + 2) x.1 x.2 hp.a hp.b hp.c).mono fun _ _ ⟨h1, h2, h3⟩ => ⟨h1, h.kd h2 h3, h3⟩
theorem jopf (h : JW n w0 D J d hf ep ct w) (o : DsOk k0 d) (hk : k0 ≤ 900) : Calls Tryz.prog 24 #[.pointer (some ⟨D, 0, none⟩)] w fun e w' => e = .returned (.int .i64 (jop d none).2) ∧ JW n w0 D J (jop d none).1 hf ep ct w' ∧ Kd D w w' :=
  (pflush h.dw o (by omega)).mono fun _ _ ⟨h1, h2, h3⟩ => ⟨h1, h.kd h2 h3, h3⟩
set_option maxRecDepth 100000 in
set_option maxHeartbeats 4000000 in
theorem jsteps_any (B c p1 p2 : Nat) (x1 x2 : Wr) (h : JW n w0 D J d hf ep ct w) (o : DsOk k0 d) (hk : k0 ≤ 890) (h1 : WrB D J p1 x1.1 x1.2 w) (h2 : WrB D J p2 x2.1 x2.2 w) (hB : Bx D B (.cells #[wrF p1, flF D, wrF p2, flF D] 60 (0, 0)) w) :
    Calls Tryz.prog 22 #[.slice (some ⟨B, 0, none⟩) 4 c] w fun e w' => e = .returned (.int .i64 (jst [some x1, none, some x2, none] d).2) ∧ JW n w0 D J (jst [some x1, none, some x2, none] d).1 hf ep ct w' ∧ Kd D w w' := by
  obtain ⟨R, hR⟩ : ∃ R, R = jst [some x1, none, some x2, none] d := ⟨_, rfl⟩
  rw [← hR]
  have HR := Lib.hid hR.symm
  have HJ := Lib.hid h
  have HO := Lib.hid o
  have H1 := Lib.hid h1
  have H2 := Lib.hid h2
  have HB := Lib.hid hB
  clear hR h o h1 h2 hB
  go_enter Tryz.func22, Tryz.ntmps22
  go_wp2_with fail
  go_loopw [8] (fun i wr => ∃ (k : Nat) (x : Ds), i = .int .i64 (k : Int) ∧ k ≤ 4 ∧ DsOk (k0 + k) x ∧ jst ([some x1, none, some x2, none].drop k) x = R ∧ JW n w0 D J x hf ep ct wr ∧ Kd D w wr) (fun i _ => 4 - (intOf i).toNat)
  case atStart => exact ⟨0, d, rfl, Nat.zero_le _, HO.out, HR.out, HJ.out, Kd.refl _ _⟩
  case round =>
    obtain ⟨k, x, rfl, hkc, hok, hl, hjw, hkd⟩ := hrel
    clear HR HJ HO
    have HO := Lib.hid hok
    have HL := Lib.hid hl
    have HJ := Lib.hid hjw
    have HK := Lib.hid hkd
    have HBk := Lib.hid (HB.out.kd hkd)
    clear hok hl hjw hkd
    rcases (show k = 0 ∨ k = 1 ∨ k = 2 ∨ k = 3 ∨ k = 4 by omega) with rfl | rfl | rfl | rfl | rfl
    · have y0 : wr.cell? ⟨B, 0, none⟩ = some (wrF p1) := (cell_of_row _ _ 0 _ _ _ HBk.out.1).trans rfl
      have HNO := Lib.hid (fun q => jst_no (o := (some x1)) HL.out q)
      have HYES := Lib.hid (fun q => jst_yes (o := (some x1)) HL.out q)
      have HO2 := Lib.hid (jop_ok HO.out (some x1))
      have HP := jopw HJ.out HO.out (by omega) p1 x1 (H1.out.kd HK.out)
      obtain ⟨y, hy⟩ : ∃ y, y = jop x (some x1) := ⟨_, rfl⟩
      rw [← hy] at HP HNO HYES HO2
      clear hy HL
      unfold wrF at y0
      go_wp2_with fail
      clear y0
      refine HP.mono ?_
      rintro e w2 ⟨rfl, hj2, hk2⟩
      have HJ2 := Lib.hid hj2
      have HK2 := Lib.hid (HK.out.trans hk2)
      clear hj2 hk2 HP HJ HK HBk
      by_cases hq : y.2 = 0
      · have hz1 : (y.2 != 0) = false := by simpa using hq
        have HY2 := Lib.hid (HYES.out hq)
        clear HNO HYES hq
        go_wp2_with fail
        go_roundw
        case rel => exact ⟨1, y.1, by go_num, by omega, HO2.out, HY2.out, HJ2.out, HK2.out⟩
        case measure => simp [intOf]
      · have hz2 : (y.2 != 0) = true := by simpa using hq
        have HN2 := Lib.hid (HNO.out hq)
        clear HNO HYES hq
        go_wp2_with fail
        go_ret
        exact ⟨dk_retI (by rw [HN2.out]), by rw [HN2.out]; exact HJ2.out, HK2.out⟩
    · have y0 : wr.cell? ⟨B, 1, none⟩ = some (flF D) := (cell_of_row _ _ 1 _ _ _ HBk.out.1).trans rfl
      have HNO := Lib.hid (fun q => jst_no (o := none) HL.out q)
      have HYES := Lib.hid (fun q => jst_yes (o := none) HL.out q)
      have HO2 := Lib.hid (jop_ok HO.out none)
      have HP := jopf HJ.out HO.out (by omega)
      obtain ⟨y, hy⟩ : ∃ y, y = jop x none := ⟨_, rfl⟩
      rw [← hy] at HP HNO HYES HO2
      clear hy HL
      unfold flF at y0
      go_wp2_with fail
      clear y0
      refine HP.mono ?_
      rintro e w2 ⟨rfl, hj2, hk2⟩
      have HJ2 := Lib.hid hj2
      have HK2 := Lib.hid (HK.out.trans hk2)
      clear hj2 hk2 HP HJ HK HBk
      by_cases hq : y.2 = 0
      · have hz1 : (y.2 != 0) = false := by simpa using hq
        have HY2 := Lib.hid (HYES.out hq)
        clear HNO HYES hq
        go_wp2_with fail
        go_roundw
        case rel => exact ⟨2, y.1, by go_num, by omega, HO2.out, HY2.out, HJ2.out, HK2.out⟩
        case measure => simp [intOf]
      · have hz2 : (y.2 != 0) = true := by simpa using hq
        have HN2 := Lib.hid (HNO.out hq)
        clear HNO HYES hq
        go_wp2_with fail
        go_ret
        exact ⟨dk_retI (by rw [HN2.out]), by rw [HN2.out]; exact HJ2.out, HK2.out⟩
    · have y0 : wr.cell? ⟨B, 2, none⟩ = some (wrF p2) := (cell_of_row _ _ 2 _ _ _ HBk.out.1).trans rfl
      have HNO := Lib.hid (fun q => jst_no (o := (some x2)) HL.out q)
      have HYES := Lib.hid (fun q => jst_yes (o := (some x2)) HL.out q)
      have HO2 := Lib.hid (jop_ok HO.out (some x2))
      have HP := jopw HJ.out HO.out (by omega) p2 x2 (H2.out.kd HK.out)
      obtain ⟨y, hy⟩ : ∃ y, y = jop x (some x2) := ⟨_, rfl⟩
      rw [← hy] at HP HNO HYES HO2
      clear hy HL
      unfold wrF at y0
      go_wp2_with fail
      clear y0
      refine HP.mono ?_
      rintro e w2 ⟨rfl, hj2, hk2⟩
      have HJ2 := Lib.hid hj2
      have HK2 := Lib.hid (HK.out.trans hk2)
      clear hj2 hk2 HP HJ HK HBk
      by_cases hq : y.2 = 0
      · have hz1 : (y.2 != 0) = false := by simpa using hq
        have HY2 := Lib.hid (HYES.out hq)
        clear HNO HYES hq
        go_wp2_with fail
        go_roundw
        case rel => exact ⟨3, y.1, by go_num, by omega, HO2.out, HY2.out, HJ2.out, HK2.out⟩
        case measure => simp [intOf]
      · have hz2 : (y.2 != 0) = true := by simpa using hq
        have HN2 := Lib.hid (HNO.out hq)
        clear HNO HYES hq
        go_wp2_with fail
        go_ret
        exact ⟨dk_retI (by rw [HN2.out]), by rw [HN2.out]; exact HJ2.out, HK2.out⟩
    · have y0 : wr.cell? ⟨B, 3, none⟩ = some (flF D) := (cell_of_row _ _ 3 _ _ _ HBk.out.1).trans rfl
      have HNO := Lib.hid (fun q => jst_no (o := none) HL.out q)
      have HYES := Lib.hid (fun q => jst_yes (o := none) HL.out q)
      have HO2 := Lib.hid (jop_ok HO.out none)
      have HP := jopf HJ.out HO.out (by omega)
      obtain ⟨y, hy⟩ : ∃ y, y = jop x none := ⟨_, rfl⟩
      rw [← hy] at HP HNO HYES HO2
      clear hy HL
      unfold flF at y0
      go_wp2_with fail
      clear y0
      refine HP.mono ?_
      rintro e w2 ⟨rfl, hj2, hk2⟩
      have HJ2 := Lib.hid hj2
      have HK2 := Lib.hid (HK.out.trans hk2)
      clear hj2 hk2 HP HJ HK HBk
      by_cases hq : y.2 = 0
      · have hz1 : (y.2 != 0) = false := by simpa using hq
        have HY2 := Lib.hid (HYES.out hq)
        clear HNO HYES hq
        go_wp2_with fail
        go_roundw
        case rel => exact ⟨4, y.1, by go_num, by omega, HO2.out, HY2.out, HJ2.out, HK2.out⟩
        case measure => simp [intOf]
      · have hz2 : (y.2 != 0) = true := by simpa using hq
        have HN2 := Lib.hid (HNO.out hq)
        clear HNO HYES hq
        go_wp2_with fail
        go_ret
        exact ⟨dk_retI (by rw [HN2.out]), by rw [HN2.out]; exact HJ2.out, HK2.out⟩
    · have HR := Lib.hid (show R = (x, 0) from HL.out.symm)
      clear HL HBk
      go_wp2_with fail
      go_ret
      exact ⟨dk_retI (by rw [HR.out]), by rw [HR.out]; exact HJ.out, HK.out⟩
end
end Go.Proofs.YtagenkofoacajaaGreatDoor

namespace Go.Proofs.YtagenkofoacajaaGreatDoor
open Go.RowKit Vi Ar Cm

theorem repJ : (⟨(Lib.repeatL [(0 : UInt8)] 128).toArray⟩ : ByteArray) = noZ := repZ
section
variable {n : Nat} {w0 : World} {D J : Nat} {d : Ds} {hf ep ct : Int} {w : World} {k0 : Nat}
/-- what a record that is appended does -/
def japS (d : Ds) (a1 a2 ep ct k : Int) (x o y : ByteArray) (t u : Int) : Ds × Int := jst [some (a1, noZ), none, some (a2, recS ep ct k x o y t u), none] d
set_option maxRecDepth 100000 in
set_option maxHeartbeats 8000000 in
theorem jappend_yes (h : JW n w0 D J d hf ep ct w) (ok : DsOk k0 d) (hk0 : k0 ≤ 890) (hT : Tab w) (e0 s0 k : Int) (x o y : ByteArray) (t u a1 a2 : Int) (hr : rok ep ct k x o y t u = true) (hc0 : 0 ≤ ct) (hc1 : ct ≤ 100000) (h1 : pl (d.S.length : Int) hf (ct + 1) = .tuple #[.int .i64 a1, .int .i64 0]) (h2 : pl (d.S.length : Int) hf ct = .tuple #[.int .i64 a2, .int .i64 0]) :
    Calls Tryz.prog 10 #[.pointer (some ⟨J, 0, none⟩), .agg #[.int .i64 e0, .int .i64 s0, .int .i64 k, .string x, .string o, .string y, .int .i64 t, .int .i64 u]] w fun e w' => e = .returned (.int .i64 (japS d a1 a2 ep ct k x o y t u).2) ∧ JW n w0 D J (japS d a1 a2 ep ct k x o y t u).1 hf ep (if (japS d a1 a2 ep ct k x o y t u).2 = 0 then ct + 1 else ct) w' := by
  obtain ⟨Z, hZ⟩ : ∃ Z, Z = japS d a1 a2 ep ct k x o y t u := ⟨_, rfl⟩
  rw [← hZ]
  have HZ := Lib.hid hZ
  have hb0 : Below w.heap.size w (w.alloc (.cells #[.int .i64 e0, .int .i64 s0, .int .i64 k, .string x, .string o, .string y, .int .i64 t, .int .i64 u] 25 (0, 0))) := (Below.refl _ _).alloc (Nat.le_refl _) _
  have HV := Lib.hid (h.below hb0)
  have HF := Lib.hid (blk_new w (.cells #[.int .i64 e0, .int .i64 s0, .int .i64 k, .string x, .string o, .string y, .int .i64 t, .int .i64 u] 25 (0, 0)))
  have HB := Lib.hid hb0
  have hnr : ¬ InD D (w.alloc (.cells #[.int .i64 e0, .int .i64 s0, .int .i64 k, .string x, .string o, .string y, .int .i64 t, .int .i64 u] 25 (0, 0))) w.heap.size := fun q => by have := h.dw.dk.new (q.back hb0 h.dw.lt); omega
  have HNR := Lib.hid hnr
  have hrn := h.dw.sz
  have hJr : J ≠ w.heap.size := fun e => by have := lt_of_block h.bx; omega
  have HT := Lib.hid hT
  have HRK := Lib.hid hr
  have hl1 : d.S.length ≤ 4096 := ok.s2
  have HP1 := Lib.hid (fun (W : World) (q : JW n w0 D J d hf ep ct W) => jplace_any q hl1 (ct + 1) a1 0 (by omega) (by omega) h1)
  have HP2 := Lib.hid (fun (W : World) (q : JW n w0 D J d hf ep ct W) => jplace_any q hl1 ct a2 0 (by omega) (by omega) h2)
  have HRP := Lib.hid (fun W : World => Tryz.strings_Repeat ⟨#[0]⟩ 128 W (by omega) (by show 1 * 128 ≤ _; omega))
  have HREP := Lib.hid repJ
  have ew : IntKind.i64.wrap (ct + 1) = ct + 1 := IntWalk.i64_in _ (by omega)
  have HST := Lib.hid (fun (W : World) (B c p1 p2 : Nat) (q : JW n w0 D J d hf ep ct W) (g1 : WrB D J p1 a1 noZ W) (g2 : WrB D J p2 a2 (recS ep ct k x o y t u) W) (gB : Bx D B (.cells #[wrF p1, flF D, wrF p2, flF D] 60 (0, 0)) W) => (by have y := jsteps_any B c p1 p2 (a1, noZ) (a2, recS ep ct k x o y t u) q ok hk0 g1 g2 gB; rw [hZ]; exact y : Calls Tryz.prog 22 #[.slice (some ⟨B, 0, none⟩) 4 c] W fun e w' => e = .returned (.int .i64 Z.2) ∧ JW n w0 D J Z.1 hf ep ct w' ∧ Kd D W w'))
  obtain ⟨v, hv⟩ : ∃ v, v = w.alloc (.cells #[.int .i64 e0, .int .i64 s0, .int .i64 k, .string x, .string o, .string y, .int .i64 t, .int .i64 u] 25 (0, 0)) := ⟨_, rfl⟩
  have HVV := Lib.hid hv
  rw [← hv] at HV HF HB HNR
  have HMD := Lib.hid (jmade_any HV.out)
  clear h ok hT hr h1 h2 hb0 hnr hv hZ
  go_enter Tryz.func10, Tryz.ntmps10
  go_upto_region 1 with (fail)
  rw [← HVV.out]
  clear HVV
  generalize hrr : w.heap.size = r at *
  go_wp2_with fail
  refine HMD.out.mono ?_
  rintro e w' ⟨rfl, rfl⟩
  clear HMD
  go_upto_region 3 with (fail)
  have HV := Lib.hid (HV.out.below (Below.refl _ _).drew)
  have HF := Lib.hid (show v.drew.heap[r]? = some (.cells #[.int .i64 e0, .int .i64 s0, .int .i64 k, .string x, .string o, .string y, .int .i64 t, .int .i64 u] 25 (0, 0)) from HF.out)
  have HNR : Hid (¬ InD D v.drew r) := Lib.hid (fun q => HNR.out q)
  have HB := Lib.hid HB.out.drew
  refine wp_region_L_drew (S := fun _ W => W.heap[J]? = some (jnO D hf ep ct)) (by kernel_rfl) HV.out.bx (fun hS hC => ?_)
  generalize v.drew = v0 at *
  refine wpAnyL_take (i := 0) (oi := { dst := some 14, op := .move (.tmp 0), type := _, pos := _, after := _, guard := none }) (v := ?_) rfl (by kernel_rfl) (by kernel_rfl) (by kernel_rfl) (fun _ _ _ h => h) (fun _ _ => Iff.rfl) hC (Or.inl ⟨by rfl, ?_⟩) HV.out.bx (fun hC hS => ?_)
  rotate_left
  · intro W9 hSw; skip; go_simp; try (with_reducible rfl)
  try simp only [Act.put, List.setIfInBounds_toArray, List.set_cons_zero, List.set_cons_succ]
  refine wpAnyL_take (i := 1) (oi := { dst := some 15, op := .nilCheck (.tmp 14), type := _, pos := _, after := _, guard := none }) (v := ?_) rfl (by kernel_rfl) (by kernel_rfl) (by kernel_rfl) (fun _ _ _ h => h) (fun _ _ => Iff.rfl) hC (Or.inl ⟨by rfl, ?_⟩) HV.out.bx (fun hC hS => ?_)
  rotate_left
  · intro W9 hSw; skip; go_simp; try (with_reducible rfl)
  try simp only [Act.put, List.setIfInBounds_toArray, List.set_cons_zero, List.set_cons_succ]
  refine wpAnyL_take (i := 2) (oi := { dst := some 16, op := .fieldAddr 33 (.tmp 15) 2, type := _, pos := _, after := _, guard := none }) (v := ?_) rfl (by kernel_rfl) (by kernel_rfl) (by kernel_rfl) (fun _ _ _ h => h) (fun _ _ => Iff.rfl) hC (Or.inl ⟨by rfl, ?_⟩) HV.out.bx (fun hC hS => ?_)
  rotate_left
  · intro W9 hSw; skip; go_simp; try (with_reducible rfl)
  try simp only [Act.put, List.setIfInBounds_toArray, List.set_cons_zero, List.set_cons_succ]
  refine wpAnyL_take (i := 3) (oi := { dst := some 17, op := .load 3 (.tmp 16), type := _, pos := _, after := _, guard := none }) (v := ?_) rfl (by kernel_rfl) (by kernel_rfl) (by kernel_rfl) (fun _ _ _ h => h) (fun _ _ => Iff.rfl) hC (Or.inl ⟨by rfl, ?_⟩) HV.out.bx (fun hC hS => ?_)
  rotate_left
  · intro W9 hSw; have q0 := (cell_of_row _ _ 2 _ _ _ hSw.choose_spec.2.2).trans rfl; go_simp; try (with_reducible rfl)
  try simp only [Act.put, List.setIfInBounds_toArray, List.set_cons_zero, List.set_cons_succ]
  refine wpAnyL_take (i := 4) (oi := { dst := some 18, op := .move (.tmp 0), type := _, pos := _, after := _, guard := none }) (v := ?_) rfl (by kernel_rfl) (by kernel_rfl) (by kernel_rfl) (fun _ _ _ h => h) (fun _ _ => Iff.rfl) hC (Or.inl ⟨by rfl, ?_⟩) HV.out.bx (fun hC hS => ?_)
  rotate_left
  · intro W9 hSw; skip; go_simp; try (with_reducible rfl)
  try simp only [Act.put, List.setIfInBounds_toArray, List.set_cons_zero, List.set_cons_succ]
  refine wpAnyL_take (i := 5) (oi := { dst := some 19, op := .nilCheck (.tmp 18), type := _, pos := _, after := _, guard := none }) (v := ?_) rfl (by kernel_rfl) (by kernel_rfl) (by kernel_rfl) (fun _ _ _ h => h) (fun _ _ => Iff.rfl) hC (Or.inl ⟨by rfl, ?_⟩) HV.out.bx (fun hC hS => ?_)
  rotate_left
  · intro W9 hSw; skip; go_simp; try (with_reducible rfl)
  try simp only [Act.put, List.setIfInBounds_toArray, List.set_cons_zero, List.set_cons_succ]
  refine wpAnyL_take (i := 6) (oi := { dst := some 20, op := .fieldAddr 33 (.tmp 19) 3, type := _, pos := _, after := _, guard := none }) (v := ?_) rfl (by kernel_rfl) (by kernel_rfl) (by kernel_rfl) (fun _ _ _ h => h) (fun _ _ => Iff.rfl) hC (Or.inl ⟨by rfl, ?_⟩) HV.out.bx (fun hC hS => ?_)
  rotate_left
  · intro W9 hSw; skip; go_simp; try (with_reducible rfl)
  try simp only [Act.put, List.setIfInBounds_toArray, List.set_cons_zero, List.set_cons_succ]
  refine wpAnyL_take (i := 7) (oi := { dst := some 21, op := .load 3 (.tmp 20), type := _, pos := _, after := _, guard := none }) (v := ?_) rfl (by kernel_rfl) (by kernel_rfl) (by kernel_rfl) (fun _ _ _ h => h) (fun _ _ => Iff.rfl) hC (Or.inl ⟨by rfl, ?_⟩) HV.out.bx (fun hC hS => ?_)
  rotate_left
  · intro W9 hSw; have q0 := (cell_of_row _ _ 3 _ _ _ hSw.choose_spec.2.2).trans rfl; go_simp; try (with_reducible rfl)
  try simp only [Act.put, List.setIfInBounds_toArray, List.set_cons_zero, List.set_cons_succ]
  refine wpAnyL_take (i := 8) (oi := { dst := some 22, op := .fieldAddr 25 (.tmp 3) 0, type := _, pos := _, after := _, guard := none }) (v := ?_) rfl (by kernel_rfl) (by kernel_rfl) (by kernel_rfl) (fun _ _ _ h => h) (fun _ _ => Iff.rfl) hC (Or.inl ⟨by rfl, ?_⟩) HV.out.bx (fun hC hS => ?_)
  rotate_left
  · intro W9 hSw; skip; go_simp; try (with_reducible rfl)
  try simp only [Act.put, List.setIfInBounds_toArray, List.set_cons_zero, List.set_cons_succ]
  refine wpAnyL_ready (rs := [9]) (by kernel_rfl) (by simp) hC ?_
  refine AllReadyL.cons (o := { dst := none, op := .store 3 (.tmp 22) (.tmp 17), type := _, pos := _, after := _, guard := none }) rfl (fun K9 hK => ?_) ?_
  · skip
    have y0 : v0.cell? ⟨r, 0, none⟩ = some (.int .i64 e0) := (cell_of_row _ _ 0 _ _ _ HF.out).trans rfl
    have z0 : v0.frozen? ⟨r, 0, none⟩ = false := frozen_of_row _ _ _ _ _ HF.out
    go_simp
    clear y0 z0
    have HF1 : Hid ((v0.setCell ⟨r, 0, none⟩ (.int .i64 ep)).heap[r]? = some (.cells #[.int .i64 ep, .int .i64 s0, .int .i64 k, .string x, .string o, .string y, .int .i64 t, .int .i64 u] 25 (0, 0))) := Lib.hid (by have q := heap_setCell_at (i := 0) (u := .int .i64 ep) HF.out; exact q)
    have HK1 := Lib.hid ((KK.refl [r] v0).set (b := r) (by simp) 0 (.int .i64 ep))
    refine hK _ _ (HK1.out.blk HV.out.bx (by simpa using hJr)) (fun hC => ?_)
    clear hK K9
    try simp only [Act.put, List.setIfInBounds_toArray, List.set_cons_zero, List.set_cons_succ]
    refine wpAnyL_take (i := 10) (oi := { dst := some 23, op := .fieldAddr 25 (.tmp 3) 1, type := _, pos := _, after := _, guard := none }) (v := ?_) rfl (by kernel_rfl) (by kernel_rfl) (by kernel_rfl) (fun _ _ _ h => h) (fun _ _ => Iff.rfl) hC (Or.inl ⟨by rfl, ?_⟩) (HK1.out.blk HV.out.bx (by simpa using hJr)) (fun hC hS => ?_)
    rotate_left
    · intro W9 hSw; skip; go_simp; try (with_reducible rfl)
    try simp only [Act.put, List.setIfInBounds_toArray, List.set_cons_zero, List.set_cons_succ]
    refine wpAnyL_ready (rs := [11]) (by kernel_rfl) (by simp) hC ?_
    refine AllReadyL.cons (o := { dst := none, op := .store 3 (.tmp 23) (.tmp 21), type := _, pos := _, after := _, guard := none }) rfl (fun K9 hK => ?_) ?_
    · skip
      have y0 : (v0.setCell ⟨r, 0, none⟩ (.int .i64 ep)).cell? ⟨r, 1, none⟩ = some (.int .i64 s0) := (cell_of_row _ _ 1 _ _ _ HF1.out).trans rfl
      have z0 : (v0.setCell ⟨r, 0, none⟩ (.int .i64 ep)).frozen? ⟨r, 1, none⟩ = false := frozen_of_row _ _ _ _ _ HF1.out
      go_simp
      clear y0 z0
      have HF2 : Hid (((v0.setCell ⟨r, 0, none⟩ (.int .i64 ep)).setCell ⟨r, 1, none⟩ (.int .i64 ct)).heap[r]? = some (.cells #[.int .i64 ep, .int .i64 ct, .int .i64 k, .string x, .string o, .string y, .int .i64 t, .int .i64 u] 25 (0, 0))) := Lib.hid (by have q := heap_setCell_at (i := 1) (u := .int .i64 ct) HF1.out; exact q)
      have HK2 := Lib.hid (HK1.out.set (b := r) (by simp) 1 (.int .i64 ct))
      refine hK _ _ (HK2.out.blk HV.out.bx (by simpa using hJr)) (fun hC => ?_)
      clear hK K9
      try simp only [Act.put, List.setIfInBounds_toArray, List.set_cons_zero, List.set_cons_succ]
      refine wpAnyL_done (by kernel_rfl) ?_ _
      clear hS hC
      have HV2 := Lib.hid (HV.out.kk HK2.out HNR.out hrn hJr)
      have HB2 : Hid (Below r w ((v0.setCell ⟨r, 0, none⟩ (.int .i64 ep)).setCell ⟨r, 1, none⟩ (.int .i64 ct))) := Lib.hid (HK2.out.below HB.out (fun b hb => by have e : b = r := (by simpa using hb); omega) (by have := HB.out.size; omega))
      have HT2 := Lib.hid (HT.out.later (by rw [hrr]; exact HB2.out))
      clear HV HB HF HF1 HK1 HK2 HNR HT
      generalize ((v0.setCell ⟨r, 0, none⟩ (.int .i64 ep)).setCell ⟨r, 1, none⟩ (.int .i64 ct)) = v1 at *
      have y0 : v1.cell? ⟨r, 0, none⟩ = _ := (cell_of_row _ _ 0 _ _ _ HF2.out).trans rfl
      have y1 : v1.cell? ⟨r, 1, none⟩ = _ := (cell_of_row _ _ 1 _ _ _ HF2.out).trans rfl
      have y2 : v1.cell? ⟨r, 2, none⟩ = _ := (cell_of_row _ _ 2 _ _ _ HF2.out).trans rfl
      have y3 : v1.cell? ⟨r, 3, none⟩ = _ := (cell_of_row _ _ 3 _ _ _ HF2.out).trans rfl
      have y4 : v1.cell? ⟨r, 4, none⟩ = _ := (cell_of_row _ _ 4 _ _ _ HF2.out).trans rfl
      have y5 : v1.cell? ⟨r, 5, none⟩ = _ := (cell_of_row _ _ 5 _ _ _ HF2.out).trans rfl
      have y6 : v1.cell? ⟨r, 6, none⟩ = _ := (cell_of_row _ _ 6 _ _ _ HF2.out).trans rfl
      have y7 : v1.cell? ⟨r, 7, none⟩ = _ := (cell_of_row _ _ 7 _ _ _ HF2.out).trans rfl
      go_wp2_with fail
      clear y0 y1 y2 y3 y4 y5 y6 y7 HF2
      refine (erput_yes ep ct k x o y t u v1 HT2.out HRK.out).mono ?_
      rintro e w1 ⟨rfl, hb⟩
      have HV3 := Lib.hid (HV2.out.below hb)
      clear hb HV2 HB2 HT2
      generalize recS ep ct k x o y t u = rs at *
      have c3 := HV3.out.c3
      go_wp2_with fail
      clear c3
      refine (HP1.out _ HV3.out).mono ?_
      rintro e w2 ⟨rfl, hb⟩
      have HV4 := Lib.hid (HV3.out.below hb)
      clear hb HV3
      have c3 := HV4.out.c3
      go_wp2_with fail
      clear c3
      refine (HP2.out _ HV4.out).mono ?_
      rintro e w3 ⟨rfl, hb⟩
      have HV5 := Lib.hid (HV4.out.below hb)
      clear hb HV4
      go_wp2_with fail
      refine (HRP.out _).mono ?_
      rintro e w4 ⟨he, hb⟩
      rw [HREP.out] at he
      subst he
      have HV6 := Lib.hid (HV5.out.below hb)
      clear hb HV5
      go_upto_region 12 with (fail)
      have HV := Lib.hid (HV6.out.below (Below.refl _ _).drew)
      clear HV6
      refine wp_region_L_drew (S := fun _ W => W.heap[J]? = some (jnO D hf ep ct)) (by kernel_rfl) HV.out.bx (fun hS hC => ?_)
      generalize w4.drew = v0 at *
      refine wpAnyL_take (i := 0) (oi := { dst := some 54, op := .move (.tmp 0), type := _, pos := _, after := _, guard := none }) (v := ?_) rfl (by kernel_rfl) (by kernel_rfl) (by kernel_rfl) (fun _ _ _ h => h) (fun _ _ => Iff.rfl) hC (Or.inl ⟨by rfl, ?_⟩) HV.out.bx (fun hC hS => ?_)
      rotate_left
      · intro W9 hSw; skip; go_simp; try (with_reducible rfl)
      try simp only [Act.put, List.setIfInBounds_toArray, List.set_cons_zero, List.set_cons_succ]
      refine wpAnyL_take (i := 1) (oi := { dst := some 55, op := .move (.tmp 7), type := _, pos := _, after := _, guard := none }) (v := ?_) rfl (by kernel_rfl) (by kernel_rfl) (by kernel_rfl) (fun _ _ _ h => h) (fun _ _ => Iff.rfl) hC (Or.inl ⟨by rfl, ?_⟩) HV.out.bx (fun hC hS => ?_)
      rotate_left
      · intro W9 hSw; skip; go_simp; try (with_reducible rfl)
      try simp only [Act.put, List.setIfInBounds_toArray, List.set_cons_zero, List.set_cons_succ]
      refine wpAnyL_take (i := 2) (oi := { dst := some 56, op := .move (.tmp 10), type := _, pos := _, after := _, guard := none }) (v := ?_) rfl (by kernel_rfl) (by kernel_rfl) (by kernel_rfl) (fun _ _ _ h => h) (fun _ _ => Iff.rfl) hC (Or.inl ⟨by rfl, ?_⟩) HV.out.bx (fun hC hS => ?_)
      rotate_left
      · intro W9 hSw; skip; go_simp; try (with_reducible rfl)
      try simp only [Act.put, List.setIfInBounds_toArray, List.set_cons_zero, List.set_cons_succ]
      refine wpAnyL_take (i := 4) (oi := { dst := some 58, op := .move (.tmp 0), type := _, pos := _, after := _, guard := none }) (v := ?_) rfl (by kernel_rfl) (by kernel_rfl) (by kernel_rfl) (fun _ _ _ h => h) (fun _ _ => Iff.rfl) hC (Or.inl ⟨by rfl, ?_⟩) HV.out.bx (fun hC hS => ?_)
      rotate_left
      · intro W9 hSw; skip; go_simp; try (with_reducible rfl)
      try simp only [Act.put, List.setIfInBounds_toArray, List.set_cons_zero, List.set_cons_succ]
      refine wpAnyL_take (i := 5) (oi := { dst := some 59, op := .nilCheck (.tmp 58), type := _, pos := _, after := _, guard := none }) (v := ?_) rfl (by kernel_rfl) (by kernel_rfl) (by kernel_rfl) (fun _ _ _ h => h) (fun _ _ => Iff.rfl) hC (Or.inl ⟨by rfl, ?_⟩) HV.out.bx (fun hC hS => ?_)
      rotate_left
      · intro W9 hSw; skip; go_simp; try (with_reducible rfl)
      try simp only [Act.put, List.setIfInBounds_toArray, List.set_cons_zero, List.set_cons_succ]
      refine wpAnyL_take (i := 6) (oi := { dst := some 60, op := .fieldAddr 33 (.tmp 59) 0, type := _, pos := _, after := _, guard := none }) (v := ?_) rfl (by kernel_rfl) (by kernel_rfl) (by kernel_rfl) (fun _ _ _ h => h) (fun _ _ => Iff.rfl) hC (Or.inl ⟨by rfl, ?_⟩) HV.out.bx (fun hC hS => ?_)
      rotate_left
      · intro W9 hSw; skip; go_simp; try (with_reducible rfl)
      try simp only [Act.put, List.setIfInBounds_toArray, List.set_cons_zero, List.set_cons_succ]
      refine wpAnyL_take (i := 7) (oi := { dst := some 61, op := .load 31 (.tmp 60), type := _, pos := _, after := _, guard := none }) (v := ?_) rfl (by kernel_rfl) (by kernel_rfl) (by kernel_rfl) (fun _ _ _ h => h) (fun _ _ => Iff.rfl) hC (Or.inl ⟨by rfl, ?_⟩) HV.out.bx (fun hC hS => ?_)
      rotate_left
      · intro W9 hSw; have q0 := (cell_of_row _ _ 0 _ _ _ hSw.choose_spec.2.2).trans rfl; go_simp; try (with_reducible rfl)
      try simp only [Act.put, List.setIfInBounds_toArray, List.set_cons_zero, List.set_cons_succ]
      refine wpAnyL_take (i := 8) (oi := { dst := some 62, op := .makeFunc (.func 24) #[.tmp 61] #[], type := _, pos := _, after := _, guard := none }) (v := ?_) rfl (by kernel_rfl) (by kernel_rfl) (by kernel_rfl) (fun _ _ _ h => h) (fun _ _ => Iff.rfl) hC (Or.inl ⟨by rfl, ?_⟩) HV.out.bx (fun hC hS => ?_)
      rotate_left
      · intro W9 hSw; skip; go_simp; try (with_reducible rfl)
      try simp only [Act.put, List.setIfInBounds_toArray, List.set_cons_zero, List.set_cons_succ]
      refine wpAnyL_take (i := 9) (oi := { dst := some 63, op := .move (.tmp 0), type := _, pos := _, after := _, guard := none }) (v := ?_) rfl (by kernel_rfl) (by kernel_rfl) (by kernel_rfl) (fun _ _ _ h => h) (fun _ _ => Iff.rfl) hC (Or.inl ⟨by rfl, ?_⟩) HV.out.bx (fun hC hS => ?_)
      rotate_left
      · intro W9 hSw; skip; go_simp; try (with_reducible rfl)
      try simp only [Act.put, List.setIfInBounds_toArray, List.set_cons_zero, List.set_cons_succ]
      refine wpAnyL_take (i := 10) (oi := { dst := some 64, op := .move (.tmp 8), type := _, pos := _, after := _, guard := none }) (v := ?_) rfl (by kernel_rfl) (by kernel_rfl) (by kernel_rfl) (fun _ _ _ h => h) (fun _ _ => Iff.rfl) hC (Or.inl ⟨by rfl, ?_⟩) HV.out.bx (fun hC hS => ?_)
      rotate_left
      · intro W9 hSw; skip; go_simp; try (with_reducible rfl)
      try simp only [Act.put, List.setIfInBounds_toArray, List.set_cons_zero, List.set_cons_succ]
      refine wpAnyL_take (i := 11) (oi := { dst := some 65, op := .move (.tmp 5), type := _, pos := _, after := _, guard := none }) (v := ?_) rfl (by kernel_rfl) (by kernel_rfl) (by kernel_rfl) (fun _ _ _ h => h) (fun _ _ => Iff.rfl) hC (Or.inl ⟨by rfl, ?_⟩) HV.out.bx (fun hC hS => ?_)
      rotate_left
      · intro W9 hSw; skip; go_simp; try (with_reducible rfl)
      try simp only [Act.put, List.setIfInBounds_toArray, List.set_cons_zero, List.set_cons_succ]
      refine wpAnyL_take (i := 13) (oi := { dst := some 67, op := .move (.tmp 0), type := _, pos := _, after := _, guard := none }) (v := ?_) rfl (by kernel_rfl) (by kernel_rfl) (by kernel_rfl) (fun _ _ _ h => h) (fun _ _ => Iff.rfl) hC (Or.inl ⟨by rfl, ?_⟩) HV.out.bx (fun hC hS => ?_)
      rotate_left
      · intro W9 hSw; skip; go_simp; try (with_reducible rfl)
      try simp only [Act.put, List.setIfInBounds_toArray, List.set_cons_zero, List.set_cons_succ]
      refine wpAnyL_take (i := 14) (oi := { dst := some 68, op := .nilCheck (.tmp 67), type := _, pos := _, after := _, guard := none }) (v := ?_) rfl (by kernel_rfl) (by kernel_rfl) (by kernel_rfl) (fun _ _ _ h => h) (fun _ _ => Iff.rfl) hC (Or.inl ⟨by rfl, ?_⟩) HV.out.bx (fun hC hS => ?_)
      rotate_left
      · intro W9 hSw; skip; go_simp; try (with_reducible rfl)
      try simp only [Act.put, List.setIfInBounds_toArray, List.set_cons_zero, List.set_cons_succ]
      refine wpAnyL_take (i := 15) (oi := { dst := some 69, op := .fieldAddr 33 (.tmp 68) 0, type := _, pos := _, after := _, guard := none }) (v := ?_) rfl (by kernel_rfl) (by kernel_rfl) (by kernel_rfl) (fun _ _ _ h => h) (fun _ _ => Iff.rfl) hC (Or.inl ⟨by rfl, ?_⟩) HV.out.bx (fun hC hS => ?_)
      rotate_left
      · intro W9 hSw; skip; go_simp; try (with_reducible rfl)
      try simp only [Act.put, List.setIfInBounds_toArray, List.set_cons_zero, List.set_cons_succ]
      refine wpAnyL_take (i := 16) (oi := { dst := some 70, op := .load 31 (.tmp 69), type := _, pos := _, after := _, guard := none }) (v := ?_) rfl (by kernel_rfl) (by kernel_rfl) (by kernel_rfl) (fun _ _ _ h => h) (fun _ _ => Iff.rfl) hC (Or.inl ⟨by rfl, ?_⟩) HV.out.bx (fun hC hS => ?_)
      rotate_left
      · intro W9 hSw; have q0 := (cell_of_row _ _ 0 _ _ _ hSw.choose_spec.2.2).trans rfl; go_simp; try (with_reducible rfl)
      try simp only [Act.put, List.setIfInBounds_toArray, List.set_cons_zero, List.set_cons_succ]
      refine wpAnyL_take (i := 17) (oi := { dst := some 71, op := .makeFunc (.func 24) #[.tmp 70] #[], type := _, pos := _, after := _, guard := none }) (v := ?_) rfl (by kernel_rfl) (by kernel_rfl) (by kernel_rfl) (fun _ _ _ h => h) (fun _ _ => Iff.rfl) hC (Or.inl ⟨by rfl, ?_⟩) HV.out.bx (fun hC hS => ?_)
      rotate_left
      · intro W9 hSw; skip; go_simp; try (with_reducible rfl)
      try simp only [Act.put, List.setIfInBounds_toArray, List.set_cons_zero, List.set_cons_succ]
      refine wpAnyL_ready (rs := [3]) (by kernel_rfl) (by simp) hC ?_
      refine AllReadyL.cons (o := { dst := some 57, op := .call { callee := .value (.func 23), args := #[.tmp 54, .tmp 55, .tmp 56], argTypes := #[30, 3, 9] }, type := _, pos := _, after := _, guard := none }) rfl (fun K9 hK => ?_) ?_
      · skip
        go_simp
        refine (jwrite_any HV.out a1 noZ).mono ?_
        rintro e v1 ⟨rfl, hw, hb⟩
        have HV := Lib.hid (HV.out.below hb)
        have HG1 := Lib.hid hw
        clear hw hb
        generalize v0.heap.size = p1 at *
        simp only [wrF]
        refine hK _ _ HV.out.bx (fun hC => ?_)
        clear hK K9
        try simp only [Act.put, List.setIfInBounds_toArray, List.set_cons_zero, List.set_cons_succ]
        refine wpAnyL_ready (rs := [12]) (by kernel_rfl) (by simp) hC ?_
        refine AllReadyL.cons (o := { dst := some 66, op := .call { callee := .value (.func 23), args := #[.tmp 63, .tmp 64, .tmp 65], argTypes := #[30, 3, 9] }, type := _, pos := _, after := _, guard := none }) rfl (fun K9 hK => ?_) ?_
        · skip
          go_simp
          refine (jwrite_any HV.out a2 rs).mono ?_
          rintro e v2 ⟨rfl, hw, hb⟩
          have HG1 := Lib.hid (HG1.out.kd (Kd.of_below hb HV.out.dw.lt))
          have HV := Lib.hid (HV.out.below hb)
          have HG2 := Lib.hid hw
          clear hw hb
          generalize v1.heap.size = p2 at *
          simp only [wrF]
          refine hK _ _ HV.out.bx (fun hC => ?_)
          clear hK K9
          try simp only [Act.put, List.setIfInBounds_toArray, List.set_cons_zero, List.set_cons_succ]
          refine wpAnyL_ready (rs := [18]) (by kernel_rfl) (by simp) hC ?_
          refine AllReadyL.cons (o := { dst := some 72, op := .buildSlice 90 4 #[(0, .tmp 57), (1, .tmp 62), (2, .tmp 66), (3, .tmp 71)], type := _, pos := _, after := _, guard := none }) rfl (fun K9 hK => ?_) ?_
          · skip
            go_simp
            have hb : Below v2.heap.size v2 (v2.alloc (.cells #[wrF p1, flF D, wrF p2, flF D] 60 (0, 0))) := (Below.refl _ _).alloc (Nat.le_refl _) _
            have hnb : ¬ InD D (v2.alloc (.cells #[wrF p1, flF D, wrF p2, flF D] 60 (0, 0))) v2.heap.size := fun q => by have := HV.out.dw.dk.new (q.back hb HV.out.dw.lt); omega
            have HGB : Hid (Bx D v2.heap.size (.cells #[wrF p1, flF D, wrF p2, flF D] 60 (0, 0)) (v2.alloc (.cells #[wrF p1, flF D, wrF p2, flF D] 60 (0, 0)))) := Lib.hid ⟨blk_new v2 _, hnb⟩
            have HG1 := Lib.hid (HG1.out.kd (Kd.of_below hb HV.out.dw.lt))
            have HG2 := Lib.hid (HG2.out.kd (Kd.of_below hb HV.out.dw.lt))
            have HV := Lib.hid (HV.out.below hb)
            clear hb hnb
            refine hK _ _ HV.out.bx (fun hC => ?_)
            clear hK K9
            try simp only [Act.put, List.setIfInBounds_toArray, List.set_cons_zero, List.set_cons_succ]
            refine wpAnyL_ready (rs := [19]) (by kernel_rfl) (by simp) hC ?_
            refine AllReadyL.cons (o := { dst := some 73, op := .call { callee := .value (.func 22), args := #[.tmp 72], argTypes := #[90] }, type := _, pos := _, after := _, guard := none }) rfl (fun K9 hK => ?_) ?_
            · skip
              go_simp
              refine (HST.out _ v2.heap.size 4 p1 p2 HV.out HG1.out HG2.out HGB.out).mono ?_
              rintro e v3 ⟨rfl, hj, _⟩
              have HV := Lib.hid hj
              clear hj HG1 HG2 HGB
              refine hK _ _ HV.out.bx (fun hC => ?_)
              clear hK K9
              try simp only [Act.put, List.setIfInBounds_toArray, List.set_cons_zero, List.set_cons_succ]
              refine wpAnyL_take (i := 20) (oi := { dst := some 6, op := .assign (.tmp 73), type := _, pos := _, after := _, guard := none }) (v := ?_) rfl (by kernel_rfl) (by kernel_rfl) (by kernel_rfl) (fun _ _ _ h => h) (fun _ _ => Iff.rfl) hC (Or.inl ⟨by rfl, ?_⟩) HV.out.bx (fun hC hS => ?_)
              rotate_left
              · intro W9 hSw; skip; go_simp; try (with_reducible rfl)
              try simp only [Act.put, List.setIfInBounds_toArray, List.set_cons_zero, List.set_cons_succ]
              refine wpAnyL_done (by kernel_rfl) ?_ _
              clear hS hC
              by_cases hz : Z.2 = 0
              · have hz1 : (Z.2 == 0) = true := by simpa using hz
                have c3 := HV.out.c3
                have f3 := HV.out.fz 3
                have HV9 := Lib.hid (HV.out.set (ct + 1))
                go_wp2_with fail
                go_ret
                exact ⟨rfl, HV9.out⟩
              · have hz1 : (Z.2 == 0) = false := by simpa using hz
                go_wp2_with fail
                go_ret
                exact ⟨rfl, HV.out⟩
            exact AllReadyL.nil
          exact AllReadyL.nil
        exact AllReadyL.nil
      exact AllReadyL.nil
    exact AllReadyL.nil
  exact AllReadyL.nil
end
end Go.Proofs.YtagenkofoacajaaGreatDoor

namespace Go.Proofs.YtagenkofoacajaaGreatDoor
open Go.RowKit Vi Ar Cm

theorem results_cttJ {fn : Func} {p t u : Tmp} {ty : TypeId} (h : fn.results = #[.cell p ty, .tmp t, .tmp u]) (tmps : Array Value) (w : World) (g : Nat) (cs : Array Value)
    (hp : tmps.getD p undef = .pointer (some ⟨g, 0, none⟩)) (hr : (loadVar ty ⟨g, 0, none⟩).run Tryz.prog w = .ok (.agg cs) w) :
    (results fn tmps).run Tryz.prog w = .ok (.tuple #[.agg cs, tmps.getD t undef, tmps.getD u undef]) w := by
  have hp' : tmps[p]?.getD undef = .pointer (some ⟨g, 0, none⟩) := by simpa using hp
  simp [results, h, hp', asAddr, hr]
theorem results_t3J {fn : Func} {s t u : Tmp} (h : fn.results = #[.tmp s, .tmp t, .tmp u]) (tmps : Array Value) (w : World) :
    (results fn tmps).run Tryz.prog w = .ok (.tuple #[tmps.getD s undef, tmps.getD t undef, tmps.getD u undef]) w := by
  simp [results, h]
theorem step_storeJ {ops : Array Oper} {o : Oper} {a : Act} {K : Act → World → Prop} {Q : Exit → Act → World → Prop} {E : Prop} {w : World} (hgd : o.guard = none) (ty : TypeId) (x y : Operand) (ho : o.op = .store ty x y)
    (g : Nat) (cells : Array Value) (hx : a.eval x = .pointer (some ⟨g, 0, none⟩)) (hy : a.eval y = .agg cells)
    (t : TypeId) (old : Array Value) (hg : w.heap[g]? = some (.cells old t (0, 0))) (hi : (Tryz.prog.info? ty).map (·.size) = some cells.size)
    (hold : old.size = cells.size) (h1 : cells.all (·.oneCell') = true) (n : Nat) (w0 : World) (hb : Below n w0 w) (hn : n ≤ g)
    (h : ∀ w', Hid (w'.heap[g]? = some (.cells cells t (0, 0))) → Hid (∀ k, k ≠ g → w'.heap[k]? = w.heap[k]?) → Hid (Below n w0 w') → K (a.put o.dst undef) w') :
    if Region.wanted o (yielded ops a.tmps) = true then Oper.wp Tryz.prog o a w K Q else E := by
  have hw : Region.wanted o (yielded ops a.tmps) = true := by simp [Region.wanted, hgd]
  rw [if_pos hw]
  exact wp_store_row ty x y ho g cells hx hy t old hg hi hold h1 (h _ (setRow_heap w g old cells t (0, 0) hg) (fun k hk => setRow_other w g k cells hk) (below_setRow hb hn cells))
theorem noz_noughts : noughts 128 = noZ := repJ
theorem noz_norec : ¬ IsRec noZ := by
  rw [← noz_noughts]
  rintro ⟨a, b, k, x, o, n, t, u, h, hs⟩
  have hf := (rec_front h).2
  rw [← hs] at hf
  have h1 := congrArg ByteArray.size hf
  rw [sealH_size] at h1
  have h2 : (bareT (noughts 128)).size = 0 := by decide +kernel
  omega
theorem Tab.dwJ {n : Nat} {w0 w : World} {D : Nat} {d : Ds} (h : DW n w0 D d w) (hT : Tab w0) (hg : 1 < n) : Tab w := fun j hj => by
  rw [World.cell?_of_block (h.bel.block _ hg)]
  exact hT j hj
section
variable {n : Nat} {w0 : World} {D J : Nat} {d : Ds} {w : World} {k0 : Nat}
/-- a journal is there -/
def AtP (n : Nat) (w0 : World) (D : Nat) (d : Ds) (h ep ct : Int) (w : World) (e : Ending) (w' : World) : Prop := ∃ J, e = .returned (.tuple #[.pointer (some ⟨J, 0, none⟩), .int .i64 0]) ∧ JW n w0 D J d h ep ct w' ∧ Below w.heap.size w w' ∧ w.heap.size ≤ J
set_option maxRecDepth 100000 in
set_option maxHeartbeats 2000000 in
theorem jat_yes (h : DW n w0 D d w) (o : DsOk k0 d) (hh ep ct : Int) (hq : hh = 0 ∨ hh = 1) (he1 : 1 ≤ ep) (he2 : ep ≤ 4294967295) (hc1 : 0 ≤ ct) (hc2 : ct ≤ Ar.hf (d.S.length : Int)) :
    Calls Tryz.prog 9 #[.pointer (some ⟨D, 0, none⟩), .int .i64 hh, .int .i64 ep, .int .i64 ct] w (AtP n w0 D d hh ep ct w) := by
  have hs1 : 16 ≤ d.S.length := o.s1
  have hs2 : d.S.length ≤ 4096 := o.s2
  have hb0 : Below w.heap.size w (w.alloc (jnO D hh ep ct)) := (Below.refl _ _).alloc (Nat.le_refl _) _
  have HB := Lib.hid hb0
  have HJ : Hid (JW n w0 D w.heap.size d hh ep ct (w.alloc (jnO D hh ep ct))) := Lib.hid ⟨h.below hb0, blk_new w _, fun q => by have := h.dk.new (q.back hb0 h.lt); omega, h.sz⟩
  obtain ⟨N, hN⟩ : ∃ N : Nat, N = d.S.length := ⟨_, rfl⟩
  have HS := Lib.hid (by have y := h.sizeIs; rw [← hN] at y; exact y : Calls Tryz.prog 16 #[.pointer (some ⟨D, 0, none⟩)] w fun e w' => e = .returned (.int .i64 (N : Int)) ∧ w = w')
  rw [← hN] at hs1 hs2 hc2
  have HH := Lib.hid (fun W : World => half_any (N : Int) W (by omega) (by omega))
  obtain ⟨m, hm⟩ : ∃ m, m = Ar.hf (N : Int) := ⟨_, rfl⟩
  rw [← hm] at HH hc2
  have d0 : ((N : Int) == 0) = false := by rw [beq_eq_false_iff_ne]; omega
  have d1 : decide (ep < 1) = false := decide_eq_false (by omega)
  have d2 : decide (ep > 4294967295) = false := decide_eq_false (by omega)
  have d2' : decide (4294967295 < ep) = false := decide_eq_false (by omega)
  have d3 : decide (ct < 0) = false := decide_eq_false (by omega)
  have d4 : decide (ct > m) = false := decide_eq_false (by omega)
  have d4' : decide (m < ct) = false := decide_eq_false (by omega)
  clear h o hb0 hN hm
  rcases hq with rfl | rfl
  all_goals
    go_enter Tryz.func9, Tryz.ntmps9
    go_wp2_with fail
    refine HS.out.mono ?_
    rintro e w' ⟨rfl, rfl⟩
    go_wp2_with fail
    refine HS.out.mono ?_
    rintro e w' ⟨rfl, rfl⟩
    go_wp2_with fail
    refine (HH.out _).mono ?_
    rintro e w' ⟨rfl, rfl⟩
    go_wp2_with fail
    go_ret2
    exact ⟨_, rfl, HJ.out, HB.out, Nat.le_refl _⟩
end
section
variable {n : Nat} {w0 : World} {D J : Nat} {S : List ByteArray} {C : List Wr} {ar op : Int} {hh ep ct : Int} {w : World} {k0 : Nat}
set_option maxRecDepth 100000 in
set_option maxHeartbeats 8000000 in
set_option linter.unusedSimpArgs false in
theorem jnext_no (h : JW n w0 D J ⟨S, C, ar, false, op⟩ hh ep ct w) (ok : DsOk k0 ⟨S, C, ar, false, op⟩) (hk0 : k0 ≤ 900) (hT : Tab w0) (hg : 1 < n) (a : Int) (hc0 : 0 ≤ ct) (hc1 : ct ≤ 100000) (hp : pl (S.length : Int) hh ct = .tuple #[.int .i64 a, .int .i64 0]) (ha0 : 0 ≤ a) (ha1 : a < (S.length : Int)) (hX : (shw S C a).size ≤ 1000) (hno : ¬ IsRec (shw S C a)) :
    Calls Tryz.prog 15 #[.pointer (some ⟨J, 0, none⟩)] w fun e w' => e = .returned (.tuple #[.agg #[.int .i64 0, .int .i64 0, .int .i64 0, .string ⟨#[]⟩, .string ⟨#[]⟩, .string ⟨#[]⟩, .int .i64 0, .int .i64 0], .bool false, .int .i64 0]) ∧ JW n w0 D J ⟨S, C, ar, false, op + 1⟩ hh ep ct w' ∧ Kd D w w' := by
  have hb0 : Below w.heap.size w (w.alloc (.cells #[.int .i64 0, .int .i64 0, .int .i64 0, .string ⟨#[]⟩, .string ⟨#[]⟩, .string ⟨#[]⟩, .int .i64 0, .int .i64 0] 25 (0, 0))) := (Below.refl _ _).alloc (Nat.le_refl _) _
  have HV := Lib.hid (h.below hb0)
  have hnr : ¬ InD D (w.alloc (.cells #[.int .i64 0, .int .i64 0, .int .i64 0, .string ⟨#[]⟩, .string ⟨#[]⟩, .string ⟨#[]⟩, .int .i64 0, .int .i64 0] 25 (0, 0))) w.heap.size := fun q => by have := h.dw.dk.new (q.back hb0 h.dw.lt); omega
  have HR : Hid (Bx D w.heap.size (.cells #[.int .i64 0, .int .i64 0, .int .i64 0, .string ⟨#[]⟩, .string ⟨#[]⟩, .string ⟨#[]⟩, .int .i64 0, .int .i64 0] 25 (0, 0)) (w.alloc (.cells #[.int .i64 0, .int .i64 0, .int .i64 0, .string ⟨#[]⟩, .string ⟨#[]⟩, .string ⟨#[]⟩, .int .i64 0, .int .i64 0] 25 (0, 0)))) := Lib.hid ⟨blk_new w _, hnr⟩
  have HK := Lib.hid (Kd.of_below hb0 h.dw.lt)
  have HT := Lib.hid hT
  have hJr : J ≠ w.heap.size := fun e => by have := lt_of_block h.bx; omega
  have hDr : D < w.heap.size := h.dw.lt
  have HPL := Lib.hid (fun (W : World) (q : JW n w0 D J ⟨S, C, ar, false, op⟩ hh ep ct W) => jplace_any q ok.s2 ct a 0 (by omega) (by omega) hp)
  have hcl : C.length ≤ 4096 + k0 := ok.c
  have ho1 : 0 ≤ op := ok.o1
  have ho2 : op ≤ (k0 : Int) := ok.o2
  have HRD := Lib.hid (fun (W : World) (q : JW n w0 D J ⟨S, C, ar, false, op⟩ hh ep ct W) => dread_up D S C op ar a W q.dw.dk ⟨ha0, ha1⟩ (by omega) ⟨by omega, by omega⟩)
  have HIS := Lib.hid (fun (W : World) (q : Tab W) => eis_no (shw S C a) ep ct W q hX hno)
  generalize shw S C a = X at HRD HIS
  obtain ⟨v, hv⟩ : ∃ v, v = w.alloc (.cells #[.int .i64 0, .int .i64 0, .int .i64 0, .string ⟨#[]⟩, .string ⟨#[]⟩, .string ⟨#[]⟩, .int .i64 0, .int .i64 0] 25 (0, 0)) := ⟨_, rfl⟩
  have HVV := Lib.hid hv
  rw [← hv] at HV HR HK
  have hwr := h.dw.sz
  clear h ok hT hp hX hno hb0 hnr hv
  go_enter Tryz.func15, Tryz.ntmps15
  go_upto_region 1 with (fail)
  rw [← HVV.out]
  clear HVV
  generalize hrr : w.heap.size = rr at *
  have c3 := HV.out.c3
  go_wp2_with fail
  clear c3
  refine (HPL.out _ HV.out).mono ?_
  rintro e w1 ⟨rfl, hb⟩
  have HR := Lib.hid (HR.out.below hb HV.out.dw.lt)
  have HK := Lib.hid (HK.out.trans (Kd.of_below hb HV.out.dw.lt))
  have HV := Lib.hid (HV.out.below hb)
  clear hb HPL
  have c0 := HV.out.c0
  go_wp2_with fail
  clear c0
  refine (HRD.out _ HV.out).mono ?_
  rintro e w2 ⟨rfl, hd, hk⟩
  have HR := Lib.hid (HR.out.kd hk)
  have HK := Lib.hid (HK.out.trans hk)
  have HV : Hid (JW n w0 D J ⟨S, C, ar, false, op + 1⟩ hh ep ct w2) := Lib.hid (HV.out.kd (HV.out.dw.kd (d' := ⟨S, C, ar, false, op + 1⟩) hk hd) hk)
  clear hd hk HRD
  go_upto_region 5 with (fail)
  have hbd : Below w2.heap.size w2 w2.drew := (Below.refl _ _).drew
  have HR := Lib.hid (HR.out.below hbd HV.out.dw.lt)
  have HK := Lib.hid (HK.out.trans (Kd.of_below hbd HV.out.dw.lt))
  have HV := Lib.hid (HV.out.below hbd)
  clear hbd
  refine wp_region_L_drew (S := fun _ W => W.heap[J]? = some (jnO D hh ep ct)) (by kernel_rfl) HV.out.bx (fun hS hC => ?_)
  generalize w2.drew = v0 at *
  have HB0 := Lib.hid (Below.refl v0.heap.size v0)
  refine wpAnyL_take (i := 0) (oi := { dst := some 32, op := .move (.tmp 7), type := _, pos := _, after := _, guard := none }) (v := ?_) rfl (by kernel_rfl) (by kernel_rfl) (by kernel_rfl) (fun _ _ _ h => h) (fun _ _ => Iff.rfl) hC (Or.inl ⟨by rfl, ?_⟩) (HV.out.below HB0.out).bx (fun hC hS => ?_)
  rotate_left
  · intro W9 hSw; skip; go_simp; try (with_reducible rfl)
  try simp only [Act.put, List.setIfInBounds_toArray, List.set_cons_zero, List.set_cons_succ]
  refine wpAnyL_take (i := 1) (oi := { dst := some 33, op := .move (.tmp 0), type := _, pos := _, after := _, guard := none }) (v := ?_) rfl (by kernel_rfl) (by kernel_rfl) (by kernel_rfl) (fun _ _ _ h => h) (fun _ _ => Iff.rfl) hC (Or.inl ⟨by rfl, ?_⟩) (HV.out.below HB0.out).bx (fun hC hS => ?_)
  rotate_left
  · intro W9 hSw; skip; go_simp; try (with_reducible rfl)
  try simp only [Act.put, List.setIfInBounds_toArray, List.set_cons_zero, List.set_cons_succ]
  refine wpAnyL_take (i := 2) (oi := { dst := some 34, op := .nilCheck (.tmp 33), type := _, pos := _, after := _, guard := none }) (v := ?_) rfl (by kernel_rfl) (by kernel_rfl) (by kernel_rfl) (fun _ _ _ h => h) (fun _ _ => Iff.rfl) hC (Or.inl ⟨by rfl, ?_⟩) (HV.out.below HB0.out).bx (fun hC hS => ?_)
  rotate_left
  · intro W9 hSw; skip; go_simp; try (with_reducible rfl)
  try simp only [Act.put, List.setIfInBounds_toArray, List.set_cons_zero, List.set_cons_succ]
  refine wpAnyL_take (i := 3) (oi := { dst := some 35, op := .fieldAddr 33 (.tmp 34) 2, type := _, pos := _, after := _, guard := none }) (v := ?_) rfl (by kernel_rfl) (by kernel_rfl) (by kernel_rfl) (fun _ _ _ h => h) (fun _ _ => Iff.rfl) hC (Or.inl ⟨by rfl, ?_⟩) (HV.out.below HB0.out).bx (fun hC hS => ?_)
  rotate_left
  · intro W9 hSw; skip; go_simp; try (with_reducible rfl)
  try simp only [Act.put, List.setIfInBounds_toArray, List.set_cons_zero, List.set_cons_succ]
  refine wpAnyL_take (i := 4) (oi := { dst := some 36, op := .load 3 (.tmp 35), type := _, pos := _, after := _, guard := none }) (v := ?_) rfl (by kernel_rfl) (by kernel_rfl) (by kernel_rfl) (fun _ _ _ h => h) (fun _ _ => Iff.rfl) hC (Or.inl ⟨by rfl, ?_⟩) (HV.out.below HB0.out).bx (fun hC hS => ?_)
  rotate_left
  · intro W9 hSw; have q0 := (cell_of_row _ _ 2 _ _ _ hSw.choose_spec.2.2).trans rfl; go_simp; try (with_reducible rfl)
  try simp only [Act.put, List.setIfInBounds_toArray, List.set_cons_zero, List.set_cons_succ]
  refine wpAnyL_take (i := 5) (oi := { dst := some 37, op := .move (.tmp 0), type := _, pos := _, after := _, guard := none }) (v := ?_) rfl (by kernel_rfl) (by kernel_rfl) (by kernel_rfl) (fun _ _ _ h => h) (fun _ _ => Iff.rfl) hC (Or.inl ⟨by rfl, ?_⟩) (HV.out.below HB0.out).bx (fun hC hS => ?_)
  rotate_left
  · intro W9 hSw; skip; go_simp; try (with_reducible rfl)
  try simp only [Act.put, List.setIfInBounds_toArray, List.set_cons_zero, List.set_cons_succ]
  refine wpAnyL_take (i := 6) (oi := { dst := some 38, op := .nilCheck (.tmp 37), type := _, pos := _, after := _, guard := none }) (v := ?_) rfl (by kernel_rfl) (by kernel_rfl) (by kernel_rfl) (fun _ _ _ h => h) (fun _ _ => Iff.rfl) hC (Or.inl ⟨by rfl, ?_⟩) (HV.out.below HB0.out).bx (fun hC hS => ?_)
  rotate_left
  · intro W9 hSw; skip; go_simp; try (with_reducible rfl)
  try simp only [Act.put, List.setIfInBounds_toArray, List.set_cons_zero, List.set_cons_succ]
  refine wpAnyL_take (i := 7) (oi := { dst := some 39, op := .fieldAddr 33 (.tmp 38) 3, type := _, pos := _, after := _, guard := none }) (v := ?_) rfl (by kernel_rfl) (by kernel_rfl) (by kernel_rfl) (fun _ _ _ h => h) (fun _ _ => Iff.rfl) hC (Or.inl ⟨by rfl, ?_⟩) (HV.out.below HB0.out).bx (fun hC hS => ?_)
  rotate_left
  · intro W9 hSw; skip; go_simp; try (with_reducible rfl)
  try simp only [Act.put, List.setIfInBounds_toArray, List.set_cons_zero, List.set_cons_succ]
  refine wpAnyL_take (i := 8) (oi := { dst := some 40, op := .load 3 (.tmp 39), type := _, pos := _, after := _, guard := none }) (v := ?_) rfl (by kernel_rfl) (by kernel_rfl) (by kernel_rfl) (fun _ _ _ h => h) (fun _ _ => Iff.rfl) hC (Or.inl ⟨by rfl, ?_⟩) (HV.out.below HB0.out).bx (fun hC hS => ?_)
  rotate_left
  · intro W9 hSw; have q0 := (cell_of_row _ _ 3 _ _ _ hSw.choose_spec.2.2).trans rfl; go_simp; try (with_reducible rfl)
  try simp only [Act.put, List.setIfInBounds_toArray, List.set_cons_zero, List.set_cons_succ]
  refine wpAnyL_ready (rs := [9, 13]) (by kernel_rfl) (by simp) hC ?_
  refine AllReadyL.cons (o := { dst := some 41, op := .call { callee := .value (.func 30), args := #[.tmp 32, .tmp 36, .tmp 40], argTypes := #[9, 3, 3] }, type := _, pos := _, after := _, guard := none }) rfl (fun K9 hK => ?_) ?_
  · skip
    go_simp
    refine (HIS.out _ (Tab.dwJ (HV.out.below HB0.out).dw HT.out hg)).mono ?_
    rintro e v1 ⟨rfl, hb⟩
    have HB1 := Lib.hid (HB0.out.trans (hb.mono HB0.out.size))
    clear hb
    refine hK _ _ (HV.out.below HB1.out).bx (fun hC => ?_)
    clear hK K9
    try simp only [Act.put, List.setIfInBounds_toArray, List.set_cons_zero, List.set_cons_succ]
    refine wpAnyL_take (i := 10) (oi := { dst := some 31, op := .move (.tmp 41), type := _, pos := _, after := _, guard := none }) (v := ?_) rfl (by kernel_rfl) (by kernel_rfl) (by kernel_rfl) (fun _ _ _ h => h) (fun _ _ => Iff.rfl) hC (Or.inl ⟨by rfl, ?_⟩) (HV.out.below HB1.out).bx (fun hC hS => ?_)
    rotate_left
    · intro W9 hSw; skip; go_simp; try (with_reducible rfl)
    try simp only [Act.put, List.setIfInBounds_toArray, List.set_cons_zero, List.set_cons_succ]
    refine wpAnyL_take (i := 11) (oi := { dst := some 42, op := .extract (.tmp 31) 0, type := _, pos := _, after := _, guard := none }) (v := ?_) rfl (by kernel_rfl) (by kernel_rfl) (by kernel_rfl) (fun _ _ _ h => h) (fun _ _ => Iff.rfl) hC (Or.inl ⟨by rfl, ?_⟩) (HV.out.below HB1.out).bx (fun hC hS => ?_)
    rotate_left
    · intro W9 hSw; skip; go_simp; try (with_reducible rfl)
    try simp only [Act.put, List.setIfInBounds_toArray, List.set_cons_zero, List.set_cons_succ]
    refine wpAnyL_take (i := 12) (oi := { dst := some 43, op := .extract (.tmp 31) 1, type := _, pos := _, after := _, guard := none }) (v := ?_) rfl (by kernel_rfl) (by kernel_rfl) (by kernel_rfl) (fun _ _ _ h => h) (fun _ _ => Iff.rfl) hC (Or.inl ⟨by rfl, ?_⟩) (HV.out.below HB1.out).bx (fun hC hS => ?_)
    rotate_left
    · intro W9 hSw; skip; go_simp; try (with_reducible rfl)
    try simp only [Act.put, List.setIfInBounds_toArray, List.set_cons_zero, List.set_cons_succ]
    refine wpAnyL_ready (rs := [13]) (by kernel_rfl) (by simp) hC ?_
    refine AllReadyL.cons (o := { dst := some 8, op := .alloc 25, type := _, pos := _, after := _, guard := none }) rfl (fun K9 hK => ?_) ?_
    · skip
      go_simp
      have hb : Below v0.heap.size v0 (v1.alloc (.cells #[.int .i64 0, .int .i64 0, .int .i64 0, .string ⟨#[]⟩, .string ⟨#[]⟩, .string ⟨#[]⟩, .int .i64 0, .int .i64 0] 25 (0, 0))) := HB1.out.alloc HB1.out.size _
      have hx := blk_new v1 (.cells #[.int .i64 0, .int .i64 0, .int .i64 0, .string ⟨#[]⟩, .string ⟨#[]⟩, .string ⟨#[]⟩, .int .i64 0, .int .i64 0] 25 (0, 0))
      have hp9 : v0.heap.size ≤ v1.heap.size := HB1.out.size
      generalize v1.alloc (.cells #[.int .i64 0, .int .i64 0, .int .i64 0, .string ⟨#[]⟩, .string ⟨#[]⟩, .string ⟨#[]⟩, .int .i64 0, .int .i64 0] 25 (0, 0)) = v2 at *
      generalize v1.heap.size = p9 at *
      have HB2 := Lib.hid hb
      have HX := Lib.hid hx
      clear hb hx
      refine hK _ _ (HV.out.below HB2.out).bx (fun hC => ?_)
      clear hK K9
      try simp only [Act.put, List.setIfInBounds_toArray, List.set_cons_zero, List.set_cons_succ]
      refine wpAnyL_ready (rs := [14]) (by kernel_rfl) (by simp) hC ?_
      refine AllReadyL.cons (o := { dst := none, op := .store 25 (.tmp 8) (.tmp 42), type := _, pos := _, after := _, guard := none }) rfl (fun K9 hK => ?_) ?_
      · skip
        refine step_storeJ rfl 25 (.tmp 8) (.tmp 42) rfl (p9) recZ rfl rfl 25 _ HX.out (info_rec _ _ _ _ _ _ _ _) rfl (one_rec _ _ _ _ _ _ _ _) v0.heap.size v0 HB2.out (by omega) ?_
        intro v3 hk1 ho1 hb1
        refine hK _ _ (HV.out.below hb1.out).bx (fun hC => ?_)
        clear hK K9
        try simp only [Act.put, List.setIfInBounds_toArray, List.set_cons_zero, List.set_cons_succ]
        refine wpAnyL_take (i := 15) (oi := { dst := some 9, op := .assign (.tmp 43), type := _, pos := _, after := _, guard := none }) (v := ?_) rfl (by kernel_rfl) (by kernel_rfl) (by kernel_rfl) (fun _ _ _ h => h) (fun _ _ => Iff.rfl) hC (Or.inl ⟨by rfl, ?_⟩) (HV.out.below hb1.out).bx (fun hC hS => ?_)
        rotate_left
        · intro W9 hSw; skip; go_simp; try (with_reducible rfl)
        try simp only [Act.put, List.setIfInBounds_toArray, List.set_cons_zero, List.set_cons_succ]
        refine wpAnyL_done (by kernel_rfl) ?_ _
        clear hS hC ho1 HB0 HX
        have HK3 := Lib.hid (HK.out.trans (Kd.of_below hb1.out HV.out.dw.lt))
        have HR3 := Lib.hid (HR.out.below hb1.out HV.out.dw.lt)
        have HV3 := Lib.hid (HV.out.below hb1.out)
        clear HV HR HK
        have y0 : v3.cell? ⟨p9, 0, none⟩ = some (.int .i64 0) := (cell_of_row _ _ 0 _ _ _ hk1.out).trans rfl
        have y1 : v3.cell? ⟨p9, 1, none⟩ = some (.int .i64 0) := (cell_of_row _ _ 1 _ _ _ hk1.out).trans rfl
        have y2 : v3.cell? ⟨p9, 2, none⟩ = some (.int .i64 0) := (cell_of_row _ _ 2 _ _ _ hk1.out).trans rfl
        have y3 : v3.cell? ⟨p9, 3, none⟩ = some (.string ⟨#[]⟩) := (cell_of_row _ _ 3 _ _ _ hk1.out).trans rfl
        have y4 : v3.cell? ⟨p9, 4, none⟩ = some (.string ⟨#[]⟩) := (cell_of_row _ _ 4 _ _ _ hk1.out).trans rfl
        have y5 : v3.cell? ⟨p9, 5, none⟩ = some (.string ⟨#[]⟩) := (cell_of_row _ _ 5 _ _ _ hk1.out).trans rfl
        have y6 : v3.cell? ⟨p9, 6, none⟩ = some (.int .i64 0) := (cell_of_row _ _ 6 _ _ _ hk1.out).trans rfl
        have y7 : v3.cell? ⟨p9, 7, none⟩ = some (.int .i64 0) := (cell_of_row _ _ 7 _ _ _ hk1.out).trans rfl
        go_wp2_with (first
          | refine wpList_store_rowY rfl 25 (.tmp 2) (.tmp 44) rfl rr recZ rfl rfl 25 _ HR3.out.1 (info_rec _ _ _ _ _ _ _ _) rfl (one_rec _ _ _ _ _ _ _ _) rr v3 (Below.refl _ _) (Nat.le_refl _) ?_)
        intro W2 hbk hoth hbel _
        clear y0 y1 y2 y3 y4 y5 y6 y7
        have HKW : Hid (Kd D w W2) := Lib.hid (HK3.out.belowB (by rw [hrr]; exact hbel.out) (by rw [hrr]; exact hDr))
        have HVW : Hid (JW n w0 D J ⟨S, C, ar, false, op + 1⟩ hh ep ct W2) := Lib.hid (HV3.out.kk (g := rr) ⟨hbel.out.os, hbel.out.tape, hbel.out.output, hbel.out.size, fun b _ hn => hoth.out b (by simpa using hn)⟩ HR3.out.2 hwr hJr)
        have HBK := Lib.hid hbk.out
        clear hbk hoth hbel HK3 HV3 HR3
        go_wp2_with fail
        refine bodyPost_ret (results_cttJ rfl _ _ rr recZ rfl (run_loadVar_row _ rr 25 25 _ (0, 0) _ HBK.out Tryz.underlying25 rfl (info_rec _ _ _ _ _ _ _ _))) rfl ?_
        exact ⟨rfl, HVW.out, HKW.out⟩
      exact AllReadyL.nil
    exact AllReadyL.nil
  refine AllReadyL.cons (o := { dst := some 8, op := .alloc 25, type := _, pos := _, after := _, guard := none }) rfl (fun K9 hK => ?_) ?_
  · skip
    go_simp
    have hb : Below v0.heap.size v0 (v0.alloc (.cells #[.int .i64 0, .int .i64 0, .int .i64 0, .string ⟨#[]⟩, .string ⟨#[]⟩, .string ⟨#[]⟩, .int .i64 0, .int .i64 0] 25 (0, 0))) := HB0.out.alloc HB0.out.size _
    have hx := blk_new v0 (.cells #[.int .i64 0, .int .i64 0, .int .i64 0, .string ⟨#[]⟩, .string ⟨#[]⟩, .string ⟨#[]⟩, .int .i64 0, .int .i64 0] 25 (0, 0))
    have hp9 : v0.heap.size ≤ v0.heap.size := HB0.out.size
    generalize v0.alloc (.cells #[.int .i64 0, .int .i64 0, .int .i64 0, .string ⟨#[]⟩, .string ⟨#[]⟩, .string ⟨#[]⟩, .int .i64 0, .int .i64 0] 25 (0, 0)) = v1 at *
    have HB1 := Lib.hid hb
    have HX := Lib.hid hx
    clear hb hx
    refine hK _ _ (HV.out.below HB1.out).bx (fun hC => ?_)
    clear hK K9
    try simp only [Act.put, List.setIfInBounds_toArray, List.set_cons_zero, List.set_cons_succ]
    refine wpAnyL_ready (rs := [9]) (by kernel_rfl) (by simp) hC ?_
    refine AllReadyL.cons (o := { dst := some 41, op := .call { callee := .value (.func 30), args := #[.tmp 32, .tmp 36, .tmp 40], argTypes := #[9, 3, 3] }, type := _, pos := _, after := _, guard := none }) rfl (fun K9 hK => ?_) ?_
    · skip
      go_simp
      refine (HIS.out _ (Tab.dwJ (HV.out.below HB1.out).dw HT.out hg)).mono ?_
      rintro e v2 ⟨rfl, hb⟩
      have HB2 := Lib.hid (HB1.out.trans (hb.mono HB1.out.size))
      have HX := Lib.hid (blk_below HX.out hb)
      clear hb
      refine hK _ _ (HV.out.below HB2.out).bx (fun hC => ?_)
      clear hK K9
      try simp only [Act.put, List.setIfInBounds_toArray, List.set_cons_zero, List.set_cons_succ]
      refine wpAnyL_take (i := 10) (oi := { dst := some 31, op := .move (.tmp 41), type := _, pos := _, after := _, guard := none }) (v := ?_) rfl (by kernel_rfl) (by kernel_rfl) (by kernel_rfl) (fun _ _ _ h => h) (fun _ _ => Iff.rfl) hC (Or.inl ⟨by rfl, ?_⟩) (HV.out.below HB2.out).bx (fun hC hS => ?_)
      rotate_left
      · intro W9 hSw; skip; go_simp; try (with_reducible rfl)
      try simp only [Act.put, List.setIfInBounds_toArray, List.set_cons_zero, List.set_cons_succ]
      refine wpAnyL_take (i := 11) (oi := { dst := some 42, op := .extract (.tmp 31) 0, type := _, pos := _, after := _, guard := none }) (v := ?_) rfl (by kernel_rfl) (by kernel_rfl) (by kernel_rfl) (fun _ _ _ h => h) (fun _ _ => Iff.rfl) hC (Or.inl ⟨by rfl, ?_⟩) (HV.out.below HB2.out).bx (fun hC hS => ?_)
      rotate_left
      · intro W9 hSw; skip; go_simp; try (with_reducible rfl)
      try simp only [Act.put, List.setIfInBounds_toArray, List.set_cons_zero, List.set_cons_succ]
      refine wpAnyL_take (i := 12) (oi := { dst := some 43, op := .extract (.tmp 31) 1, type := _, pos := _, after := _, guard := none }) (v := ?_) rfl (by kernel_rfl) (by kernel_rfl) (by kernel_rfl) (fun _ _ _ h => h) (fun _ _ => Iff.rfl) hC (Or.inl ⟨by rfl, ?_⟩) (HV.out.below HB2.out).bx (fun hC hS => ?_)
      rotate_left
      · intro W9 hSw; skip; go_simp; try (with_reducible rfl)
      try simp only [Act.put, List.setIfInBounds_toArray, List.set_cons_zero, List.set_cons_succ]
      refine wpAnyL_ready (rs := [14]) (by kernel_rfl) (by simp) hC ?_
      refine AllReadyL.cons (o := { dst := none, op := .store 25 (.tmp 8) (.tmp 42), type := _, pos := _, after := _, guard := none }) rfl (fun K9 hK => ?_) ?_
      · skip
        refine step_storeJ rfl 25 (.tmp 8) (.tmp 42) rfl (v0.heap.size) recZ rfl rfl 25 _ HX.out (info_rec _ _ _ _ _ _ _ _) rfl (one_rec _ _ _ _ _ _ _ _) v0.heap.size v0 HB2.out (by omega) ?_
        intro v3 hk1 ho1 hb1
        refine hK _ _ (HV.out.below hb1.out).bx (fun hC => ?_)
        clear hK K9
        try simp only [Act.put, List.setIfInBounds_toArray, List.set_cons_zero, List.set_cons_succ]
        refine wpAnyL_take (i := 15) (oi := { dst := some 9, op := .assign (.tmp 43), type := _, pos := _, after := _, guard := none }) (v := ?_) rfl (by kernel_rfl) (by kernel_rfl) (by kernel_rfl) (fun _ _ _ h => h) (fun _ _ => Iff.rfl) hC (Or.inl ⟨by rfl, ?_⟩) (HV.out.below hb1.out).bx (fun hC hS => ?_)
        rotate_left
        · intro W9 hSw; skip; go_simp; try (with_reducible rfl)
        try simp only [Act.put, List.setIfInBounds_toArray, List.set_cons_zero, List.set_cons_succ]
        refine wpAnyL_done (by kernel_rfl) ?_ _
        clear hS hC ho1 HB0 HX
        have HK3 := Lib.hid (HK.out.trans (Kd.of_below hb1.out HV.out.dw.lt))
        have HR3 := Lib.hid (HR.out.below hb1.out HV.out.dw.lt)
        have HV3 := Lib.hid (HV.out.below hb1.out)
        clear HV HR HK
        have y0 : v3.cell? ⟨v0.heap.size, 0, none⟩ = some (.int .i64 0) := (cell_of_row _ _ 0 _ _ _ hk1.out).trans rfl
        have y1 : v3.cell? ⟨v0.heap.size, 1, none⟩ = some (.int .i64 0) := (cell_of_row _ _ 1 _ _ _ hk1.out).trans rfl
        have y2 : v3.cell? ⟨v0.heap.size, 2, none⟩ = some (.int .i64 0) := (cell_of_row _ _ 2 _ _ _ hk1.out).trans rfl
        have y3 : v3.cell? ⟨v0.heap.size, 3, none⟩ = some (.string ⟨#[]⟩) := (cell_of_row _ _ 3 _ _ _ hk1.out).trans rfl
        have y4 : v3.cell? ⟨v0.heap.size, 4, none⟩ = some (.string ⟨#[]⟩) := (cell_of_row _ _ 4 _ _ _ hk1.out).trans rfl
        have y5 : v3.cell? ⟨v0.heap.size, 5, none⟩ = some (.string ⟨#[]⟩) := (cell_of_row _ _ 5 _ _ _ hk1.out).trans rfl
        have y6 : v3.cell? ⟨v0.heap.size, 6, none⟩ = some (.int .i64 0) := (cell_of_row _ _ 6 _ _ _ hk1.out).trans rfl
        have y7 : v3.cell? ⟨v0.heap.size, 7, none⟩ = some (.int .i64 0) := (cell_of_row _ _ 7 _ _ _ hk1.out).trans rfl
        go_wp2_with (first
          | refine wpList_store_rowY rfl 25 (.tmp 2) (.tmp 44) rfl rr recZ rfl rfl 25 _ HR3.out.1 (info_rec _ _ _ _ _ _ _ _) rfl (one_rec _ _ _ _ _ _ _ _) rr v3 (Below.refl _ _) (Nat.le_refl _) ?_)
        intro W2 hbk hoth hbel _
        clear y0 y1 y2 y3 y4 y5 y6 y7
        have HKW : Hid (Kd D w W2) := Lib.hid (HK3.out.belowB (by rw [hrr]; exact hbel.out) (by rw [hrr]; exact hDr))
        have HVW : Hid (JW n w0 D J ⟨S, C, ar, false, op + 1⟩ hh ep ct W2) := Lib.hid (HV3.out.kk (g := rr) ⟨hbel.out.os, hbel.out.tape, hbel.out.output, hbel.out.size, fun b _ hn => hoth.out b (by simpa using hn)⟩ HR3.out.2 hwr hJr)
        have HBK := Lib.hid hbk.out
        clear hbk hoth hbel HK3 HV3 HR3
        go_wp2_with fail
        refine bodyPost_ret (results_cttJ rfl _ _ rr recZ rfl (run_loadVar_row _ rr 25 25 _ (0, 0) _ HBK.out Tryz.underlying25 rfl (info_rec _ _ _ _ _ _ _ _))) rfl ?_
        exact ⟨rfl, HVW.out, HKW.out⟩
      exact AllReadyL.nil
    exact AllReadyL.nil
  exact AllReadyL.nil
end

end Go.Proofs.YtagenkofoacajaaGreatDoor

namespace Go.Proofs.YtagenkofoacajaaGreatDoor
open Go.RowKit Vi Ar Cm

section
variable {n : Nat} {w0 : World} {D J : Nat} {S : List ByteArray} {C : List Wr} {ar op : Int} {hh ep : Int} {w : World} {k0 : Nat}
/-- a journal is opened, and has no record -/
def OpenJ (n : Nat) (w0 : World) (D : Nat) (d : Ds) (hh ep : Int) (e : Ending) (w' : World) : Prop := ∃ J, e = .returned (.tuple #[.pointer (some ⟨J, 0, none⟩), .slice none 0 0, .int .i64 0]) ∧ JW n w0 D J d hh ep 0 w'
set_option linter.unusedSimpArgs false in
set_option maxRecDepth 100000 in
set_option maxHeartbeats 8000000 in
theorem jopen_no (h : DW n w0 D ⟨S, C, ar, false, op⟩ w) (ok : DsOk k0 ⟨S, C, ar, false, op⟩) (hk0 : k0 ≤ 900) (hT : Tab w0) (hg : 1 < n) (a : Int) (hq : hh = 0 ∨ hh = 1) (he1 : 1 ≤ ep) (he2 : ep ≤ 4294967295) (hh2 : 0 ≤ Ar.hf (S.length : Int)) (hp : pl (S.length : Int) hh 0 = .tuple #[.int .i64 a, .int .i64 0]) (ha0 : 0 ≤ a) (ha1 : a < (S.length : Int)) (hX : (shw S C a).size ≤ 1000) (hno : ¬ IsRec (shw S C a)) :
    Calls Tryz.prog 8 #[.pointer (some ⟨D, 0, none⟩), .int .i64 hh, .int .i64 ep] w (OpenJ n w0 D ⟨S, C, ar, false, op + 1⟩ hh ep) := by
  have HAT := Lib.hid (jat_yes h ok hh ep 0 hq he1 he2 (Int.le_refl _) hh2)
  have HNX := Lib.hid (fun (J : Nat) (W : World) (q : JW n w0 D J ⟨S, C, ar, false, op⟩ hh ep 0 W) => jnext_no q ok hk0 hT hg a (Int.le_refl _) (by omega) hp ha0 ha1 hX hno)
  clear h ok hT hg hp hX hno ha0 ha1 hh2 he1 he2 hq
  unfold recZ at HNX
  go_enter Tryz.func8, Tryz.ntmps8
  go_wp2_with fail
  refine HAT.out.mono ?_
  rintro e w1 ⟨J, rfl, hj, _, _⟩
  have HJ := Lib.hid hj
  clear hj HAT
  go_wp2_with fail
  go_loopw [11] (fun i wr => i = .slice none 0 0 ∧ wr = w1) (fun _ _ => 0)
  case atStart => exact ⟨rfl, rfl⟩
  case round =>
    obtain ⟨rfl, rfl⟩ := hrel
    go_wp2_with fail
    refine (HNX.out J _ HJ.out).mono ?_
    rintro e w2 ⟨rfl, hj, _⟩
    have HV := Lib.hid hj
    clear hj HJ HNX
    have hb : Below w2.heap.size w2 (w2.alloc (.cells #[.int .i64 0, .int .i64 0, .int .i64 0, .string ⟨#[]⟩, .string ⟨#[]⟩, .string ⟨#[]⟩, .int .i64 0, .int .i64 0] 25 (0, 0))) := (Below.refl _ _).alloc (Nat.le_refl _) _
    have hx := blk_new w2 (.cells #[.int .i64 0, .int .i64 0, .int .i64 0, .string ⟨#[]⟩, .string ⟨#[]⟩, .string ⟨#[]⟩, .int .i64 0, .int .i64 0] 25 (0, 0))
    have hnb : ¬ InD D (w2.alloc (.cells #[.int .i64 0, .int .i64 0, .int .i64 0, .string ⟨#[]⟩, .string ⟨#[]⟩, .string ⟨#[]⟩, .int .i64 0, .int .i64 0] 25 (0, 0))) w2.heap.size := fun q => by have := HV.out.dw.dk.new (q.back hb HV.out.dw.lt); omega
    have hnp : n ≤ w2.heap.size := HV.out.dw.sz
    have hJp : J ≠ w2.heap.size := fun e => by have := lt_of_block HV.out.bx; omega
    have HX : Hid (Bx D w2.heap.size (.cells #[.int .i64 0, .int .i64 0, .int .i64 0, .string ⟨#[]⟩, .string ⟨#[]⟩, .string ⟨#[]⟩, .int .i64 0, .int .i64 0] 25 (0, 0)) (w2.alloc (.cells #[.int .i64 0, .int .i64 0, .int .i64 0, .string ⟨#[]⟩, .string ⟨#[]⟩, .string ⟨#[]⟩, .int .i64 0, .int .i64 0] 25 (0, 0)))) := Lib.hid ⟨hx, hnb⟩
    have HV := Lib.hid (HV.out.below hb)
    clear hb hx hnb
    go_wp2_with (first
      | refine wpList_store_rowY rfl 25 (.tmp 12) (.tmp 28) rfl (w2.heap.size) #[.int .i64 0, .int .i64 0, .int .i64 0, .string ⟨#[]⟩, .string ⟨#[]⟩, .string ⟨#[]⟩, .int .i64 0, .int .i64 0] rfl rfl 25 _ HX.out.1 (info_rec _ _ _ _ _ _ _ _) rfl (one_rec _ _ _ _ _ _ _ _) w2.heap.size _ (Below.refl _ _) (Nat.le_refl _) ?_)
    intro W3 hk1 ho1 hb1 _
    have HVW : Hid (JW n w0 D J ⟨S, C, ar, false, op + 1⟩ hh ep 0 W3) := Lib.hid (HV.out.kk (g := w2.heap.size) ⟨hb1.out.os, hb1.out.tape, hb1.out.output, hb1.out.size, fun b _ hn => ho1.out b (by simpa using hn)⟩ HX.out.2 hnp hJp)
    clear hk1 ho1 hb1 HX HV hnp hJp
    go_wp2_with fail
    refine bodyPost_ret (results_t3J rfl _ _) rfl ?_
    exact ⟨J, rfl, HVW.out⟩
end
theorem wrt0 {S : List ByteArray} {C : List Wr} {op i : Int} {s : ByteArray} (hi : 0 ≤ i ∧ i < (S.length : Int)) (hs : s.size = 128) : jop ⟨S, C, 0, false, op⟩ (some (i, s)) = (⟨S, C ++ [(i, s)], 0, false, op + 1⟩, 0) := by
  have e : dckE S.length i s = 0 := by unfold dckE; rw [if_pos hi, if_pos hs]
  show (Ds.wrt ⟨S, C, 0, false, op⟩ i s, Ds.wrE ⟨S, C, 0, false, op⟩ i s) = _
  unfold Ds.wrt Ds.wrE
  dsimp only
  rw [if_neg Bool.false_ne_true, if_neg Bool.false_ne_true, e, if_neg (fun h => h rfl), if_neg (fun h => h rfl)]
  rfl
theorem fls0 {S : List ByteArray} {C : List Wr} {op : Int} : jop ⟨S, C, 0, false, op⟩ none = (⟨flsS 0 S C, [], 0, false, op + 1⟩, 0) := by
  show (Ds.fls ⟨S, C, 0, false, op⟩, Ds.flE ⟨S, C, 0, false, op⟩) = _
  unfold Ds.fls Ds.flE
  dsimp only
  rw [if_neg Bool.false_ne_true, if_neg Bool.false_ne_true]
  rfl
theorem jst_go {o : Option Wr} {r : List (Option Wr)} {d d' : Ds} (h : jop d o = (d', 0)) : jst (o :: r) d = jst r d' := by rw [jst, h, if_neg (fun h => h rfl)]
theorem noz_size : noZ.size = 128 := by show (zsD 128).toArray.size = 128; simp [zsD]
theorem japS_up {S : List ByteArray} {op a1 a2 ep ct k : Int} {x o y : ByteArray} {t u : Int} (h1 : 0 ≤ a1 ∧ a1 < (S.length : Int)) (h2 : 0 ≤ a2 ∧ a2 < (S.length : Int)) (hr : rok ep ct k x o y t u = true) :
    (japS ⟨S, [], 0, false, op⟩ a1 a2 ep ct k x o y t u).2 = 0 ∧ (japS ⟨S, [], 0, false, op⟩ a1 a2 ep ct k x o y t u).1.op = op + 4 := by
  have e1 := wrt0 (S := S) (C := []) (op := op) h1 noz_size
  have l1 : (flsS 0 S ([] ++ [(a1, noZ)])).length = S.length := flsS_len _ _ _
  unfold japS
  rw [jst_go e1, jst_go fls0, jst_go (wrt0 (by rw [l1]; exact h2) (rec_size hr)), jst_go fls0]
  exact ⟨rfl, by show op + 1 + 1 + 1 + 1 = op + 4; omega⟩
theorem dsok_newJ (k : Nat) (hk : 16 ≤ k) (hk2 : k ≤ 4096) : DsOk 0 ⟨List.replicate k noZ, [], 0, false, 0⟩ := ⟨by show 16 ≤ (List.replicate k noZ).length; rw [List.length_replicate]; exact hk, by show (List.replicate k noZ).length ≤ 4096; rw [List.length_replicate]; exact hk2, Nat.zero_le _, Int.le_refl _, by show (0 : Int) ≤ _; omega, Int.le_refl _, Int.le_refl _⟩
/-- the record of the chapter's example -/
def dots32 : ByteArray := ⟨#[46, 46, 46, 46, 46, 46, 46, 46, 46, 46, 46, 46, 46, 46, 46, 46, 46, 46, 46, 46, 46, 46, 46, 46, 46, 46, 46, 46, 46, 46, 46, 46]⟩
set_option maxRecDepth 100000 in
theorem some38_any (w : World) : Calls Tryz.prog 14 #[] w fun e w' => e = .returned (.agg #[.int .i64 0, .int .i64 0, .int .i64 1, .string ⟨#[97]⟩, .string ⟨#[]⟩, .string dots32, .int .i64 0, .int .i64 1]) ∧ Below w.heap.size w w' := by
  have HB := Lib.hid ((Below.refl w.heap.size w).alloc (Nat.le_refl _) (.cells #[.int .i64 0, .int .i64 0, .int .i64 1, .string ⟨#[97]⟩, .string ⟨#[]⟩, .string ⟨#[46, 46, 46, 46, 46, 46, 46, 46, 46, 46, 46, 46, 46, 46, 46, 46, 46, 46, 46, 46, 46, 46, 46, 46, 46, 46, 46, 46, 46, 46, 46, 46]⟩, .int .i64 0, .int .i64 1] 25 (0, 0)))
  unfold dots32
  go_enter Tryz.func14, Tryz.ntmps14
  go_wp2_with fail
  refine bodyPost_ret (results_cE rfl _ _ (w.heap.size) #[.int .i64 0, .int .i64 0, .int .i64 1, .string ⟨#[97]⟩, .string ⟨#[]⟩, .string ⟨#[46, 46, 46, 46, 46, 46, 46, 46, 46, 46, 46, 46, 46, 46, 46, 46, 46, 46, 46, 46, 46, 46, 46, 46, 46, 46, 46, 46, 46, 46, 46, 46]⟩, .int .i64 0, .int .i64 1] rfl (run_loadVar_row _ (w.heap.size) 25 25 _ (0, 0) _ (blk_new _ _) Tryz.underlying25 rfl (info_rec _ _ _ _ _ _ _ _))) rfl ?_
  exact ⟨rfl, HB.out⟩
theorem rok_some : rok 1 0 1 ⟨#[97]⟩ ⟨#[]⟩ dots32 0 1 = true := by decide +kernel
theorem shw_new : shw (List.replicate 16 noZ) [] 8 = noZ := rfl
set_option maxRecDepth 100000 in
set_option maxHeartbeats 4000000 in
theorem awake38_any (w : World) (hT : Tab w) : Calls Tryz.prog 5 #[] w fun e w' => e = .returned (.bool true) ∧ Below w.heap.size w w' := by
  have hg : 1 < w.heap.size := World.block_lt_of_cell? w _ (hT 0 (by omega))
  have HT := Lib.hid hT
  have HN := Lib.hid (fun W : World => show Calls Tryz.prog 12 #[.int .i64 16] W (NewD (List.replicate 16 noZ) [] W) from dnew_yes 16 W (by decide) (by decide))
  have HD0 := Lib.hid (dsok_newJ 16 (by decide) (by decide))
  have hS : (List.replicate 16 noZ).length = 16 := List.length_replicate
  have HX := Lib.hid shw_new
  generalize List.replicate 16 noZ = S at HN HD0 hS HX
  have HS := Lib.hid hS
  clear hS hT
  go_enter Tryz.func5, Tryz.ntmps5
  go_wp2_with fail
  refine (HN.out _).mono ?_
  rintro e w1 ⟨D, rfl, hd, hi, hb⟩
  have HW1 : Hid (DW w.heap.size w D ⟨S, [], 0, false, 0⟩ w1) := Lib.hid ⟨hd, hi, hb, hb.size⟩
  clear hd hi hb HN
  go_wp2_with fail
  refine (jopen_no (hh := 0) (ep := 1) HW1.out HD0.out (by decide) HT.out hg 8 (.inl rfl) (by decide) (by decide) (by rw [HS.out]; decide) (by rw [HS.out]; rfl) (by decide) (by rw [HS.out]; decide) (by rw [HX.out, noz_size]; decide) (by rw [HX.out]; exact noz_norec)).mono ?_
  rintro e w2 ⟨J, rfl, hj⟩
  have HJ2 := Lib.hid hj
  clear hj HW1 HX
  have HO1 : Hid (DsOk 1 ⟨S, [], 0, false, 0 + 1⟩) := Lib.hid ⟨HD0.out.s1, HD0.out.s2, Nat.zero_le _, HD0.out.a1, HD0.out.a2, by show (0 : Int) ≤ 0 + 1; omega, by show (0 : Int) + 1 ≤ ((1 : Nat) : Int); omega⟩
  clear HD0
  go_wp2_with fail
  refine HJ2.out.dw.opsIs.mono ?_
  rintro e w' ⟨rfl, rfl⟩
  go_wp2_with fail
  refine (some38_any _).mono ?_
  rintro e w3 ⟨rfl, hb⟩
  have HJ3 := Lib.hid (HJ2.out.below hb)
  clear hb HJ2
  go_wp2_with fail
  refine (jappend_yes HJ3.out HO1.out (by decide) (Tab.dwJ HJ3.out.dw HT.out hg) 0 0 1 ⟨#[97]⟩ ⟨#[]⟩ dots32 0 1 7 8 rok_some (by decide) (by decide) (by rw [HS.out]; rfl) (by rw [HS.out]; rfl)).mono ?_
  rintro e w4 ⟨rfl, hj⟩
  have hz := japS_up (S := S) (op := 0 + 1) (a1 := 7) (a2 := 8) (ep := 1) (ct := 0) (k := 1) (x := ⟨#[97]⟩) (o := ⟨#[]⟩) (y := dots32) (t := 0) (u := 1) (by rw [HS.out]; decide) (by rw [HS.out]; decide) rok_some
  generalize japS ⟨S, [], 0, false, 0 + 1⟩ 7 8 1 0 1 ⟨#[97]⟩ ⟨#[]⟩ dots32 0 1 = Z at hz hj ⊢
  rw [if_pos hz.1] at hj
  rw [hz.1]
  have hzo : Z.1.op = 5 := hz.2
  have HJ4 := Lib.hid hj
  clear hj hz HJ3 HO1
  go_wp2_with fail
  refine (jcount_any HJ4.out).mono ?_
  rintro e w' ⟨rfl, rfl⟩
  go_wp2_with fail
  refine HJ4.out.dw.opsIs.mono ?_
  rintro e w' ⟨rfl, rfl⟩
  rw [hzo]
  go_wp2_with fail
  go_ret
  exact ⟨rfl, HJ4.out.dw.bel⟩
end Go.Proofs.YtagenkofoacajaaGreatDoor

namespace Go.Proofs.YtagenkofoacajaaGreatDoor
open Go.RowKit Vi Ar Cm

/-- a journal that no call made -/
def NoJ (p : Option Addr) (w : World) : Prop := p = none ∨ ∃ L, p = some ⟨L, 0, none⟩ ∧ w.heap[L]? = some (.cells #[.pointer none, .int .i64 0, .int .i64 0, .int .i64 0] 33 (0, 0))
theorem NoJ.below {p : Option Addr} {w w' : World} (h : NoJ p w) (hb : Below w.heap.size w w') : NoJ p w' := by
  rcases h with h | ⟨L, h1, h2⟩
  · exact .inl h
  · exact .inr ⟨L, h1, blk_below h2 hb⟩
section
variable {p : Option Addr} {w : World}
theorem njmade (h : NoJ p w) : Calls Tryz.prog 18 #[.pointer p] w fun e w' => e = .returned (.bool false) ∧ w = w' := by
  rcases h with rfl | ⟨L, rfl, h2⟩
  · go_enter Tryz.func18, Tryz.ntmps18
    go_wp2_with fail
    go_ret
    exact ⟨rfl, rfl⟩
  · have c0 : w.cell? ⟨L, 0, none⟩ = some (.pointer none) := (cell_of_row _ _ 0 _ _ _ h2).trans rfl
    clear h2
    go_enter Tryz.func18, Tryz.ntmps18
    go_wp2_with fail
    go_ret
    exact ⟨rfl, rfl⟩
theorem njcount (h : NoJ p w) : Calls Tryz.prog 11 #[.pointer p] w fun e w' => e = .returned (.int .i64 0) ∧ w = w' := by
  have HM := Lib.hid (njmade h)
  clear h
  go_enter Tryz.func11, Tryz.ntmps11
  go_wp2_with fail
  refine HM.out.mono ?_
  rintro e w' ⟨rfl, rfl⟩
  go_wp2_with fail
  go_ret
  exact ⟨rfl, rfl⟩
theorem njappend (a b k : Int) (x o y : ByteArray) (t u : Int) (h : NoJ p w) : Calls Tryz.prog 10 #[.pointer p, .agg #[.int .i64 a, .int .i64 b, .int .i64 k, .string x, .string o, .string y, .int .i64 t, .int .i64 u]] w fun e w' => e = .returned (.int .i64 1) ∧ Below w.heap.size w w' := by
  have HB := Lib.hid ((Below.refl w.heap.size w).alloc (Nat.le_refl _) (.cells #[.int .i64 a, .int .i64 b, .int .i64 k, .string x, .string o, .string y, .int .i64 t, .int .i64 u] 25 (0, 0)))
  have HM := Lib.hid (njmade (h.below ((Below.refl w.heap.size w).alloc (Nat.le_refl _) (.cells #[.int .i64 a, .int .i64 b, .int .i64 k, .string x, .string o, .string y, .int .i64 t, .int .i64 u] 25 (0, 0)))))
  clear h
  go_enter Tryz.func10, Tryz.ntmps10
  go_wp2_with fail
  refine HM.out.mono ?_
  rintro e w' ⟨rfl, rfl⟩
  go_wp2_with fail
  go_ret
  exact ⟨rfl, HB.out⟩
end
theorem nat_nil (hh ep ct : Int) (w : World) : Calls Tryz.prog 9 #[.pointer none, .int .i64 hh, .int .i64 ep, .int .i64 ct] w fun e w' => e = .returned (.tuple #[.pointer none, .int .i64 1]) ∧ w = w' := by
  go_enter Tryz.func9, Tryz.ntmps9
  go_wp2_with fail
  refine (dszz_nil _).mono ?_
  rintro e w' ⟨rfl, rfl⟩
  go_wp2_with fail
  go_ret2
  exact ⟨rfl, rfl⟩
theorem nat_zero (D : Nat) (hh ep ct : Int) (w : World) (h : w.heap[D]? = some (.cells #[.slice none 0 0, .slice none 0 0, .bool false, .bool false, .int .i64 0, .int .i64 0] 44 (0, 0))) : Calls Tryz.prog 9 #[.pointer (some ⟨D, 0, none⟩), .int .i64 hh, .int .i64 ep, .int .i64 ct] w fun e w' => e = .returned (.tuple #[.pointer none, .int .i64 1]) ∧ w = w' := by
  have HZ := Lib.hid (dszz_no D none 0 0 none 0 0 false 0 0 w h)
  clear h
  go_enter Tryz.func9, Tryz.ntmps9
  go_wp2_with fail
  refine HZ.out.mono ?_
  rintro e w' ⟨rfl, rfl⟩
  go_wp2_with fail
  go_ret2
  exact ⟨rfl, rfl⟩
theorem njopen (hh ep : Int) (w : World) : Calls Tryz.prog 8 #[.pointer none, .int .i64 hh, .int .i64 ep] w fun e w' => e = .returned (.tuple #[.pointer none, .slice none 0 0, .int .i64 1]) ∧ w = w' := by
  go_enter Tryz.func8, Tryz.ntmps8
  go_wp2_with fail
  refine (nat_nil hh ep 0 _).mono ?_
  rintro e w' ⟨rfl, rfl⟩
  go_wp2_with fail
  refine bodyPost_ret (results_t3J rfl _ _) rfl ?_
  exact ⟨rfl, rfl⟩
/-- a record as data -/
abbrev RcJ := Int × Int × Int × ByteArray × ByteArray × ByteArray × Int × Int
def rcJ (r : RcJ) : List Value := [.int .i64 r.1, .int .i64 r.2.1, .int .i64 r.2.2.1, .string r.2.2.2.1, .string r.2.2.2.2.1, .string r.2.2.2.2.2.1, .int .i64 r.2.2.2.2.2.2.1, .int .i64 r.2.2.2.2.2.2.2]
/-- tail and number behind the first k -/
def ptJ (L : List RcJ) (t u : Int) : Nat → Int × Int
  | 0 => (t, u)
  | k + 1 => match L[k]? with
    | some r => (r.2.2.2.2.2.2.1, r.2.2.2.2.2.2.2)
    | none => (t, u)
/-- is one less than the one ahead of it -/
def bdJ (L : List RcJ) : Nat → Bool
  | 0 => false
  | k + 1 => match L[k]?, L[k + 1]? with
    | some p, some r => decide (r.2.2.2.2.2.2.1 < p.2.2.2.2.2.2.1) || decide (r.2.2.2.2.2.2.2 < p.2.2.2.2.2.2.2)
    | _, _ => false
/-- do the first k rise -/
def rsJ (L : List RcJ) : Nat → Bool
  | 0 => true
  | k + 1 => rsJ L k && !bdJ L k
theorem ptJ_at {L : List RcJ} {t u : Int} {k : Nat} {x1 x2 x3 : Int} {x4 x5 x6 : ByteArray} {x7 x8 : Int} (h : L[k]? = some (x1, x2, x3, x4, x5, x6, x7, x8)) : ptJ L t u (k + 1) = (x7, x8) := by rw [ptJ, h]
theorem bdJ_at {L : List RcJ} {j : Nat} {x1 x2 x3 : Int} {x4 x5 x6 : ByteArray} {x7 x8 : Int} {y1 y2 y3 : Int} {y4 y5 y6 : ByteArray} {y7 y8 : Int} (hy : L[j]? = some (y1, y2, y3, y4, y5, y6, y7, y8)) (hx : L[j + 1]? = some (x1, x2, x3, x4, x5, x6, x7, x8)) : bdJ L (j + 1) = (decide (x7 < y7) || decide (x8 < y8)) := by rw [bdJ, hy, hx]
theorem rsJ_no {L : List RcJ} {k : Nat} (h : rsJ L k = false) : ∀ m, k ≤ m → rsJ L m = false := by
  intro m hm
  obtain ⟨d, rfl⟩ := Nat.exists_eq_add_of_le hm
  induction d with
  | zero => exact h
  | succ d ih => rw [show k + (d + 1) = (k + d) + 1 by omega, rsJ, ih (by omega)]; rfl
section
variable {L : List RcJ} {A : Option Addr} {n c : Nat} {w : World}
theorem jtail_any (t u : Int) (h : RdX rcJ 8 w A n L) (hn : n ≤ 100) : Calls Tryz.prog 6 #[.int .i64 t, .int .i64 u, .slice A n c] w fun e w' => e = .returned (.tuple #[.int .i64 (ptJ L t u n).1, .int .i64 (ptJ L t u n).2]) ∧ Below w.heap.size w w' := by
  cases n with
  | zero =>
    rw [ptJ]
    clear h
    go_enter Tryz.func6, Tryz.ntmps6
    go_wp2_with fail
    go_ret2
    exact ⟨rfl, Below.refl _ _⟩
  | succ m =>
    obtain ⟨b, off, hl, rfl, hbb, hcc⟩ := h.at (Nat.lt_succ_self m)
    obtain ⟨r, hr⟩ : ∃ r, L[m] = r := ⟨_, rfl⟩
    have hr2 : L[m]? = some r := by rw [List.getElem?_eq_getElem hl, hr]
    obtain ⟨x1, x2, x3, x4, x5, x6, x7, x8⟩ := r
    rw [ptJ_at hr2]
    have c0 : w.cell? ⟨b, off + m * 8, none⟩ = some (.int .i64 x1) := (h).cellAt hr2 (Nat.lt_succ_self m) 0 _ rfl
    have c1 : w.cell? ⟨b, off + m * 8 + 1, none⟩ = some (.int .i64 x2) := (h).cellAt hr2 (Nat.lt_succ_self m) 1 _ rfl
    have c2 : w.cell? ⟨b, off + m * 8 + 2, none⟩ = some (.int .i64 x3) := (h).cellAt hr2 (Nat.lt_succ_self m) 2 _ rfl
    have c3 : w.cell? ⟨b, off + m * 8 + 3, none⟩ = some (.string x4) := (h).cellAt hr2 (Nat.lt_succ_self m) 3 _ rfl
    have c4 : w.cell? ⟨b, off + m * 8 + 4, none⟩ = some (.string x5) := (h).cellAt hr2 (Nat.lt_succ_self m) 4 _ rfl
    have c5 : w.cell? ⟨b, off + m * 8 + 5, none⟩ = some (.string x6) := (h).cellAt hr2 (Nat.lt_succ_self m) 5 _ rfl
    have c6 : w.cell? ⟨b, off + m * 8 + 6, none⟩ = some (.int .i64 x7) := (h).cellAt hr2 (Nat.lt_succ_self m) 6 _ rfl
    have c7 : w.cell? ⟨b, off + m * 8 + 7, none⟩ = some (.int .i64 x8) := (h).cellAt hr2 (Nat.lt_succ_self m) 7 _ rfl
    have d0 : ((((m + 1 : Nat) : Int)) == 0) = false := by rw [beq_eq_false_iff_ne]; omega
    have d1 : ((m : Int) + 1 == 0) = false := by rw [beq_eq_false_iff_ne]; omega
    have w1 : IntKind.i64.wrap (((m + 1 : Nat) : Int) - 1) = (m : Int) := by rw [IntWalk.i64_in _ (by omega)]; omega
    have w2 : IntKind.i64.wrap ((m : Int) + 1 - 1) = (m : Int) := by rw [IntWalk.i64_in _ (by omega)]; omega
    have i0 : (0 : Int) ≤ (m : Int) := by omega
    have i1 : (m : Int) < ((m + 1 : Nat) : Int) := by omega
    have i2 : (m : Int) < (m : Int) + 1 := by omega
    have HB := Lib.hid ((Below.refl w.heap.size w).alloc (Nat.le_refl _) (.cells #[.int .i64 x1, .int .i64 x2, .int .i64 x3, .string x4, .string x5, .string x6, .int .i64 x7, .int .i64 x8] 25 (0, 0)))
    have HN := Lib.hid (blk_new w (.cells #[.int .i64 x1, .int .i64 x2, .int .i64 x3, .string x4, .string x5, .string x6, .int .i64 x7, .int .i64 x8] 25 (0, 0)))
    clear h hr hr2 hcc hl
    go_enter Tryz.func6, Tryz.ntmps6
    go_upto_region 4 with (fail)
    have n6 := (cell_of_row _ _ 6 _ _ _ HN.out).trans rfl
    have n7 := (cell_of_row _ _ 7 _ _ _ HN.out).trans rfl
    have r0 := fun d os => cell_regrown n6 d os
    have r1 := fun d os => cell_regrown n7 d os
    clear n6 n7 HN
    refine wp_region_quiet_below (by kernel_rfl) (by kernel_rfl) ?_
    repeat (any_goals (first | go_big_quiet_step (fail)))
    refine wpQuiet_nil ?_
    intro v1 hv1
    have hb1 := below_anyY hv1
    clear hv1 r0 r1
    have HB2 := Lib.hid (HB.out.trans (hb1.mono HB.out.size))
    go_wp2_with fail
    go_ret2
    exact ⟨rfl, HB2.out⟩
set_option maxHeartbeats 4000000 in
theorem jrise_any (h : RdX rcJ 8 w A n L) (hn : n ≤ 100) : Calls Tryz.prog 7 #[.slice A n c] w fun e w' => e = .returned (.bool (rsJ L n)) ∧ Below w.heap.size w w' := by
  have HL := Lib.hid h
  have hln : L.length = n := h.1
  clear h
  go_enter Tryz.func7, Tryz.ntmps7
  go_wp2_with fail
  go_loopw [3] (fun i wr => ∃ j k : Nat, i = .int .i64 (k : Int) ∧ k = j + 1 ∧ (k ≤ n ∨ k = 1) ∧ rsJ L k = true ∧ Below w.heap.size w wr) (fun i _ => n + 1 - (intOf i).toNat)
  case atStart => exact ⟨0, 1, rfl, rfl, .inr rfl, rfl, Below.refl _ _⟩
  case round =>
    obtain ⟨j, k, rfl, hkj, hj, hrs, hb⟩ := hrel
    have HB := Lib.hid hb
    have HRS := Lib.hid hrs
    clear hb hrs
    by_cases hlt : k < n
    · have hd1 : decide ((k : Int) < (n : Int)) = true := decide_eq_true (by omega)
      have hl0 : j < L.length := by omega
      have hl1 : k < L.length := by omega
      have hjn : j < n := by omega
      obtain ⟨b, off, _, rfl, hbb, _⟩ := (HL.out.below HB.out).at hlt
      obtain ⟨y, hy⟩ : ∃ y, L[j] = y := ⟨_, rfl⟩
      obtain ⟨x, hx⟩ : ∃ x, L[k] = x := ⟨_, rfl⟩
      have HY := Lib.hid (show L[j]? = some y by rw [List.getElem?_eq_getElem hl0, hy])
      have HX := Lib.hid (show L[k]? = some x by rw [List.getElem?_eq_getElem hl1, hx])
      clear hy hx hl0 hl1
      obtain ⟨y1, y2, y3, y4, y5, y6, y7, y8⟩ := y
      obtain ⟨x1, x2, x3, x4, x5, x6, x7, x8⟩ := x
      have HBD : Hid (bdJ L k = (decide (x7 < y7) || decide (x8 < y8))) := Lib.hid (by subst hkj; exact bdJ_at HY.out HX.out)
      have g6 : wr.cell? ⟨b, off + k * 8 + 6, none⟩ = some (.int .i64 x7) := (HL.out.below HB.out).cellAt HX.out hlt 6 _ rfl
      have g7 : wr.cell? ⟨b, off + k * 8 + 7, none⟩ = some (.int .i64 x8) := (HL.out.below HB.out).cellAt HX.out hlt 7 _ rfl
      have p6 : wr.cell? ⟨b, off + j * 8 + 6, none⟩ = some (.int .i64 y7) := (HL.out.below HB.out).cellAt HY.out hjn 6 _ rfl
      have p7 : wr.cell? ⟨b, off + j * 8 + 7, none⟩ = some (.int .i64 y8) := (HL.out.below HB.out).cellAt HY.out hjn 7 _ rfl
      have hi0 : (0 : Int) ≤ (k : Int) := by omega
      have hi1 : (0 : Int) ≤ (j : Int) := by omega
      have hi2 : (j : Int) < (n : Int) := by omega
      have hi3 : (k : Int) < (n : Int) := by omega
      have hw0 : IntKind.i64.wrap ((k : Int) - 1) = (j : Int) := by rw [IntWalk.i64_in _ (by omega)]; omega
      have hw1 : IntKind.i64.wrap ((k : Int) + 1) = (k : Int) + 1 := IntWalk.i64_in _ (by omega)
      have HKJ := Lib.hid hkj
      clear hkj
      have r0 := fun d os => cell_regrown g6 d os
      have r1 := fun d os => cell_regrown g7 d os
      have r2 := fun d os => cell_regrown p6 d os
      have r3 := fun d os => cell_regrown p7 d os
      clear g6 g7 p6 p7
      cases h6 : decide (x7 < y7) with
      | true =>
        go_upto_region 4 with (fail)
        refine wp_region_quiet_below (by kernel_rfl) (by kernel_rfl) ?_
        repeat (any_goals (first | go_big_quiet_step (fail)))
        refine wpQuiet_nil ?_
        intro v1 hv1
        have hb1 := below_anyY hv1
        clear hv1 r0 r1 r2 r3
        have HB2 := Lib.hid (HB.out.trans (hb1.mono HB.out.size))
        go_wp2_with fail
        go_ret
        exact ⟨dk_retB (rsJ_no (k := k + 1) (by rw [rsJ, HBD.out, h6]; simp) n hlt).symm, HB2.out⟩
      | false =>
        cases h7 : decide (x8 < y8) with
        | true =>
          go_upto_region 4 with (fail)
          refine wp_region_quiet_below (by kernel_rfl) (by kernel_rfl) ?_
          repeat (any_goals (first | go_big_quiet_step (fail)))
          refine wpQuiet_nil ?_
          intro v1 hv1
          have hb1 := below_anyY hv1
          clear hv1 r0 r1 r2 r3
          have HB2 := Lib.hid (HB.out.trans (hb1.mono HB.out.size))
          go_wp2_with fail
          go_ret
          exact ⟨dk_retB (rsJ_no (k := k + 1) (by rw [rsJ, HBD.out, h6, h7]; simp) n hlt).symm, HB2.out⟩
        | false =>
          go_upto_region 4 with (fail)
          refine wp_region_quiet_below (by kernel_rfl) (by kernel_rfl) ?_
          repeat (any_goals (first | go_big_quiet_step (fail)))
          refine wpQuiet_nil ?_
          intro v1 hv1
          have hb1 := below_anyY hv1
          clear hv1 r0 r1 r2 r3
          have HB2 := Lib.hid (HB.out.trans (hb1.mono HB.out.size))
          go_wp2_with fail
          go_roundw
          case rel => exact ⟨k, k + 1, by go_num, rfl, .inl (by omega), by rw [rsJ, HBD.out, h6, h7, HRS.out]; rfl, HB2.out⟩
          case measure => simp [intOf] <;> omega
    · have hd1 : decide ((k : Int) < (n : Int)) = false := decide_eq_false (by omega)
      have hR : rsJ L n = true := by
        rcases Nat.eq_zero_or_pos n with rfl | hp
        · rfl
        · have e : n = k := by omega
          rw [e]; exact HRS.out
      have HR := Lib.hid hR
      clear hR
      go_wp2_with fail
      go_ret
      exact ⟨dk_retB HR.out.symm, HB.out⟩
end
end Go.Proofs.YtagenkofoacajaaGreatDoor

namespace Go.Proofs.YtagenkofoacajaaGreatDoor
open Go.RowKit Vi Ar Cm

set_option linter.unusedSimpArgs false in
set_option maxRecDepth 100000 in
set_option maxHeartbeats 8000000 in
theorem journaltells_any (A : Option Addr) (n c : Nat) (L : List RcJ) (t u : Int) (w : World) (hl : RdX rcJ 8 w A n L) (hn : n ≤ maxLen) (hT : Tab w) :
    Calls Tryz.prog 3 #[.slice A n c, .int .i64 t, .int .i64 u] w fun e w' => e = .returned (.bool true) ∧ Below w.heap.size w w' := by
  unfold maxLen at hn
  by_cases h100 : n ≤ 100
  rotate_left
  · have t1 : decide ((n : Int) > 100) = true := decide_eq_true (by omega)
    have t2 : decide (100 < (n : Int)) = true := decide_eq_true (by omega)
    have t3 : decide (100 < n) = true := decide_eq_true (by omega)
    have HA := Lib.hid (awake38_any w hT)
    clear hl hT
    go_enter Tryz.func3, Tryz.ntmps3
    go_wp2_with fail
    refine HA.out.mono ?_
    rintro e wz ⟨rfl, hbz⟩
    go_wp2_with fail
    go_ret
    exact ⟨rfl, hbz⟩
  have t1 : decide ((n : Int) > 100) = false := decide_eq_false (by omega)
  have t2 : decide (100 < (n : Int)) = false := decide_eq_false (by omega)
  have t3 : decide (100 < n) = false := decide_eq_false (by omega)
  have HL := Lib.hid hl
  have HT := Lib.hid hT
  have hln : L.length = n := hl.1
  clear hl hT hn
  go_enter Tryz.func3, Tryz.ntmps3
  go_wp2_with fail
  clear t1 t2 t3
  go_loopw [7, 8, 9, 22] (fun a b r i wr => ∃ k : Nat, i = .int .i64 (k : Int) ∧ k ≤ n ∧ a = .int .i64 (ptJ L t u k).1 ∧ b = .int .i64 (ptJ L t u k).2 ∧ r = .bool (rsJ L k) ∧ Below w.heap.size w wr) (fun _ _ _ i _ => n - (intOf i).toNat)
  case atStart => exact ⟨0, rfl, Nat.zero_le _, rfl, rfl, rfl, Below.refl _ _⟩
  case round =>
    obtain ⟨k, rfl, hk, rfl, rfl, rfl, hb⟩ := hrel
    have HB := Lib.hid hb
    clear hb
    by_cases hlt : k < n
    · have hd1 : decide ((k : Int) < (n : Int)) = true := decide_eq_true (by omega)
      have hl1 : k < L.length := by omega
      obtain ⟨b, off, _, rfl, hbb, hcc⟩ := (HL.out.below HB.out).at hlt
      clear hcc
      obtain ⟨x, hx⟩ : ∃ x, L[k] = x := ⟨_, rfl⟩
      have HX := Lib.hid (show L[k]? = some x by rw [List.getElem?_eq_getElem hl1, hx])
      clear hx
      obtain ⟨x1, x2, x3, x4, x5, x6, x7, x8⟩ := x
      have c0 : wr.cell? ⟨b, off + k * 8, none⟩ = some (.int .i64 x1) := (HL.out.below HB.out).cellAt HX.out hlt 0 _ rfl
      have c1 : wr.cell? ⟨b, off + k * 8 + 1, none⟩ = some (.int .i64 x2) := (HL.out.below HB.out).cellAt HX.out hlt 1 _ rfl
      have c2 : wr.cell? ⟨b, off + k * 8 + 2, none⟩ = some (.int .i64 x3) := (HL.out.below HB.out).cellAt HX.out hlt 2 _ rfl
      have c3 : wr.cell? ⟨b, off + k * 8 + 3, none⟩ = some (.string x4) := (HL.out.below HB.out).cellAt HX.out hlt 3 _ rfl
      have c4 : wr.cell? ⟨b, off + k * 8 + 4, none⟩ = some (.string x5) := (HL.out.below HB.out).cellAt HX.out hlt 4 _ rfl
      have c5 : wr.cell? ⟨b, off + k * 8 + 5, none⟩ = some (.string x6) := (HL.out.below HB.out).cellAt HX.out hlt 5 _ rfl
      have c6 : wr.cell? ⟨b, off + k * 8 + 6, none⟩ = some (.int .i64 x7) := (HL.out.below HB.out).cellAt HX.out hlt 6 _ rfl
      have c7 : wr.cell? ⟨b, off + k * 8 + 7, none⟩ = some (.int .i64 x8) := (HL.out.below HB.out).cellAt HX.out hlt 7 _ rfl
      have HB1 := Lib.hid (HB.out.alloc HB.out.size (.cells #[.int .i64 x1, .int .i64 x2, .int .i64 x3, .string x4, .string x5, .string x6, .int .i64 x7, .int .i64 x8] 25 (0, 0)))
      have HN := Lib.hid (blk_new wr (.cells #[.int .i64 x1, .int .i64 x2, .int .i64 x3, .string x4, .string x5, .string x6, .int .i64 x7, .int .i64 x8] 25 (0, 0)))
      have hi0 : (0 : Int) ≤ (k : Int) := by omega
      have hi3 : (k : Int) < (n : Int) := by omega
      have hw1 : IntKind.i64.wrap ((k : Int) + 1) = (k : Int) + 1 := IntWalk.i64_in _ (by omega)
      by_cases hk0 : k = 0
      · have hd2 : decide ((k : Int) > 0) = false := decide_eq_false (by omega)
        have hd3 : decide (0 < (k : Int)) = false := decide_eq_false (by omega)
        have hd4 : decide (0 < k) = false := decide_eq_false (by omega)
        have HK0 := Lib.hid hk0
        clear hk0
        go_upto_region 8 with (fail)
        go_upto_region 8 with (fail)
        refine wp_region_quiet_below (by kernel_rfl) (by kernel_rfl) ?_
        repeat (any_goals (first | go_big_quiet_step (fail)))
        refine wpQuiet_nil ?_
        intro v1 hv1
        have hb1 := below_anyY hv1
        clear hv1 
        have HN := Lib.hid (blk_below HN.out hb1)
        have HB2 := Lib.hid (HB1.out.trans (hb1.mono HB1.out.size))
        clear hb1
        go_upto_region 10 with (fail)
        have n6 := (cell_of_row _ _ 6 _ _ _ HN.out).trans rfl
        have r0 := fun d os => cell_regrown n6 d os
        have n7 := (cell_of_row _ _ 7 _ _ _ HN.out).trans rfl
        have r1 := fun d os => cell_regrown n7 d os
        clear n6 n7
        refine wp_region_quiet_below (by kernel_rfl) (by kernel_rfl) ?_
        repeat (any_goals (first | go_big_quiet_step (fail)))
        refine wpQuiet_nil ?_
        intro v2 hv1
        have hb1 := below_anyY hv1
        clear hv1 r0 r1
        have HN := Lib.hid (blk_below HN.out hb1)
        have HB3 := Lib.hid (HB2.out.trans (hb1.mono HB2.out.size))
        clear hb1
        go_wp2_with fail
        go_roundw
        case rel => exact ⟨k + 1, by go_num, by omega, by rw [ptJ_at HX.out], by rw [ptJ_at HX.out], by have e := HK0.out; subst e; rfl, HB3.out⟩
        case measure => simp [intOf] <;> omega
      · have hd2 : decide ((k : Int) > 0) = true := decide_eq_true (by omega)
        have hd3 : decide (0 < (k : Int)) = true := decide_eq_true (by omega)
        have hd4 : decide (0 < k) = true := decide_eq_true (by omega)
        obtain ⟨j, hkj⟩ : ∃ j, k = j + 1 := ⟨k - 1, by omega⟩
        have hl0 : j < L.length := by omega
        have hjn : j < n := by omega
        obtain ⟨y, hy⟩ : ∃ y, L[j] = y := ⟨_, rfl⟩
        have HY := Lib.hid (show L[j]? = some y by rw [List.getElem?_eq_getElem hl0, hy])
        clear hy hl0
        obtain ⟨y1, y2, y3, y4, y5, y6, y7, y8⟩ := y
        have HBD : Hid (bdJ L k = (decide (x7 < y7) || decide (x8 < y8))) := Lib.hid (by subst hkj; exact bdJ_at HY.out HX.out)
        have hi1 : (0 : Int) ≤ (j : Int) := by omega
        have hi2 : (j : Int) < (n : Int) := by omega
        have hw0 : IntKind.i64.wrap ((k : Int) - 1) = (j : Int) := by rw [IntWalk.i64_in _ (by omega)]; omega
        have HKJ := Lib.hid hkj
        clear hkj hk0
        cases h6 : decide (x7 < y7) with
        | true =>
          go_upto_region 8 with (fail)
          go_upto_region 8 with (fail)
          have n6 := (cell_of_row _ _ 6 _ _ _ HN.out).trans rfl
          have r0 := fun d os => cell_regrown n6 d os
          have n7 := (cell_of_row _ _ 7 _ _ _ HN.out).trans rfl
          have r1 := fun d os => cell_regrown n7 d os
          have p6 := (HL.out.below HB1.out).cellAt HY.out hjn 6 _ rfl
          have r2 := fun d os => cell_regrown p6 d os
          have p7 := (HL.out.below HB1.out).cellAt HY.out hjn 7 _ rfl
          have r3 := fun d os => cell_regrown p7 d os
          clear n6 n7 p6 p7
          refine wp_region_quiet_below (by kernel_rfl) (by kernel_rfl) ?_
          repeat (any_goals (first | go_big_quiet_step (fail)))
          refine wpQuiet_nil ?_
          intro v1 hv1
          have hb1 := below_anyY hv1
          clear hv1 r0 r1 r2 r3
          have HN := Lib.hid (blk_below HN.out hb1)
          have HB2 := Lib.hid (HB1.out.trans (hb1.mono HB1.out.size))
          clear hb1
          go_upto_region 10 with (fail)
          have n6 := (cell_of_row _ _ 6 _ _ _ HN.out).trans rfl
          have r0 := fun d os => cell_regrown n6 d os
          have n7 := (cell_of_row _ _ 7 _ _ _ HN.out).trans rfl
          have r1 := fun d os => cell_regrown n7 d os
          clear n6 n7
          refine wp_region_quiet_below (by kernel_rfl) (by kernel_rfl) ?_
          repeat (any_goals (first | go_big_quiet_step (fail)))
          refine wpQuiet_nil ?_
          intro v2 hv1
          have hb1 := below_anyY hv1
          clear hv1 r0 r1
          have HN := Lib.hid (blk_below HN.out hb1)
          have HB3 := Lib.hid (HB2.out.trans (hb1.mono HB2.out.size))
          clear hb1
          go_wp2_with fail
          go_roundw
          case rel => exact ⟨k + 1, by go_num, by omega, by rw [ptJ_at HX.out], by rw [ptJ_at HX.out], by rw [rsJ, HBD.out, h6]; simp, HB3.out⟩
          case measure => simp [intOf] <;> omega
        | false =>
          cases h7 : decide (x8 < y8) with
          | true =>
            go_upto_region 8 with (fail)
            go_upto_region 8 with (fail)
            have n6 := (cell_of_row _ _ 6 _ _ _ HN.out).trans rfl
            have r0 := fun d os => cell_regrown n6 d os
            have n7 := (cell_of_row _ _ 7 _ _ _ HN.out).trans rfl
            have r1 := fun d os => cell_regrown n7 d os
            have p6 := (HL.out.below HB1.out).cellAt HY.out hjn 6 _ rfl
            have r2 := fun d os => cell_regrown p6 d os
            have p7 := (HL.out.below HB1.out).cellAt HY.out hjn 7 _ rfl
            have r3 := fun d os => cell_regrown p7 d os
            clear n6 n7 p6 p7
            refine wp_region_quiet_below (by kernel_rfl) (by kernel_rfl) ?_
            repeat (any_goals (first | go_big_quiet_step (fail)))
            refine wpQuiet_nil ?_
            intro v1 hv1
            have hb1 := below_anyY hv1
            clear hv1 r0 r1 r2 r3
            have HN := Lib.hid (blk_below HN.out hb1)
            have HB2 := Lib.hid (HB1.out.trans (hb1.mono HB1.out.size))
            clear hb1
            go_upto_region 10 with (fail)
            have n6 := (cell_of_row _ _ 6 _ _ _ HN.out).trans rfl
            have r0 := fun d os => cell_regrown n6 d os
            have n7 := (cell_of_row _ _ 7 _ _ _ HN.out).trans rfl
            have r1 := fun d os => cell_regrown n7 d os
            clear n6 n7
            refine wp_region_quiet_below (by kernel_rfl) (by kernel_rfl) ?_
            repeat (any_goals (first | go_big_quiet_step (fail)))
            refine wpQuiet_nil ?_
            intro v2 hv1
            have hb1 := below_anyY hv1
            clear hv1 r0 r1
            have HN := Lib.hid (blk_below HN.out hb1)
            have HB3 := Lib.hid (HB2.out.trans (hb1.mono HB2.out.size))
            clear hb1
            go_wp2_with fail
            go_roundw
            case rel => exact ⟨k + 1, by go_num, by omega, by rw [ptJ_at HX.out], by rw [ptJ_at HX.out], by rw [rsJ, HBD.out, h6, h7]; simp, HB3.out⟩
            case measure => simp [intOf] <;> omega
          | false =>
            go_upto_region 8 with (fail)
            go_upto_region 8 with (fail)
            have n6 := (cell_of_row _ _ 6 _ _ _ HN.out).trans rfl
            have r0 := fun d os => cell_regrown n6 d os
            have n7 := (cell_of_row _ _ 7 _ _ _ HN.out).trans rfl
            have r1 := fun d os => cell_regrown n7 d os
            have p6 := (HL.out.below HB1.out).cellAt HY.out hjn 6 _ rfl
            have r2 := fun d os => cell_regrown p6 d os
            have p7 := (HL.out.below HB1.out).cellAt HY.out hjn 7 _ rfl
            have r3 := fun d os => cell_regrown p7 d os
            clear n6 n7 p6 p7
            refine wp_region_quiet_below (by kernel_rfl) (by kernel_rfl) ?_
            repeat (any_goals (first | go_big_quiet_step (fail)))
            refine wpQuiet_nil ?_
            intro v1 hv1
            have hb1 := below_anyY hv1
            clear hv1 r0 r1 r2 r3
            have HN := Lib.hid (blk_below HN.out hb1)
            have HB2 := Lib.hid (HB1.out.trans (hb1.mono HB1.out.size))
            clear hb1
            go_upto_region 10 with (fail)
            have n6 := (cell_of_row _ _ 6 _ _ _ HN.out).trans rfl
            have r0 := fun d os => cell_regrown n6 d os
            have n7 := (cell_of_row _ _ 7 _ _ _ HN.out).trans rfl
            have r1 := fun d os => cell_regrown n7 d os
            clear n6 n7
            refine wp_region_quiet_below (by kernel_rfl) (by kernel_rfl) ?_
            repeat (any_goals (first | go_big_quiet_step (fail)))
            refine wpQuiet_nil ?_
            intro v2 hv1
            have hb1 := below_anyY hv1
            clear hv1 r0 r1
            have HN := Lib.hid (blk_below HN.out hb1)
            have HB3 := Lib.hid (HB2.out.trans (hb1.mono HB2.out.size))
            clear hb1
            go_wp2_with fail
            go_roundw
            case rel => exact ⟨k + 1, by go_num, by omega, by rw [ptJ_at HX.out], by rw [ptJ_at HX.out], by rw [rsJ, HBD.out, h6, h7]; simp, HB3.out⟩
            case measure => simp [intOf] <;> omega
    · have hd1 : decide ((k : Int) < (n : Int)) = false := decide_eq_false (by omega)
      have e : k = n := by omega
      subst e
      go_wp2_with fail
      refine (jtail_any t u (HL.out.below HB.out) h100).mono ?_
      rintro e w1 ⟨rfl, hb⟩
      have HB1 := Lib.hid (HB.out.trans (hb.mono HB.out.size))
      clear hb
      generalize ptJ L t u k = Z at *
      have e1 : (Z.1 == Z.1) = true := by simp
      have e2 : (Z.2 == Z.2) = true := by simp
      go_wp2_with fail
      refine (jrise_any (HL.out.below HB1.out) h100).mono ?_
      rintro e w2 ⟨rfl, hb⟩
      have HB2 := Lib.hid (HB1.out.trans (hb.mono HB1.out.size))
      clear hb
      go_wp2_with fail
      refine (awake38_any _ (HT.out.later HB2.out)).mono ?_
      rintro e w3 ⟨rfl, hb⟩
      have HB3 := Lib.hid (HB2.out.trans (hb.mono HB2.out.size))
      clear hb
      go_wp2_with fail
      go_ret
      exact ⟨rfl, HB3.out⟩
end Go.Proofs.YtagenkofoacajaaGreatDoor

namespace Go.Proofs.YtagenkofoacajaaGreatDoor
open Go.RowKit Vi Ar Cm

set_option maxRecDepth 100000 in
set_option maxHeartbeats 8000000 in
theorem journalnobody_any (a b k : Int) (x o y : ByteArray) (t u hh ep : Int) (th : Bool) (w : World) (hT : Tab w) :
    Calls Tryz.prog 4 #[.agg #[.int .i64 a, .int .i64 b, .int .i64 k, .string x, .string o, .string y, .int .i64 t, .int .i64 u], .int .i64 hh, .int .i64 ep, .bool th] w fun e w' => e = .returned (.bool true) ∧ Below w.heap.size w w' := by
  have HT := Lib.hid hT
  have HF := Lib.hid (blk_new w (.cells #[.int .i64 a, .int .i64 b, .int .i64 k, .string x, .string o, .string y, .int .i64 t, .int .i64 u] 25 (0, 0)))
  have HB := Lib.hid ((Below.refl w.heap.size w).alloc (Nat.le_refl _) (.cells #[.int .i64 a, .int .i64 b, .int .i64 k, .string x, .string o, .string y, .int .i64 t, .int .i64 u] 25 (0, 0)))
  obtain ⟨v, hv⟩ : ∃ v, v = w.alloc (.cells #[.int .i64 a, .int .i64 b, .int .i64 k, .string x, .string o, .string y, .int .i64 t, .int .i64 u] 25 (0, 0)) := ⟨_, rfl⟩
  have HVV := Lib.hid hv
  rw [← hv] at HF HB
  clear hT hv
  cases th
  · go_enter Tryz.func4, Tryz.ntmps4
    go_upto_region 1 with (fail)
    rw [← HVV.out]
    clear HVV
    have HN : Hid (NoJ none v) := Lib.hid (.inl rfl)
    go_upto_region 4 with (fail)
    obtain ⟨v1, hv1⟩ : ∃ z, z = v := ⟨_, rfl⟩
    rw [← hv1] at HN HF HB ⊢
    clear hv1
    go_wp2_with fail
    refine (njopen hh ep _).mono ?_
    rintro e w' ⟨rfl, rfl⟩
    have hb : Below v1.heap.size v1 (v1.alloc (.cells #[.slice none 0 0, .slice none 0 0, .bool false, .bool false, .int .i64 0, .int .i64 0] 44 (0, 0))) := (Below.refl _ _).alloc (Nat.le_refl _) _
    have HD := Lib.hid (blk_new v1 (.cells #[.slice none 0 0, .slice none 0 0, .bool false, .bool false, .int .i64 0, .int .i64 0] 44 (0, 0)))
    have HN := Lib.hid (HN.out.below hb)
    have HF := Lib.hid (blk_below HF.out hb)
    have HB := Lib.hid (HB.out.trans (hb.mono HB.out.size))
    clear hb
    go_wp2_with fail
    refine (nat_zero _ hh ep 0 _ HD.out).mono ?_
    rintro e w' ⟨rfl, rfl⟩
    clear HD
    go_upto_region 6 with (fail)
    generalize v1.alloc (.cells #[.slice none 0 0, .slice none 0 0, .bool false, .bool false, .int .i64 0, .int .i64 0] 44 (0, 0)) = v2 at *
    have y0 : v2.cell? ⟨w.heap.size, 0, none⟩ = some (.int .i64 a) := (cell_of_row _ _ 0 _ _ _ HF.out).trans rfl
    have y1 : v2.cell? ⟨w.heap.size, 1, none⟩ = some (.int .i64 b) := (cell_of_row _ _ 1 _ _ _ HF.out).trans rfl
    have y2 : v2.cell? ⟨w.heap.size, 2, none⟩ = some (.int .i64 k) := (cell_of_row _ _ 2 _ _ _ HF.out).trans rfl
    have y3 : v2.cell? ⟨w.heap.size, 3, none⟩ = some (.string x) := (cell_of_row _ _ 3 _ _ _ HF.out).trans rfl
    have y4 : v2.cell? ⟨w.heap.size, 4, none⟩ = some (.string o) := (cell_of_row _ _ 4 _ _ _ HF.out).trans rfl
    have y5 : v2.cell? ⟨w.heap.size, 5, none⟩ = some (.string y) := (cell_of_row _ _ 5 _ _ _ HF.out).trans rfl
    have y6 : v2.cell? ⟨w.heap.size, 6, none⟩ = some (.int .i64 t) := (cell_of_row _ _ 6 _ _ _ HF.out).trans rfl
    have y7 : v2.cell? ⟨w.heap.size, 7, none⟩ = some (.int .i64 u) := (cell_of_row _ _ 7 _ _ _ HF.out).trans rfl
    go_wp2_with fail
    clear y0 y1 y2 y3 y4 y5 y6 y7 HF
    refine (njappend a b k x o y t u HN.out).mono ?_
    rintro e w1 ⟨rfl, hb⟩
    have HN := Lib.hid (HN.out.below hb)
    have HB := Lib.hid (HB.out.trans (hb.mono HB.out.size))
    clear hb
    go_wp2_with fail
    refine (njcount HN.out).mono ?_
    rintro e w' ⟨rfl, rfl⟩
    go_wp2_with fail
    refine (awake38_any _ (HT.out.later HB.out)).mono ?_
    rintro e w3 ⟨rfl, hb⟩
    have HB := Lib.hid (HB.out.trans (hb.mono HB.out.size))
    clear hb
    go_wp2_with fail
    go_ret
    exact ⟨rfl, HB.out⟩
  · go_enter Tryz.func4, Tryz.ntmps4
    go_upto_region 1 with (fail)
    rw [← HVV.out]
    clear HVV
    have hb : Below v.heap.size v (v.alloc (.cells #[.pointer none, .int .i64 0, .int .i64 0, .int .i64 0] 33 (0, 0))) := (Below.refl _ _).alloc (Nat.le_refl _) _
    have HN : Hid (NoJ (some ⟨v.heap.size, 0, none⟩) (v.alloc (.cells #[.pointer none, .int .i64 0, .int .i64 0, .int .i64 0] 33 (0, 0)))) := Lib.hid (.inr ⟨_, rfl, blk_new v _⟩)
    have HF := Lib.hid (blk_below HF.out hb)
    have HB := Lib.hid (HB.out.trans (hb.mono HB.out.size))
    clear hb
    go_upto_region 4 with (fail)
    generalize v.alloc (.cells #[.pointer none, .int .i64 0, .int .i64 0, .int .i64 0] 33 (0, 0)) = v1 at *
    generalize v.heap.size = p1 at *
    go_wp2_with fail
    refine (njopen hh ep _).mono ?_
    rintro e w' ⟨rfl, rfl⟩
    have hb : Below v1.heap.size v1 (v1.alloc (.cells #[.slice none 0 0, .slice none 0 0, .bool false, .bool false, .int .i64 0, .int .i64 0] 44 (0, 0))) := (Below.refl _ _).alloc (Nat.le_refl _) _
    have HD := Lib.hid (blk_new v1 (.cells #[.slice none 0 0, .slice none 0 0, .bool false, .bool false, .int .i64 0, .int .i64 0] 44 (0, 0)))
    have HN := Lib.hid (HN.out.below hb)
    have HF := Lib.hid (blk_below HF.out hb)
    have HB := Lib.hid (HB.out.trans (hb.mono HB.out.size))
    clear hb
    go_wp2_with fail
    refine (nat_zero _ hh ep 0 _ HD.out).mono ?_
    rintro e w' ⟨rfl, rfl⟩
    clear HD
    go_upto_region 6 with (fail)
    generalize v1.alloc (.cells #[.slice none 0 0, .slice none 0 0, .bool false, .bool false, .int .i64 0, .int .i64 0] 44 (0, 0)) = v2 at *
    have y0 : v2.cell? ⟨w.heap.size, 0, none⟩ = some (.int .i64 a) := (cell_of_row _ _ 0 _ _ _ HF.out).trans rfl
    have y1 : v2.cell? ⟨w.heap.size, 1, none⟩ = some (.int .i64 b) := (cell_of_row _ _ 1 _ _ _ HF.out).trans rfl
    have y2 : v2.cell? ⟨w.heap.size, 2, none⟩ = some (.int .i64 k) := (cell_of_row _ _ 2 _ _ _ HF.out).trans rfl
    have y3 : v2.cell? ⟨w.heap.size, 3, none⟩ = some (.string x) := (cell_of_row _ _ 3 _ _ _ HF.out).trans rfl
    have y4 : v2.cell? ⟨w.heap.size, 4, none⟩ = some (.string o) := (cell_of_row _ _ 4 _ _ _ HF.out).trans rfl
    have y5 : v2.cell? ⟨w.heap.size, 5, none⟩ = some (.string y) := (cell_of_row _ _ 5 _ _ _ HF.out).trans rfl
    have y6 : v2.cell? ⟨w.heap.size, 6, none⟩ = some (.int .i64 t) := (cell_of_row _ _ 6 _ _ _ HF.out).trans rfl
    have y7 : v2.cell? ⟨w.heap.size, 7, none⟩ = some (.int .i64 u) := (cell_of_row _ _ 7 _ _ _ HF.out).trans rfl
    go_wp2_with fail
    clear y0 y1 y2 y3 y4 y5 y6 y7 HF
    refine (njappend a b k x o y t u HN.out).mono ?_
    rintro e w1 ⟨rfl, hb⟩
    have HN := Lib.hid (HN.out.below hb)
    have HB := Lib.hid (HB.out.trans (hb.mono HB.out.size))
    clear hb
    go_wp2_with fail
    refine (njcount HN.out).mono ?_
    rintro e w' ⟨rfl, rfl⟩
    go_wp2_with fail
    refine (awake38_any _ (HT.out.later HB.out)).mono ?_
    rintro e w3 ⟨rfl, hb⟩
    have HB := Lib.hid (HB.out.trans (hb.mono HB.out.size))
    clear hb
    go_wp2_with fail
    go_ret
    exact ⟨rfl, HB.out⟩
end Go.Proofs.YtagenkofoacajaaGreatDoor
