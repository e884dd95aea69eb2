/- Several texts of one family, merged for a claim. Conditions as in its parts. -/
import Derived.Test.YtagenkofoacajaaDoorProg
import Derived.WalkKit
import Derived.Lib.Hide
import Derived.WalkSpells
import Derived.WalkLawsBesides
import Derived.Below
import Derived.Handy
import Derived.RegionTactic
import Derived.Lib.Strings
import Derived.Lib.Walk
import Derived.Lib.Builder
import Derived.Lib.AppendStr
import Derived.Lib.UnsafeStr
import Derived.Lib.FrozenHead
import Derived.Laws.Externs
import Derived.Test.YtagenkofoacajaaDoorG0
import Derived.Lib.BufferWrite
import Derived.Deep.DeepCutAuto
import Derived.Test.YtagenkofoacajaaDoorOLb
namespace Ar
/-- how many sectors a half has -/
def hf (n : Int) : Int := if n < 16 ∨ 4096 < n then 0 else (n - 2) / 2
/-- the first sector of a half -/
def fs (n h : Int) : Int := if h = 1 then 2 + hf n else 2
/-- how many sectors so many bytes take -/
def sc (b : Int) : Int := if b ≤ 0 then 0 else (b - 1) / 128 + 1
/-- the first sector of the log -/
def lg (n h p : Int) : Int := fs n h + min (sc p) (hf n)
/-- what a log may have -/
def fr (n p r : Int) : Int := hf n - min (sc p) (hf n) - min (max r 0) (hf n) - 1
/-- what is left -/
def lf (n p r : Int) : Int := if hf n - 1 < r ∨ hf n - 1 < sc p then -1 else if 0 < r then hf n - 1 - r - sc p else hf n - 1 - sc p
/-- does it fit -/
def ft (n p t r : Int) : Bool := decide (sc t ≤ fr n p r)
/-- for what a sector is -/
def ofv (n h p t r s : Int) : Int :=
  if n < 16 ∨ 4096 < n ∨ s < 0 ∨ n ≤ s then 6 else if s < 2 then 0
  else if s < fs n h ∨ fs n h + hf n ≤ s then 5
  else if s < lg n h p then 1 else if s < lg n h p + sc t then 2
  else if fs n h + hf n - 1 - s < r then 3 else 4

theorem hf_bd (n : Int) : 0 ≤ hf n ∧ hf n ≤ 2047 := by unfold hf; split <;> omega
theorem hf_in (n : Int) (h0 : 16 ≤ n) (h1 : n ≤ 4096) : hf n = (n - 2) / 2 := by unfold hf; rw [if_neg (by omega)]
theorem hf_out (n : Int) (h : n < 16 ∨ 4096 < n) : hf n = 0 := by unfold hf; rw [if_pos h]
theorem fs_bd (n h : Int) : 2 ≤ fs n h ∧ fs n h ≤ 2049 := by have := hf_bd n; unfold fs; split <;> omega
theorem sc_bd (b : Int) (h : b ≤ 9223372036854775807) : 0 ≤ sc b ∧ sc b ≤ 72057594037927936 := by unfold sc; split <;> omega
theorem sc_le (b : Int) (h : b ≤ 0) : sc b = 0 := by unfold sc; rw [if_pos h]
theorem sc_gt (b : Int) (h : 0 < b) : sc b = (b - 1) / 128 + 1 := by unfold sc; rw [if_neg (by omega)]
theorem sc_ref0 (b : Int) (h : 0 < b) (h1 : b % 128 = 0) : sc b = b / 128 := by rw [sc_gt b h]; omega
theorem sc_ref1 (b : Int) (h : 0 < b) (h1 : 0 < b % 128) : sc b = b / 128 + 1 := by rw [sc_gt b h]; omega
theorem lg_bd (n h p : Int) (hp : p ≤ 9223372036854775807) : 2 ≤ lg n h p ∧ lg n h p ≤ 4096 := by
  have := hf_bd n; have := fs_bd n h; have := sc_bd p hp; unfold lg; omega
theorem fr_bd (n p r : Int) (hp : p ≤ 9223372036854775807) : -4095 ≤ fr n p r ∧ fr n p r ≤ 2046 := by
  have := hf_bd n; have := sc_bd p hp; unfold fr; omega
theorem fr_lf (n p r : Int) (hp : p ≤ 9223372036854775807) : (fr n p r < 0 ∧ lf n p r < 0) ∨ (0 ≤ fr n p r ∧ lf n p r = fr n p r) := by
  have := hf_bd n; have := sc_bd p hp; unfold fr lf
  split
  · omega
  · split <;> omega
theorem lf_bd (n p r : Int) (hp : p ≤ 9223372036854775807) : -4095 ≤ lf n p r ∧ lf n p r ≤ 2046 := by
  have := hf_bd n; have := sc_bd p hp; unfold lf
  split
  · omega
  · split <;> omega
end Ar

namespace Go.Proofs.YtagenkofoacajaaDoor
open Go.RowKit Ar

theorem ret_i {a b : Int} (h : a = b) : Ending.returned (.int .i64 a) = .returned (.int .i64 b) := by rw [h]
theorem ret_b {a b : Bool} (h : a = b) : Ending.returned (.bool a) = .returned (.bool b) := by rw [h]

/-- may a disk have so many sectors? -/
def ck (n : Int) : Int := if n < 16 ∨ 4096 < n then 2 else 0
theorem ck_out (n : Int) (h : n < 16 ∨ 4096 < n) : ck n = 2 := by unfold ck; rw [if_pos h]
theorem ck_in (n : Int) (h0 : 16 ≤ n) (h1 : n ≤ 4096) : ck n = 0 := by unfold ck; rw [if_neg (by omega)]

theorem fs_onefirst (n h : Int) (e : h = 1) : fs n h = 2 + hf n := by unfold fs; rw [if_pos e]
theorem fs_twofirst (n h : Int) (e : ¬ h = 1) : fs n h = 2 := by unfold fs; rw [if_neg e]
theorem fs_onerefFirst (n h : Int) (e : h = 1) : fs n h = 2 + hf n := by unfold fs; rw [if_pos e]
theorem fs_tworefFirst (n h : Int) (e : ¬ h = 1) : fs n h = 2 := by unfold fs; rw [if_neg e]
set_option maxHeartbeats 400000 in
theorem sectors_any (b : Int) (w : World) (hb0 : -9223372036854775808 ≤ b) (hb1 : b ≤ 9223372036854775807) :
    Calls Tryd.prog 37 #[.int .i64 b] w fun e w' => e = .returned (.int .i64 (sc b)) ∧ w = w' := by
  by_cases a : b ≤ 0
  · have H := Lib.hid (sc_le b a)
    go_enter Tryd.func37, Tryd.ntmps37
    go_wp2
    go_ret
    exact ⟨ret_i H.out.symm, rfl⟩
  · have a1 : 0 < b := by omega
    have H := Lib.hid (sc_gt b a1)
    clear a
    have a2 : 1 ≤ b := a1
    have a3 : (b - 1) / 128 ≤ 72057594037927935 := by omega
    have a4 : 0 ≤ (b - 1) / 128 := by omega
    have a5 : decide (b ≤ 0) = false := by simp; omega
    go_enter Tryd.func37, Tryd.ntmps37
    go_wp2
    go_ret
    exact ⟨ret_i H.out.symm, rfl⟩

end Go.Proofs.YtagenkofoacajaaDoor

namespace Go.Proofs.YtagenkofoacajaaDoor
open Go.RowKit

/-- a builder in block b, with these bytes -/
def Bld (w : World) (B b : Nat) (l : List UInt8) : Prop := Lib.IsBuilderF 104 5 B b (Lib.byteCells l) w
theorem Bld.new (w : World) : Bld (w.alloc (.cells #[.pointer none, .slice none 0 0] 104)) w.heap.size w.heap.size [] :=
  .inl ⟨Nat.le_refl _, _, heap_alloc_new w _, ⟨rfl, .inl ⟨rfl, rfl⟩⟩, by simp [Value.ownBlock]⟩
theorem bld_later {w w' : World} {B b : Nat} {p : Value} {bs : List Value} (h : Lib.BuilderAtF 104 5 B b p bs w) (hb : Below w.heap.size w w') : Lib.BuilderAtF 104 5 B b p bs w' := by
  have lt : ∀ (k : Nat) (o : Obj), w.heap[k]? = some o → k < w.heap.size := fun k o h => by
    rcases Nat.lt_or_ge k w.heap.size with q | q
    · exact q
    · rw [Array.getElem?_eq_none q] at h
      cases h
  obtain ⟨h1, v, h2, h3, h4⟩ := h
  refine ⟨h1, v, (hb.block b (lt b _ h2)).trans h2, ?_, h4⟩
  rcases h3 with ⟨h5, h6 | ⟨g, cap, cur, fz, h7, h8, h9, h10⟩⟩
  · exact ⟨h5, .inl h6⟩
  · exact ⟨h5, .inr ⟨g, cap, cur, fz, h7, h8, (hb.block g (lt g _ h9)).trans h9, h10⟩⟩
theorem sizeBld : (Tryd.prog.info? 104).map (·.size) = some 2 := by kernel_rfl
theorem liesBld : liesAt Tryd.prog Tryd.prog.depth 104 (2 / Tryd.prog.cellsOf 104) 0 104 1 = true := by kernel_rfl
theorem infoBy : (Tryd.prog.info? 5).map (fun i => (i.zero, i.size, i.bytes)) = some (some (.int .u8 0), 1, 1) := by kernel_rfl
theorem cellsBy : Tryd.prog.cellsOf 5 = 1 := by kernel_rfl
set_option maxRecDepth 100000 in
theorem copyCheck_used (b : Nat) (w : World) (h0 : w.cell? ⟨b, 0, none⟩ = some (.pointer (some ⟨b, 0, none⟩))) :
    Calls Tryd.prog 98 #[.pointer (some ⟨b, 0, none⟩)] w fun e w' => e = .returned (.tuple #[]) ∧ w' = w := by
  obtain ⟨j, hj, _⟩ := Option.map_eq_some_iff.1 sizeBld
  go_enter Tryd.func98, Tryd.ntmps98
  go_wp2
  rw [Lib.run_neq_ptr_same w _ Tryd.underlying102 hj]
  go_wp2
  go_end0
  exact ⟨rfl, rfl⟩
set_option maxHeartbeats 1000000 in
set_option maxRecDepth 100000 in
theorem copyCheck_fresh (b : Nat) (w : World) (h0 : w.cell? ⟨b, 0, none⟩ = some (.pointer none)) (hsh : w.shape? b = some (104, 2)) (hfz : w.frozen? ⟨b, 0, none⟩ = false) :
    Calls Tryd.prog 98 #[.pointer (some ⟨b, 0, none⟩)] w fun e w' => e = .returned (.tuple #[]) ∧ w' = w.setCell ⟨b, 0, none⟩ (.pointer (some ⟨b, 0, none⟩)) := by
  obtain ⟨j, hj, hjs⟩ := Option.map_eq_some_iff.1 sizeBld
  go_enter Tryd.func98, Tryd.ntmps98
  go_wp2
  rw [Lib.run_to_unsafe w ⟨b, 0, none⟩ Tryd.underlying102 Tryd.underlying164 hj (by rw [hjs]; decide) hsh (Nat.zero_lt_succ 1)]
  simp only [Result.andThen]
  rw [Oper.upon_value]
  go_wp2
  rw [run_callFunc_extern Tryd.func126 (by kernel_rfl) (by kernel_rfl) (by kernel_rfl) (e := Extern.AbiNoEscape.same) (by kernel_rfl)]
  rw [Lib.run_noEscape]
  simp only [Result.andThen]
  rw [Oper.upon_value]
  go_wp2
  rw [Lib.run_from_unsafe w ⟨b, 0, none⟩ Tryd.underlying164 Tryd.underlying102 hj hsh liesBld]
  simp only [Result.andThen]
  rw [Oper.upon_value]
  go_wp2
  go_end0
  exact ⟨rfl, rfl⟩
theorem copyCheck_any (B b : Nat) (l : List UInt8) (w : World) (h : Bld w B b l) :
    Calls Tryd.prog 98 #[.pointer (some ⟨b, 0, none⟩)] w fun e w' => e = .returned (.tuple #[]) ∧ Lib.BuilderAtF 104 5 B b (.pointer (some ⟨b, 0, none⟩)) (Lib.byteCells l) w' ∧ Below B w w' := by
  rcases h with h | h
  · refine (copyCheck_fresh b w h.cell0 h.shape h.frozen0).mono ?_
    rintro e w' ⟨rfl, rfl⟩
    exact ⟨rfl, h.used _, (Below.refl B w).setCell (p := ⟨b, 0, none⟩) h.1 _⟩
  · refine (copyCheck_used b w h.cell0).mono ?_
    rintro e w' ⟨rfl, rfl⟩
    exact ⟨rfl, h, Below.refl B _⟩
set_option maxHeartbeats 2000000 in
set_option maxRecDepth 100000 in
theorem write_any (B b : Nat) (l : List UInt8) (s : ByteArray) (w : World) (h : Bld w B b l) (hlen : l.length + s.size ≤ 10000000) (hBw : B ≤ w.heap.size) :
    Calls Tryd.prog 68 #[.pointer (some ⟨b, 0, none⟩), .string s] w fun e w' => e = .returned (.tuple #[.int .i64 s.size, .nilIface]) ∧ Bld w' B b (l ++ s.data.toList) ∧ Below B w w' := by
  obtain ⟨i0, hi, hz0, hz1, hz2⟩ := info_parts infoBy
  go_enter Tryd.func68, Tryd.ntmps68
  go_wp2_with fail
  refine (copyCheck_any B b l _ h).mono ?_
  rintro e w1 ⟨rfl, h1, hb1⟩
  obtain ⟨hB, v, hbk, hown, hne⟩ := h1
  rw [Lib.byteCells_length] at hown
  have c0 : w1.cell? ⟨b, 0, none⟩ = some (.pointer (some ⟨b, 0, none⟩)) := by rw [Lib.cell_of_heap hbk]; rfl
  have c1 : w1.cell? ⟨b, 1, none⟩ = some v := by rw [Lib.cell_of_heap hbk]; rfl
  go_wp2_with (at_builtin; refine Lib.wpList_append_own_stringF _ rfl _ _ 95 9 rfl B 5 i0 Tryd.underlying95 Tryd.underlying9 hi hz0 hz1 hz2 _ _ _ rfl hown s rfl ?c3 ?c4 ?c5 ?_)
  case c3 => unfold maxLen; omega
  case c4 => omega
  case c5 => have := hb1.size; omega
  intro v' w2 hown' hgrow _
  have hlt : b < w1.heap.size := by
    rcases Nat.lt_or_ge b w1.heap.size with h' | h'
    · exact h'
    · simp [Array.getElem?_eq_none h'] at hbk
  have hb2 : w2.heap[b]? = some (.cells #[.pointer (some ⟨b, 0, none⟩), v] 104 (0, 0)) := by
    rw [hgrow.block b hlt (fun e => hne e.symm)]
    exact hbk
  have d0 : w2.cell? ⟨b, 0, none⟩ = some (.pointer (some ⟨b, 0, none⟩)) := by rw [Lib.cell_of_heap hb2]; rfl
  have d1 : w2.cell? ⟨b, 1, none⟩ = some v := by rw [Lib.cell_of_heap hb2]; rfl
  have f1 : w2.frozen? ⟨b, 1, none⟩ = false := Lib.frozen_of_heap hb2 1
  obtain ⟨ao, n', cap, rfl⟩ : ∃ ao n' cap, v' = .slice ao n' cap := by
    rcases hown'.2 with ⟨hv, _⟩ | ⟨g, cap, cur, fz, hv, _⟩
    · exact ⟨_, _, _, hv⟩
    · exact ⟨_, _, _, hv⟩
  have HOW := Lib.hid hown'
  have HB2 := Lib.hid hb2
  have HG := Lib.hid hgrow
  have HOA := Lib.hid hown
  have HB1 := Lib.hid hb1
  clear hb2 hown' hgrow hbk hown hb1
  go_wp2
  go_ret2
  refine ⟨rfl, .inr ?_, ?_⟩
  · have hcs : Lib.byteCells (l ++ s.data.toList) = Lib.byteCells l ++ Lib.strCells s := by rw [Lib.byteCells_append, Lib.strCells_eq]
    rw [hcs]
    exact Lib.BuilderAtF.put (T := 104) (e := 5) hB HB2.out (bs' := Lib.byteCells l ++ Lib.strCells s) (by simpa [Lib.strCells_length, Lib.byteCells_length] using HOW.out) (by decide)
  · exact (HB1.out.grown HG.out (by have := HB1.out.size; omega) (fun k hk => (HOA.out.lt k hk).1)).setCell (p := ⟨b, 1, none⟩) hB _
set_option maxHeartbeats 1000000 in
set_option maxRecDepth 100000 in
theorem bstr_nil (b : Nat) (p : Value) (w : World) (hbk : w.heap[b]? = some (.cells #[p, .slice none 0 0] 104 (0, 0))) :
    Calls Tryd.prog 69 #[.pointer (some ⟨b, 0, none⟩)] w fun e w' => e = .returned (.string ⟨#[]⟩) ∧ Below w.heap.size w w' := by
  have hUS : ∀ (W : World) (q : Option Addr), (Builtin.unsafeString_ #[131, 3] 9 #[.pointer q, .int .i64 0]).run Tryd.prog W = .ok (.string .empty) W := fun W q => Lib.run_unsafeString_none W _ _ _ q
  have c1 : w.drew.cell? ⟨b, 1, none⟩ = some (.slice none 0 0) := by
    have : w.drew.heap[b]? = some (.cells #[p, .slice none 0 0] 104 (0, 0)) := hbk
    rw [Lib.cell_of_heap this]; rfl
  have hSD : (Builtin.unsafeSliceData_ #[95] 131 #[.slice none 0 0]).run Tryd.prog w.drew = .ok (.pointer none) w.drew := rfl
  clear hbk
  go_enter Tryd.func69, Tryd.ntmps69
  go_wp2
  go_region
  all_goals (go_wp2; go_ret; exact ⟨rfl, Below.drew (Below.refl _ w)⟩)
set_option maxHeartbeats 1000000 in
set_option maxRecDepth 100000 in
theorem bstr_some (B b : Nat) (l : List UInt8) (w : World) (h : Bld w B b l) (h0 : l ≠ []) :
    Calls Tryd.prog 69 #[.pointer (some ⟨b, 0, none⟩)] w fun e w' => e = .returned (.string ⟨l.toArray⟩) ∧ Below B w w' := by
  obtain ⟨p, hp, hAt⟩ : ∃ p, (p = .pointer none ∨ p = .pointer (some ⟨b, 0, none⟩)) ∧ Lib.BuilderAtF 104 5 B b p (Lib.byteCells l) w := by
    rcases h with h | h
    · exact ⟨_, .inl rfl, h⟩
    · exact ⟨_, .inr rfl, h⟩
  obtain ⟨hB, v, hbk, hown, hne⟩ := hAt
  have hl0 : l.length ≠ 0 := by simpa using h0
  rw [Lib.byteCells_length] at hown
  obtain ⟨g, cap, cur, fz, rfl, hbg, hg, hfz, hnc, hcm, hcs, htake⟩ : ∃ g cap cur fz, v = .slice (some ⟨g, 0, none⟩) l.length cap ∧ B ≤ g ∧ w.heap[g]? = some (.cells cur 5 fz) ∧ fz.2 ≤ l.length * 1 ∧ l.length ≤ cap ∧ cap ≤ maxLen ∧ cur.size = cap * 1 ∧ cur.toList.take (l.length * 1) = Lib.byteCells l := by
    rcases hown.2 with ⟨_, hz⟩ | ⟨g, cap, cur, fz, hv, r⟩
    · exact absurd hz hl0
    · exact ⟨g, cap, cur, fz, hv, r⟩
  have c1 : w.drew.cell? ⟨b, 1, none⟩ = some (.slice (some ⟨g, 0, none⟩) l.length cap) := by
    have : w.drew.heap[b]? = some (.cells #[p, .slice (some ⟨g, 0, none⟩) l.length cap] 104 (0, 0)) := hbk
    rw [Lib.cell_of_heap this]; rfl
  have hSD : (Builtin.unsafeSliceData_ #[95] 131 #[.slice (some ⟨g, 0, none⟩) l.length cap]).run Tryd.prog w.drew = .ok (.pointer (some ⟨g, 0, none⟩)) w.drew :=
    Lib.run_unsafeSliceData_row _ _ _ _ _ _ (by omega)
  have hUS : (Builtin.unsafeString_ #[131, 3] 9 #[.pointer (some ⟨g, 0, none⟩), .int .i64 l.length]).run Tryd.prog w.drew = .ok (.string ⟨l.toArray⟩) (w.drew.freeze ⟨g, 0, none⟩ l.length) := by
    refine Lib.run_unsafeString_row w.drew 131 3 9 5 Tryd.underlying131 cellsBy g cur.size (by have hg' : w.drew.heap[g]? = some (.cells cur 5 fz) := hg; simp [World.shape?, hg']) l h0 (by omega) (by unfold maxLen at hcm; omega) ?_
    intro j x hx
    have := hown.cells (g := g) rfl j (.int .u8 x.toNat) (by simp [Lib.byteCells, hx])
    exact this
  have HBG := Lib.hid hbg
  clear hbk hown hg htake hcs hcm hfz hnc hp hbg
  go_enter Tryd.func69, Tryd.ntmps69
  go_wp2
  go_region
  all_goals (go_wp2; go_ret; exact ⟨rfl, Lib.below_freeze (Below.drew (Below.refl B w)) (p := ⟨g, 0, none⟩) HBG.out _⟩)
end Go.Proofs.YtagenkofoacajaaDoor

namespace Go.Proofs.YtagenkofoacajaaDoor
open Go.RowKit Vi

/-- copy into a row from its first place on: as much of a text as there is room for -/
theorem run_copy_front {P : Program} (w : World) (dT sT ty elem : TypeId) (g dLen dCap : Nat) (s : ByteArray) (cur : Array Value) (t : TypeId)
    (hu : P.underlying dT = some (.slice elem)) (hs : (P.info? elem).map (·.size) = some 1) (hg : w.heap[g]? = some (.cells cur t (0, 0))) (hfit : dLen ≤ cur.size) :
    (Builtin.copy_ #[dT, sT] ty #[.slice (some ⟨g, 0, none⟩) dLen dCap, .string s]).run P w =
      .ok (goInt (Nat.min s.size dLen)) (w.setRow g (Lib.byteCells (s.data.toList.take (Nat.min s.size dLen)) ++ cur.toList.drop (Nat.min s.size dLen)).toArray) := by
  have hlen : (Lib.byteCells (s.data.toList.take (Nat.min s.size dLen))).length = Nat.min s.size dLen := by
    rw [Lib.byteCells_length, List.length_take, ← Lib.size_eq]
    exact Nat.min_eq_left (Nat.min_le_left _ _)
  have hst := run_storeCells_at P g 0 t (Lib.byteCells (s.data.toList.take (Nat.min s.size dLen))) 0 cur w hg (by rw [hlen]; simp only [Nat.zero_add]; exact Nat.le_trans (Nat.min_le_right _ _) hfit) (Lib.byteCells_one _)
  have htk : List.take (Nat.min s.size dLen) (List.map (fun b : UInt8 => Value.int IntKind.u8 (b.toNat : Int)) s.data.toList) = Lib.byteCells (s.data.toList.take (Nat.min s.size dLen)) := by
    unfold Lib.byteCells
    rw [List.map_take]
  rw [hlen] at hst
  simp only [Nat.add_zero, Nat.zero_add, List.take_zero, List.nil_append] at hst
  cases hq : P.info? elem with
  | none => simp [hq] at hs
  | some i =>
    generalize hm : Nat.min s.size dLen = m at *
    simp [Builtin.copy_, run_underlying hu, Builtin.lenOf, Builtin.firstCells, sizeOf, typeInfo, hq, hm]
    rw [htk, hst]
    simp [Result.andThen]
/-- a sector's first bytes are the text's, noughts stand behind -/
theorem full_list (s : ByteArray) : (fullT s).data.toList = s.data.toList.take (Nat.min s.size 128) ++ (zsD 128).drop (Nat.min s.size 128) := by
  unfold fullT
  rw [ByteArray.data_extract, Array.toList_extract]
  have e : (s ++ noZ).data.toList = s.data.toList ++ zsD 128 := by simp [noZ]
  rw [e]
  simp only [List.extract, List.drop_zero, Nat.sub_zero]
  have hl : s.data.toList.length = s.size := (Lib.size_eq s).symm
  rw [List.take_append, hl]
  rcases Nat.lt_or_ge s.size 128 with h | h
  · rw [show Nat.min s.size 128 = s.size from Nat.min_eq_left (by omega)]
    have e1 : s.data.toList.take 128 = s.data.toList := List.take_of_length_le (by omega)
    have e2 : s.data.toList.take s.size = s.data.toList := List.take_of_length_le (by omega)
    rw [e1, e2]
    congr 1
    unfold zsD
    rw [List.take_replicate, List.drop_replicate]
    congr 1
    omega
  · rw [show Nat.min s.size 128 = 128 from Nat.min_eq_right h]
    rw [show 128 - s.size = 0 by omega]
    simp [zsD]
theorem zero128 : Tryd.zeroCells136 = (Lib.byteCells (zsD 128)).toArray := by kernel_rfl
set_option maxRecDepth 100000 in
set_option maxHeartbeats 400000 in
theorem lfront_any (s : ByteArray) (w : World) : Calls Tryd.prog 73 #[.string s] w fun e w' => e = .returned (.string (fullT s)) ∧ Below w.heap.size w w' := by
  have hnew : (w.alloc (.cells Tryd.zeroCells136 136)).heap[w.heap.size]? = some (.cells Tryd.zeroCells136 136 (0, 0)) := (MapKept.heap_alloc w _).1
  have hz : Tryd.zeroCells136.toList = Lib.byteCells (zsD 128) := by rw [zero128]
  have hzl : Tryd.zeroCells136.size = 128 := by rw [zero128]; simp [Lib.byteCells, zsD]
  have hcp := fun (ty : TypeId) => run_copy_front (P := Tryd.prog) (w.alloc (.cells Tryd.zeroCells136 136)) 95 9 ty 5 w.heap.size 128 128 s _ _ Tryd.underlying95 (by kernel_rfl) hnew (by rw [hzl]; exact Nat.le_refl _)
  have hrow : Lib.byteCells (s.data.toList.take (Nat.min s.size 128)) ++ Tryd.zeroCells136.toList.drop (Nat.min s.size 128) = Lib.byteCells (fullT s).data.toList := by
    rw [hz, full_list]
    unfold Lib.byteCells
    rw [List.map_append, List.map_drop]
  rw [hrow] at hcp
  have hw2 := setRow_heap (w.alloc (.cells Tryd.zeroCells136 136)) w.heap.size _ (Lib.byteCells (fullT s).data.toList).toArray _ _ hnew
  have hb2 : Below w.heap.size w ((w.alloc (.cells Tryd.zeroCells136 136)).setRow w.heap.size (Lib.byteCells (fullT s).data.toList).toArray) := below_setRow ((Below.refl w.heap.size w).alloc (Nat.le_refl _) _) (Nat.le_refl _) _
  obtain ⟨w2, hW2⟩ : ∃ x, x = (w.alloc (.cells Tryd.zeroCells136 136)).setRow w.heap.size (Lib.byteCells (fullT s).data.toList).toArray := ⟨_, rfl⟩
  rw [← hW2] at hcp hw2 hb2
  have hl : (fullT s).data.toList.length = 128 := by rw [← Lib.size_eq]; exact fullT_size s
  have hcv := run_convert_bytes_back (P := Tryd.prog) w2 95 9 5 ⟨w.heap.size, 0, none⟩ 128 (fullT s).data.toList Tryd.underlying95 Tryd.underlying5 Tryd.underlying9 (fun j hj => by
    rw [Addr.add_lit, Nat.zero_add, cell_of_row _ _ _ _ _ _ hw2]
    rw [List.getElem?_toArray]
    unfold Lib.byteCells
    rw [List.getElem?_map, List.getElem?_eq_getElem hj]
    rfl)
  rw [hl, show (⟨(fullT s).data.toList.toArray⟩ : ByteArray) = fullT s from by simp] at hcv
  have HB := Lib.hid hb2
  clear hW2 hw2 hb2 hl hrow hz hzl hnew
  generalize fullT s = z at *
  generalize Nat.min s.size 128 = m at *
  go_enter Tryd.func73, Tryd.ntmps73
  go_upto_region 2 with (fail)
  generalize w.alloc (.cells Tryd.zeroCells136 136) = w1 at *
  go_wp2_with fail
  go_ret
  exact ⟨rfl, HB.out⟩
end Go.Proofs.YtagenkofoacajaaDoor

namespace Go.Proofs.YtagenkofoacajaaDoor
open Go.RowKit Vi

theorem InD.kkM {D g : Nat} {w w' : World} (k : KK [g] w w') (hD : D < w.heap.size) (hg : D ≠ g) {b : Nat} (q : InD D w' b) : InD D w b := by
  have hb := k.block D hD (by simpa using hg)
  have hc : ∀ i, w'.cell? ⟨D, i, none⟩ = w.cell? ⟨D, i, none⟩ := fun i => World.cell?_of_block hb
  rcases q with q | ⟨o, n, c, q⟩ | ⟨o, n, c, q⟩
  · exact .inl q
  · exact .inr (.inl ⟨o, n, c, by rw [← hc]; exact q⟩)
  · exact .inr (.inr ⟨o, n, c, by rw [← hc]; exact q⟩)
theorem OwX.ofB {α : Type} {f : α → List Value} {s : Nat} {T : TypeId} {w W : World} {B n c : Nat} {A : Option Addr} {l : List α} (h : OwX f s T w B (.slice A n c) l) (hb : ∀ b o, A = some ⟨b, o, none⟩ → b < w.heap.size → W.heap[b]? = w.heap[b]?) : OwX f s T W B (.slice A n c) l := by
  rcases h with ⟨h1, h | ⟨b, cap, cur, h2, h3, h4, h5⟩⟩
  · exact ⟨h1, .inl h⟩
  · have e : A = some ⟨b, 0, none⟩ := by injection h2
    exact ⟨h1, .inr ⟨b, cap, cur, h2, h3, (hb b 0 e (lt_of_block h4)).trans h4, h5⟩⟩
theorem DK.kkM {D g : Nat} {SS : List ByteArray} {CC : List Wr} {dn : Bool} {ops fu : Int} {w w' : World} (h : DK D SS CC dn ops fu w) (k : KK [g] w w') (hn : ¬ InD D w g) : DK D SS CC dn ops fu w' := by
  obtain ⟨⟨sa, sn, sc, ca, cn, cc, h1, h2, h3⟩, h4⟩ := h
  have hD : D ≠ g := fun e => hn (.inl e.symm)
  refine ⟨⟨sa, sn, sc, ca, cn, cc, k.blk h1 (by simpa using hD), h2.ofB (fun b o e hb => k.block b hb (fun q => ?_)), h3.ofB (fun b o e hb => k.block b hb (fun q => ?_))⟩, h4⟩
  · obtain rfl : b = g := by simpa using q
    subst e
    exact hn (InD.safe h1)
  · obtain rfl : b = g := by simpa using q
    subst e
    exact hn (InD.cache h1)
theorem DW.kkM {n : Nat} {w0 : World} {D g : Nat} {d : Ds} {w w' : World} (h : DW n w0 D d w) (k : KK [g] w w') (hng : ¬ InD D w g) (hn : n ≤ g) : DW n w0 D d w' :=
  ⟨h.dk.kkM k hng, fun b q => h.far b (q.kkM k h.lt (fun e => hng (.inl e.symm))), k.below h.bel (fun b hb => by obtain rfl : b = g := (by simpa using hb); exact hn) h.sz, Nat.le_trans h.sz k.size⟩
theorem DsOk.leM {k k' : Nat} {d : Ds} (h : DsOk k d) (hk : k ≤ k') : DsOk k' d := ⟨h.s1, h.s2, by have := h.c; omega, h.a1, h.a2, h.o1, by have := h.o2; omega⟩
/-- a log's box -/
def lgO (D : Nat) (f m : Int) (t : ByteArray) : Obj := .cells #[.pointer (some ⟨D, 0, none⟩), .int .i64 f, .int .i64 m, .string t] 26 (0, 0)
/-- a log at L over the disk d at D -/
structure LW (n : Nat) (w0 : World) (D L : Nat) (d : Ds) (f m : Int) (t : ByteArray) (w : World) : Prop where
  dw : DW n w0 D d w
  bx : w.heap[L]? = some (lgO D f m t)
  nl : ¬ InD D w L
  ge : n ≤ L
section
variable {n : Nat} {w0 : World} {D L : Nat} {d : Ds} {f m : Int} {t : ByteArray} {w w' : World}
theorem LW.below (h : LW n w0 D L d f m t w) (hb : Below w.heap.size w w') : LW n w0 D L d f m t w' := ⟨h.dw.below hb, blk_below h.bx hb, fun q => h.nl (q.back hb h.dw.lt), h.ge⟩
theorem LW.kd {d' : Ds} (h : LW n w0 D L d f m t w) (hd : DW n w0 D d' w') (k : Kd D w w') : LW n w0 D L d' f m t w' := ⟨hd, (k.block _ (lt_of_block h.bx) h.nl).trans h.bx, fun q => h.nl (k.ind _ (lt_of_block h.bx) q), h.ge⟩
theorem LW.c0 (h : LW n w0 D L d f m t w) : w.cell? ⟨L, 0, none⟩ = some (.pointer (some ⟨D, 0, none⟩)) := (cell_of_row _ _ 0 _ _ _ h.bx).trans rfl
theorem LW.c1 (h : LW n w0 D L d f m t w) : w.cell? ⟨L, 1, none⟩ = some (.int .i64 f) := (cell_of_row _ _ 1 _ _ _ h.bx).trans rfl
theorem LW.c2 (h : LW n w0 D L d f m t w) : w.cell? ⟨L, 2, none⟩ = some (.int .i64 m) := (cell_of_row _ _ 2 _ _ _ h.bx).trans rfl
theorem LW.c3 (h : LW n w0 D L d f m t w) : w.cell? ⟨L, 3, none⟩ = some (.string t) := (cell_of_row _ _ 3 _ _ _ h.bx).trans rfl
theorem LW.fz (h : LW n w0 D L d f m t w) (i : Nat) : w.frozen? ⟨L, i, none⟩ = false := frozen_of_row _ _ _ _ _ h.bx
theorem LW.set (h : LW n w0 D L d f m t w) (t' : ByteArray) : LW n w0 D L d f m t' (w.setCell ⟨L, 3, none⟩ (.string t')) := by
  have k := (KK.refl [L] w).set (b := L) (by simp) 3 (.string t')
  refine ⟨h.dw.kkM k h.nl h.ge, ?_, fun q => h.nl (q.kkM k h.dw.lt (fun e => h.nl (.inl e.symm))), h.ge⟩
  have q := heap_setCell_at (i := 3) (u := .string t') h.bx
  exact q
end
/-- what a Below from B on leaves: a disk whose blocks lie below B -/
theorem DW.belowB {n : Nat} {w0 : World} {D B : Nat} {d : Ds} {w w' : World} (h : DW n w0 D d w) (hi : ∀ b, InD D w b → b < B) (hb : Below B w w') (hn : n ≤ B) : DW n w0 D d w' ∧ ∀ b, InD D w' b → b < B := by
  obtain ⟨⟨⟨sa, sn, sc, ca, cn, cc, h1, h2, h3⟩, h4⟩, hf, hbl, hs⟩ := h
  have hD : D < B := hi D (.inl rfl)
  have h1' : w'.heap[D]? = some (dkO sa sn sc ca cn cc true d.go d.op d.ar) := (hb.block D hD).trans h1
  have hin : ∀ b, InD D w' b → InD D w b := fun b q => by
    rcases q.cases h1' with q | ⟨o, q⟩ | ⟨o, q⟩
    · exact .inl q
    · subst q; exact InD.safe h1
    · subst q; exact InD.cache h1
  refine ⟨⟨⟨⟨sa, sn, sc, ca, cn, cc, h1', h2.ofB (fun b o e _ => ?_), h3.ofB (fun b o e _ => ?_)⟩, h4⟩, fun b q => hf b (hin b q), hbl.trans (hb.mono hn), Nat.le_trans hs hb.size⟩, fun b q => hi b (hin b q)⟩
  · subst e; exact hb.block b (hi b (InD.safe h1))
  · subst e; exact hb.block b (hi b (InD.cache h1))
theorem Kd.belowB {D : Nat} {w w3 w4 : World} (h : Kd D w w3) (hb : Below w.heap.size w3 w4) (hD : D < w.heap.size) : Kd D w w4 :=
  ⟨hb.os.trans h.os, hb.tape.trans h.tape, hb.output.trans h.output, Nat.le_trans h.size hb.size, fun b q hn => (hb.block b q).trans (h.block b q hn), fun b q hin => h.ind b q (by
    rcases hin with e | ⟨o, n, c, e⟩ | ⟨o, n, c, e⟩
    · exact .inl e
    · exact .inr (.inl ⟨o, n, c, by rw [← hb.cell (p := ⟨D, 0, none⟩) hD]; exact e⟩)
    · exact .inr (.inr ⟨o, n, c, by rw [← hb.cell (p := ⟨D, 1, none⟩) hD]; exact e⟩))⟩
/-- Read once more: no other block becomes the disk's -/
theorem dread_upI (D : Nat) (SS : List ByteArray) (CC : List Wr) (ops fu : Int) (i : Int) (w : World) (h : DK D SS CC false ops fu w) (hi : 0 ≤ i ∧ i < (SS.length : Int)) (hl : CC.length ≤ 1000000) (ho : -1000000000 ≤ ops ∧ ops ≤ 1000000000) :
    Calls Tryd.prog 39 #[.pointer (some ⟨D, 0, none⟩), .int .i64 i] w fun e w' => e = .returned (.tuple #[.string (shw SS CC i), .int .i64 0]) ∧ DK D SS CC false (ops + 1) fu w' ∧ Kd D w w' ∧ ∀ b, InD D w' b → InD D w b := by
  have HR := Lib.hid h.readyIs
  have HH := h.hasIs i
  rw [decide_eq_true hi] at HH
  have HH := Lib.hid HH
  have HI := Lib.hid hi
  obtain ⟨⟨sa, sn, sc, ca, cn, cc, h1, h2, h3⟩, h4⟩ := h
  have H1 := Lib.hid h1
  have H2 := Lib.hid h2
  have H3 := Lib.hid h3
  have H4 := Lib.hid h4
  have c4 : w.cell? ⟨D, 4, none⟩ = some (.int .i64 ops) := (dk_cells h1).2.2.2.2.1
  have f4 : w.frozen? ⟨D, 4, none⟩ = false := frozen_of_row _ _ _ _ _ h1
  have w2 : IntKind.i64.wrap (ops + 1) = ops + 1 := IntWalk.i64_in _ (by omega)
  clear h1 h2 h3 h4 hi
  go_enter Tryd.func39, Tryd.ntmps39
  go_wp2_with fail
  refine HR.out.mono ?_
  rintro e w' ⟨rfl, rfl⟩
  go_wp2_with fail
  refine HH.out.mono ?_
  rintro e w' ⟨rfl, rfl⟩
  go_wp2_with fail
  have HK := Lib.hid ((KK.refl [D] w).set (b := D) (by simp) 4 (.int .i64 (ops + 1)))
  have HB := Lib.hid (show (w.setCell ⟨D, 4, none⟩ (.int .i64 (ops + 1))).heap[D]? = some (dkO sa sn sc ca cn cc true false (ops + 1) fu) from heap_setCell_at (i := 4) (u := .int .i64 (ops + 1)) H1.out)
  have HO2 := Lib.hid (H2.out.kkD HK.out H1.out (by decide))
  have HO3 := Lib.hid (H3.out.kkD HK.out H1.out (by decide))
  have HKd := Lib.hid (Kd.of_same HK.out H1.out HB.out)
  have HIn : Hid (∀ b, InD D (w.setCell ⟨D, 4, none⟩ (.int .i64 (ops + 1))) b → InD D w b) := Lib.hid (fun b q => by
    rcases q.cases HB.out with q | ⟨o, q⟩ | ⟨o, q⟩
    · exact .inl q
    · have := H1.out; subst q; exact InD.safe this
    · have := H1.out; subst q; exact InD.cache this)
  clear c4 f4 w2
  generalize (w.setCell ⟨D, 4, none⟩ (.int .i64 (ops + 1))) = v at *
  have HD : Hid (DK D SS CC false (ops + 1) fu v) := Lib.hid ⟨⟨sa, sn, sc, ca, cn, cc, HB.out, HO2.out, HO3.out⟩, H4.out⟩
  have HS := Lib.hid (dshow_any D SS CC false (ops + 1) fu i v HD.out HI.out hl)
  refine HS.out.mono ?_
  rintro e w1 ⟨rfl, hb⟩
  have HD1 := Lib.hid (HD.out.kept hb)
  have HK1 := Lib.hid (HKd.out.trans (Kd.of_below hb HD.out.lt))
  have HIn1 : Hid (∀ b, InD D w1 b → InD D w b) := Lib.hid (fun b q => HIn.out b (q.back hb HD.out.lt))
  clear hb
  go_wp2_with fail
  go_ret2
  exact ⟨rfl, HD1.out, HK1.out, HIn1.out⟩
section
variable {n : Nat} {w0 : World} {D L : Nat} {d : Ds} {f m : Int} {t : ByteArray} {w : World}
theorem DW.sizeIs (h : DW n w0 D d w) : Calls Tryd.prog 35 #[.pointer (some ⟨D, 0, none⟩)] w fun e w' => e = .returned (.int .i64 (d.S.length : Int)) ∧ w = w' := by
  obtain ⟨⟨sa, sn, sc, ca, cn, cc, h1, h2, h3⟩, h4⟩ := h.dk
  obtain ⟨_, _, e, hr, _, _⟩ := h2.rd stC_len
  injection e with e1 e2 e3
  have hl : d.S.length = sn := hr.1.trans e2.symm
  rw [hl]
  exact dszz_any D sa sn sc ca cn cc d.go d.op d.ar w h1
theorem DW.opsIs (h : DW n w0 D d w) : Calls Tryd.prog 32 #[.pointer (some ⟨D, 0, none⟩)] w fun e w' => e = .returned (.int .i64 d.op) ∧ w = w' := by
  obtain ⟨⟨sa, sn, sc, ca, cn, cc, h1, h2, h3⟩, h4⟩ := h.dk
  exact dops_any D sa sn sc ca cn cc d.go d.op d.ar w h1
theorem lmade_any (h : LW n w0 D L d f m t w) : Calls Tryd.prog 33 #[.pointer (some ⟨L, 0, none⟩)] w fun e w' => e = .returned (.bool true) ∧ w = w' := by
  have c0 := h.c0
  clear h
  go_enter Tryd.func33, Tryd.ntmps33
  go_wp2_with fail
  go_ret
  exact ⟨rfl, rfl⟩
theorem lroom_any (h : LW n w0 D L d f m t w) (h0 : 0 ≤ m) (h1 : m ≤ 100000) (h2 : t.size ≤ 100000000) : Calls Tryd.prog 40 #[.pointer (some ⟨L, 0, none⟩)] w fun e w' => e = .returned (.int .i64 (m * 128 - (t.size : Int))) ∧ Below w.heap.size w w' := by
  have r2 := fun d os => cell_regrown h.c2 d os
  have r3 := fun d os => cell_regrown h.c3 d os
  have e1 : IntKind.i64.wrap (m * 128) = m * 128 := IntWalk.i64_in _ (by omega)
  have e2 : IntKind.i64.wrap (m * 128 - (t.size : Int)) = m * 128 - (t.size : Int) := IntWalk.i64_in _ (by omega)
  clear h
  go_enter Tryd.func40, Tryd.ntmps40
  go_wp2_with fail
  refine wp_region_quiet_below (by kernel_rfl) (by kernel_rfl) ?_
  repeat (any_goals (first | go_big_quiet_step (fail) | quiet_step (fail)))
  refine wpQuiet_nil ?_
  intro v1 hv1
  have hb1 := below_anyY hv1
  clear hv1 r2 r3
  go_wp2_with fail
  go_ret
  exact ⟨rfl, hb1⟩
theorem lfull_any (h : LW n w0 D L d f m t w) (h2 : t.size ≤ 100000000) : Calls Tryd.prog 42 #[.pointer (some ⟨L, 0, none⟩)] w fun e w' => e = .returned (.int .i64 ((t.size / 128 : Nat) : Int)) ∧ w = w' := by
  have c3 := h.c3
  have hi : (t.size : Int) ≤ 100000000 := by omega
  have HE := Lib.hid (show (t.size : Int) / 128 = ((t.size / 128 : Nat) : Int) by omega)
  have a1 : (t.size : Int) / 128 ≤ 1000000 := by omega
  have a2 : 0 ≤ (t.size : Int) / 128 := by omega
  clear h
  go_enter Tryd.func42, Tryd.ntmps42
  go_wp2
  go_ret
  exact ⟨dk_retI HE.out, rfl⟩
theorem lbehind_any (h : LW n w0 D L d f m t w) (h0 : 0 ≤ f) (h1 : f ≤ 100000) (h2 : d.S.length ≤ 100000) : Calls Tryd.prog 36 #[.pointer (some ⟨L, 0, none⟩)] w fun e w' => e = .returned (.int .i64 ((d.S.length : Int) - f)) ∧ Below w.heap.size w w' := by
  have r0 := fun d os => cell_regrown h.c0 d os
  have r1 := fun d os => cell_regrown h.c1 d os
  have HH := Lib.hid h.dw
  obtain ⟨z, hz⟩ : ∃ z : Nat, z = d.S.length := ⟨_, rfl⟩
  have HS := Lib.hid (fun (W : World) (q : DW n w0 D d W) => (by rw [hz]; exact q.sizeIs : Calls Tryd.prog 35 #[.pointer (some ⟨D, 0, none⟩)] W fun e w' => e = .returned (.int .i64 (z : Int)) ∧ W = w'))
  rw [← hz] at h2
  have HZ := Lib.hid hz
  have e2 : IntKind.i64.wrap ((z : Int) - f) = (z : Int) - f := IntWalk.i64_in _ (by omega)
  clear h hz
  go_enter Tryd.func36, Tryd.ntmps36
  go_wp2_with fail
  refine wp_region_quiet_below (by kernel_rfl) (by kernel_rfl) ?_
  repeat (any_goals (first | go_big_quiet_step ((go_at_call 35; with_reducible exact Calls.regrown_of (of_same (HS.out _ (HH.out.below (below_regrown _ _ _)))))) | quiet_step ((go_at_call 35; with_reducible exact Calls.regrown_of (of_same (HS.out _ (HH.out.below (below_regrown _ _ _))))))))
  refine wpQuiet_nil ?_
  intro v1 hv1
  have hb1 := below_anyY hv1
  clear hv1 r0 r1
  go_wp2_with fail
  go_ret
  exact ⟨by rw [HZ.out]; rfl, hb1⟩
theorem ltext_any (h : LW n w0 D L d f m t w) : Calls Tryd.prog 10 #[.pointer (some ⟨L, 0, none⟩)] w fun e w' => e = .returned (.string t) ∧ w = w' := by
  have c3 := h.c3
  have HM := Lib.hid (lmade_any h)
  clear h
  go_enter Tryd.func10, Tryd.ntmps10
  go_wp2_with fail
  refine HM.out.mono ?_
  rintro e w' ⟨rfl, rfl⟩
  go_wp2_with fail
  go_ret
  exact ⟨rfl, rfl⟩
theorem ltail_any (h : LW n w0 D L d f m t w) : Calls Tryd.prog 9 #[.pointer (some ⟨L, 0, none⟩)] w fun e w' => e = .returned (.int .i64 (t.size : Int)) ∧ w = w' := by
  have HM := Lib.hid (ltext_any h)
  clear h
  go_enter Tryd.func9, Tryd.ntmps9
  go_wp2_with fail
  refine HM.out.mono ?_
  rintro e w' ⟨rfl, rfl⟩
  go_wp2_with fail
  go_ret
  exact ⟨rfl, rfl⟩
end
end Go.Proofs.YtagenkofoacajaaDoor

namespace Go.Proofs.YtagenkofoacajaaDoor
open Go.RowKit Vi Ar

/-- c sectors of a text, from the k-th on, written from a place on; up to the first error -/
def layN (f : Int) (s : ByteArray) : Nat → Nat → Ds → Ds × Int
  | _, 0, d => (d, 0)
  | k, c + 1, d => if d.wrE (f + (k : Int)) (fullT (s.extract (128 * k) s.size)) ≠ 0 then (d.wrt (f + (k : Int)) (fullT (s.extract (128 * k) s.size)), d.wrE (f + (k : Int)) (fullT (s.extract (128 * k) s.size))) else layN f s (k + 1) c (d.wrt (f + (k : Int)) (fullT (s.extract (128 * k) s.size)))
theorem layN_no {f : Int} {s : ByteArray} {k c : Nat} {d : Ds} {R : Ds × Int} (h : layN f s k (c + 1) d = R) (q : d.wrE (f + (k : Int)) (fullT (s.extract (128 * k) s.size)) ≠ 0) : R = (d.wrt (f + (k : Int)) (fullT (s.extract (128 * k) s.size)), d.wrE (f + (k : Int)) (fullT (s.extract (128 * k) s.size))) := by
  rw [layN, if_pos q] at h
  exact h.symm
theorem layN_yes {f : Int} {s : ByteArray} {k c : Nat} {d : Ds} {R : Ds × Int} (h : layN f s k (c + 1) d = R) (q : d.wrE (f + (k : Int)) (fullT (s.extract (128 * k) s.size)) = 0) : layN f s (k + 1) c (d.wrt (f + (k : Int)) (fullT (s.extract (128 * k) s.size))) = R := by
  rw [layN, if_neg (fun h => h q)] at h
  exact h
/-- how many sectors so many bytes need -/
def scN (b : Nat) : Nat := (b + 127) / 128
theorem sc_nat (b : Nat) : sc (b : Int) = ((scN b : Nat) : Int) := by
  unfold scN
  rcases Nat.eq_zero_or_pos b with h | h
  · subst h; rw [sc_le _ (by omega)]; rfl
  · have := sc_gt (b : Int) (by omega)
    omega
set_option maxRecDepth 100000 in
set_option maxHeartbeats 2000000 in
theorem llay_any (n : Nat) (w0 : World) (D : Nat) (d : Ds) (k0 : Nat) (f : Int) (s : ByteArray) (w : World) (h : DW n w0 D d w) (o : DsOk k0 d) (hk : k0 + scN s.size ≤ 1000) (hf : 0 ≤ f) (hf2 : f ≤ 100000) (hs : s.size ≤ 100000) :
    Calls Tryd.prog 41 #[.int .i64 f, .string s, .func (.func 43) #[.pointer (some ⟨D, 0, none⟩)] #[]] w (PI n w0 D (layN f s 0 (scN s.size) d).1 (layN f s 0 (scN s.size) d).2 w) := by
  obtain ⟨R, hR⟩ : ∃ R, R = layN f s 0 (scN s.size) d := ⟨_, rfl⟩
  rw [← hR]
  have HR := Lib.hid hR.symm
  have HD := Lib.hid h
  have HO := Lib.hid o
  have hsi : (s.size : Int) ≤ 100000 := by omega
  have HSC := Lib.hid (fun W : World => (by have q := sectors_any (s.size : Int) W (by omega) (by omega); rw [sc_nat] at q; exact q : Calls Tryd.prog 37 #[.int .i64 (s.size : Int)] W fun e w' => e = .returned (.int .i64 ((scN s.size : Nat) : Int)) ∧ W = w'))
  have hc : 128 * scN s.size ≤ s.size + 127 := by unfold scN; omega
  obtain ⟨c, hcc⟩ : ∃ c, c = scN s.size := ⟨_, rfl⟩
  rw [← hcc] at HR HSC hk hc
  have hci : (c : Int) ≤ 1000 := by omega
  clear hR h o hcc
  go_enter Tryd.func41, Tryd.ntmps41
  go_wp2_with fail
  refine (HSC.out _).mono ?_
  rintro e w' ⟨rfl, rfl⟩
  go_wp2_with fail
  go_loopw [12] (fun i wr => ∃ (k : Nat) (x : Ds), i = .int .i64 (k : Int) ∧ k ≤ c ∧ DsOk (k0 + k) x ∧ layN f s k (c - k) x = R ∧ DW n w0 D x wr ∧ Kd D w wr) (fun i _ => c - (intOf i).toNat)
  case atStart => exact ⟨0, d, rfl, Nat.zero_le _, HO.out, HR.out, HD.out, Kd.refl _ _⟩
  case round =>
    obtain ⟨k, x, rfl, hkc, hok, hl, hdw, hkd⟩ := hrel
    clear HR HD HO
    have HO := Lib.hid hok
    have HL := Lib.hid hl
    have HD := Lib.hid hdw
    have HK := Lib.hid hkd
    clear hok hl hdw hkd
    by_cases hlt : k < c
    · have hd1 : decide ((k : Int) < (c : Int)) = true := decide_eq_true (by omega)
      have e1 : IntKind.i64.wrap (f + (k : Int)) = f + (k : Int) := IntWalk.i64_in _ (by omega)
      have e2 : IntKind.i64.wrap ((k : Int) * 128) = (k : Int) * 128 := IntWalk.i64_in _ (by omega)
      have e3 : IntKind.i64.wrap ((k : Int) + 1) = (k : Int) + 1 := IntWalk.i64_in _ (by omega)
      have HL2 := Lib.hid (show layN f s k ((c - (k + 1)) + 1) x = R by rw [show c - (k + 1) + 1 = c - k by omega]; exact HL.out)
      clear HL
      obtain ⟨X, hX⟩ : ∃ X, X = s.extract (128 * k) s.size := ⟨_, rfl⟩
      have hsl : ∀ W : World, (Instr.slice 9 (.string s) (some (.int .i64 ((k : Int) * 128))) none none).run Tryd.prog W = .ok (.string X) W := fun W => by
        rw [run_slice_string_l _ _ _ Tryd.underlying9 _ _ (by omega) (by omega), hX]
        rw [show ((k : Int) * 128).toNat = 128 * k by omega]
      have HNO := Lib.hid (fun q => layN_no HL2.out q)
      have HYES := Lib.hid (fun q => layN_yes HL2.out q)
      rw [← hX] at HNO HYES
      clear hX HL2
      obtain ⟨Y, hY⟩ : ∃ Y, Y = fullT X := ⟨_, rfl⟩
      have HF := Lib.hid (fun W : World => (by rw [hY]; exact lfront_any X W : Calls Tryd.prog 73 #[.string X] W fun e w' => e = .returned (.string Y) ∧ Below W.heap.size W w'))
      rw [← hY] at HNO HYES
      clear hY
      go_wp2_with fail
      refine (HF.out _).mono ?_
      rintro e w1 ⟨rfl, hb1⟩
      have HD1 := Lib.hid (HD.out.below hb1)
      have HK1 := Lib.hid (HK.out.trans (Kd.of_below hb1 HD.out.lt))
      clear hb1 HD HK hsl
      go_wp2_with fail
      have HP := pwrite HD1.out HO.out (by omega) (f + (k : Int)) Y
      obtain ⟨z, hz⟩ : ∃ z, z = x.wrE (f + (k : Int)) Y := ⟨_, rfl⟩
      obtain ⟨x2, hx2⟩ : ∃ x2, x2 = x.wrt (f + (k : Int)) Y := ⟨_, rfl⟩
      have HO2 := Lib.hid (HO.out.wrt (f + (k : Int)) Y)
      rw [← hz, ← hx2] at HP
      rw [← hz, ← hx2] at HNO HYES
      rw [← hx2] at HO2
      clear hz hx2 HO
      refine HP.mono ?_
      rintro e w2 ⟨rfl, hd2, hk2⟩
      have HD2 := Lib.hid hd2
      have HK2 := Lib.hid (HK1.out.trans hk2)
      clear hd2 hk2 HP HD1 HK1
      by_cases hq : z = 0
      · have HY2 := Lib.hid (HYES.out hq)
        subst hq
        clear HNO HYES
        go_wp2_with fail
        go_roundw
        case rel => exact ⟨k + 1, x2, by go_num, by omega, HO2.out, HY2.out, HD2.out, HK2.out⟩
        case measure => simp [intOf] <;> omega
      · have hz2 : (z != 0) = true := by simpa using hq
        have HN2 := Lib.hid (HNO.out hq)
        clear HNO HYES hq
        go_wp2_with fail
        go_ret
        exact ⟨dk_retI (by rw [HN2.out]), by rw [HN2.out]; exact HD2.out, HK2.out⟩
    · have hd1 : decide ((k : Int) < (c : Int)) = false := decide_eq_false (by omega)
      have HR := Lib.hid (show R = (x, 0) by rw [← HL.out, show c - k = 0 by omega, layN])
      clear HL
      go_wp2_with fail
      go_ret
      exact ⟨dk_retI (by rw [HR.out]), by rw [HR.out]; exact HD.out, HK.out⟩
end Go.Proofs.YtagenkofoacajaaDoor

namespace Go.Proofs.YtagenkofoacajaaDoor
open Go.RowKit Vi

/-- the bytes of the first k sectors from f on -/
def gatL (S : List ByteArray) (C : List Wr) (f : Int) : Nat → List UInt8
  | 0 => []
  | k + 1 => gatL S C f k ++ (shw S C (f + (k : Int))).data.toList
theorem gatL_len {S : List ByteArray} {C : List Wr} {f : Int} {m : Nat} (h : ∀ j : Nat, j < m → (shw S C (f + (j : Int))).size = 128) : ∀ k, k ≤ m → (gatL S C f k).length = 128 * k
  | 0, _ => rfl
  | k + 1, hk => by
    rw [gatL, List.length_append, gatL_len h k (by omega), ← Lib.size_eq, h k (by omega)]
    omega
def LgE (w : World) (B : Nat) : Prop := w.heap[B]? = some (.cells #[.pointer none, .slice none 0 0] 104 (0, 0))
theorem lbstr_any (B : Nat) (l : List UInt8) (w : World) (h : Bld w B B l) (hE : l = [] → LgE w B) (hB : B ≤ w.heap.size) :
    Calls Tryd.prog 69 #[.pointer (some ⟨B, 0, none⟩)] w fun e w' => e = .returned (.string ⟨l.toArray⟩) ∧ Below B w w' := by
  by_cases h0 : l = []
  · subst h0
    exact (bstr_nil B _ w (hE rfl)).mono fun _ _ ⟨he, hb⟩ => ⟨he, hb.mono hB⟩
  · exact bstr_some B B l w h h0
theorem bld_kd1 {D : Nat} {w w' : World} {B b : Nat} {p : Value} {bs : List Value} (h : Lib.BuilderAtF 104 5 B b p bs w) (k : Kd D w w') (hi : ∀ x, InD D w x → x < B) : Lib.BuilderAtF 104 5 B b p bs w' := by
  obtain ⟨h1, v, h2, h3, h4⟩ := h
  refine ⟨h1, v, (k.block b (lt_of_block h2) (fun q => by have := hi b q; omega)).trans h2, ?_, h4⟩
  rcases h3 with ⟨h5, h6 | ⟨g, cap, cur, fz, h7, h8, h9, h10⟩⟩
  · exact ⟨h5, .inl h6⟩
  · exact ⟨h5, .inr ⟨g, cap, cur, fz, h7, h8, (k.block g (lt_of_block h9) (fun q => by have := hi g q; omega)).trans h9, h10⟩⟩
theorem bld_kd {D : Nat} {w w' : World} {B b : Nat} {l : List UInt8} (h : Bld w B b l) (k : Kd D w w') (hi : ∀ x, InD D w x → x < B) : Bld w' B b l := by
  rcases h with h | h
  · exact .inl (bld_kd1 h k hi)
  · exact .inr (bld_kd1 h k hi)
theorem bld_lt {w : World} {B b : Nat} {l : List UInt8} (h : Bld w B b l) : b < w.heap.size := by
  rcases h with h | h
  all_goals
    obtain ⟨h1, v, h2, _⟩ := h
    exact lt_of_block h2
/-- what is behind the first k sectors -/
structure GaS (n : Nat) (w0 : World) (D : Nat) (S : List ByteArray) (C : List Wr) (ar op : Int) (f : Int) (k : Nat) (w wr : World) : Prop where
  bld : Bld wr w.heap.size w.heap.size (gatL S C f k)
  emp : gatL S C f k = [] → LgE wr w.heap.size
  dw : DW n w0 D ⟨S, C, ar, false, op + (k : Int)⟩ wr
  ind : ∀ b, InD D wr b → b < w.heap.size
  kd : Kd D w wr
set_option maxRecDepth 100000 in
set_option maxHeartbeats 2000000 in
theorem lgather_any (n : Nat) (w0 : World) (D : Nat) (S : List ByteArray) (C : List Wr) (ar op : Int) (k0 : Nat) (f : Int) (m : Nat) (w : World) (h : DW n w0 D ⟨S, C, ar, false, op⟩ w) (o : DsOk k0 ⟨S, C, ar, false, op⟩) (hk : k0 + m ≤ 1000) (hf : 0 ≤ f) (hfm : f + (m : Int) ≤ (S.length : Int)) (hsz : ∀ j : Nat, j < m → (shw S C (f + (j : Int))).size = 128) :
    Calls Tryd.prog 38 #[.int .i64 f, .int .i64 (m : Int), .func (.func 39) #[.pointer (some ⟨D, 0, none⟩)] #[]] w fun e w' => e = .returned (.tuple #[.string ⟨(gatL S C f m).toArray⟩, .int .i64 0]) ∧ DW n w0 D ⟨S, C, ar, false, op + (m : Int)⟩ w' ∧ Kd D w w' := by
  have hs2 : S.length ≤ 4096 := o.s2
  have hc : C.length ≤ 4096 + k0 := o.c
  have ho1 : 0 ≤ op := o.o1
  have ho2 : op ≤ (k0 : Int) := o.o2
  have hmi : (m : Int) ≤ 1000 := by omega
  have HL := Lib.hid (gatL_len hsz)
  have HSZ := Lib.hid hsz
  have HN := Lib.hid h.sz
  have HDl := Lib.hid h.lt
  have HS0 : Hid (GaS n w0 D S C ar op f 0 w (w.alloc (.cells #[.pointer none, .slice none 0 0] 104))) := Lib.hid ⟨Bld.new w, fun _ => blk_new w _, by
      have q := h.below ((Below.refl w.heap.size w).alloc (Nat.le_refl _) (.cells #[.pointer none, .slice none 0 0] 104))
      rw [show op + ((0 : Nat) : Int) = op by omega]
      exact q, fun b q => h.dk.new (q.back ((Below.refl w.heap.size w).alloc (Nat.le_refl _) _) h.lt), Kd.of_below ((Below.refl w.heap.size w).alloc (Nat.le_refl _) _) h.lt⟩
  clear h o hsz
  go_enter Tryd.func38, Tryd.ntmps38
  go_wp2_with fail
  go_loopw [13] (fun i wr => ∃ k : Nat, i = .int .i64 (k : Int) ∧ k ≤ m ∧ GaS n w0 D S C ar op f k w wr) (fun i _ => m - (intOf i).toNat)
  case atStart => exact ⟨0, rfl, Nat.zero_le _, HS0.out⟩
  case round =>
    obtain ⟨k, rfl, hkm, hst⟩ := hrel
    clear HS0
    have HT := Lib.hid hst
    clear hst
    have hBw : w.heap.size ≤ wr.heap.size := HT.out.kd.size
    by_cases hlt : k < m
    · have hd1 : decide ((k : Int) < (m : Int)) = true := decide_eq_true (by omega)
      have e1 : IntKind.i64.wrap (f + (k : Int)) = f + (k : Int) := IntWalk.i64_in _ (by omega)
      have e3 : IntKind.i64.wrap ((k : Int) + 1) = (k : Int) + 1 := IntWalk.i64_in _ (by omega)
      have HRD := dread_upI D S C (op + (k : Int)) ar (f + (k : Int)) wr HT.out.dw.dk ⟨by omega, by omega⟩ (by omega) ⟨by omega, by omega⟩
      obtain ⟨X, hX⟩ : ∃ X, X = shw S C (f + (k : Int)) := ⟨_, rfl⟩
      have hXs : X.size = 128 := by rw [hX]; exact HSZ.out k hlt
      have HG := Lib.hid (show gatL S C f (k + 1) = gatL S C f k ++ X.data.toList by rw [gatL, hX])
      have HG0 := Lib.hid (show (gatL S C f k).length + X.size ≤ 10000000 by rw [HL.out k (by omega), hXs]; omega)
      have HG1 := Lib.hid (show gatL S C f (k + 1) ≠ [] from fun e => by have q := HL.out (k + 1) (by omega); rw [e] at q; simp at q)
      rw [← hX] at HRD
      clear hX hXs
      go_wp2_with fail
      refine HRD.mono ?_
      rintro e w1 ⟨rfl, hd, hk1, hi1⟩
      have HD1 := Lib.hid (HT.out.dw.kd (d' := ⟨S, C, ar, false, op + (k : Int) + 1⟩) hk1 hd)
      have HI1 : Hid (∀ b, InD D w1 b → b < w.heap.size) := Lib.hid (fun b q => HT.out.ind b (hi1 b q))
      have HB1 := Lib.hid (bld_kd HT.out.bld hk1 HT.out.ind)
      have HK1 := Lib.hid (HT.out.kd.trans hk1)
      clear hd hk1 hi1 HRD HT
      go_wp2_with fail
      refine (write_any w.heap.size w.heap.size (gatL S C f k) X w1 HB1.out HG0.out HK1.out.size).mono ?_
      rintro e w2 ⟨rfl, hbl, hbe⟩
      rw [← HG.out] at hbl
      have HDI := Lib.hid (HD1.out.belowB HI1.out hbe HN.out)
      have HK2 := Lib.hid (HK1.out.belowB hbe HDl.out)
      have HB2 := Lib.hid hbl
      clear hbl hbe HD1 HI1 HB1 HK1
      go_wp2_with fail
      go_roundw
      case rel => exact ⟨k + 1, by go_num, by omega, ⟨HB2.out, fun e => absurd e HG1.out, by rw [show op + ((k + 1 : Nat) : Int) = op + (k : Int) + 1 by omega]; exact HDI.out.1, HDI.out.2, HK2.out⟩⟩
      case measure => simp [intOf] <;> omega
    · have hd1 : decide ((k : Int) < (m : Int)) = false := decide_eq_false (by omega)
      obtain rfl : k = m := by omega
      go_wp2_with fail
      refine (lbstr_any w.heap.size (gatL S C f k) wr HT.out.bld HT.out.emp hBw).mono ?_
      rintro e w2 ⟨rfl, hbe⟩
      have HDI := Lib.hid (HT.out.dw.belowB HT.out.ind hbe HN.out)
      have HK2 := Lib.hid (HT.out.kd.belowB hbe HDl.out)
      clear hbe
      go_wp2_with fail
      go_ret2
      exact ⟨rfl, HDI.out.1, HK2.out⟩
end Go.Proofs.YtagenkofoacajaaDoor

namespace Go.Proofs.YtagenkofoacajaaDoor
open Go.RowKit Vi Ar

/-- the first bytes of the sectors from f on -/
def lgT (S : List ByteArray) (C : List Wr) (f : Int) (T : Nat) : ByteArray := (⟨(gatL S C f (scN T)).toArray⟩ : ByteArray).extract 0 T
/-- a log was opened -/
def OpenP (n : Nat) (w0 : World) (D : Nat) (S : List ByteArray) (C : List Wr) (ar op : Int) (f m : Int) (T : Nat) (w : World) (e : Ending) (w' : World) : Prop := ∃ L, e = .returned (.tuple #[.pointer (some ⟨L, 0, none⟩), .int .i64 0]) ∧ LW n w0 D L ⟨S, C, ar, false, op + (scN T : Int)⟩ f m (lgT S C f T) w' ∧ Kd D w w' ∧ w.heap.size ≤ L
theorem Kd.kkN {D g : Nat} {w1 w w' : World} {SS : List ByteArray} {CC : List Wr} {dn : Bool} {ops fu : Int} (h : Kd D w1 w) (hd : DK D SS CC dn ops fu w) (k : KK [g] w w') (hng : ¬ InD D w g) (hn : w1.heap.size ≤ g) : Kd D w1 w' :=
  ⟨k.os.trans h.os, k.tape.trans h.tape, k.output.trans h.output, Nat.le_trans h.size k.size, fun b q hni => (k.block b (Nat.lt_of_lt_of_le q h.size) (fun e => by
      obtain rfl : b = g := by simpa using e
      omega)).trans (h.block b q hni), fun b q hin => h.ind b q (hin.kkM k hd.lt (fun e => hng (.inl e.symm)))⟩
set_option maxRecDepth 100000 in
set_option maxHeartbeats 2000000 in
theorem lopen_any (n : Nat) (w0 : World) (D : Nat) (S : List ByteArray) (C : List Wr) (ar op : Int) (k0 : Nat) (f m : Int) (T : Nat) (w : World) (h : DW n w0 D ⟨S, C, ar, false, op⟩ w) (o : DsOk k0 ⟨S, C, ar, false, op⟩) (hk : k0 + scN T ≤ 1000) (hf : 0 ≤ f) (hm : 0 ≤ m) (hfm : f + m ≤ (S.length : Int)) (hT : (scN T : Int) ≤ m) (hsz : ∀ j : Nat, j < scN T → (shw S C (f + (j : Int))).size = 128) :
    Calls Tryd.prog 8 #[.pointer (some ⟨D, 0, none⟩), .int .i64 f, .int .i64 m, .int .i64 (T : Int)] w (OpenP n w0 D S C ar op f m T w) := by
  have hs1 : 16 ≤ S.length := o.s1
  have hs2 : S.length ≤ 4096 := o.s2
  have hTb : T ≤ 128 * scN T := by unfold scN; omega
  have HO := Lib.hid o
  have hb0 : Below w.heap.size w (w.alloc (lgO D f m ⟨#[]⟩)) := (Below.refl _ _).alloc (Nat.le_refl _) _
  have HL0 : Hid (LW n w0 D w.heap.size ⟨S, C, ar, false, op⟩ f m ⟨#[]⟩ (w.alloc (lgO D f m ⟨#[]⟩))) := Lib.hid ⟨h.below hb0, blk_new w _, fun q => by have := h.dk.new (q.back hb0 h.lt); omega, h.sz⟩
  have HK0 := Lib.hid (Kd.of_below hb0 h.lt)
  obtain ⟨v, hv⟩ : ∃ v, v = w.alloc (lgO D f m ⟨#[]⟩) := ⟨_, rfl⟩
  have HV : Hid (v = w.alloc (.cells #[.pointer (some ⟨D, 0, none⟩), .int .i64 f, .int .i64 m, .string ⟨#[]⟩] 26 (0, 0))) := Lib.hid hv
  rw [← hv] at HL0 HK0
  have hTi : (T : Int) ≤ 200000 := by omega
  have HSC := Lib.hid (fun W : World => (by have q := sectors_any (T : Int) W (by omega) (by omega); rw [sc_nat] at q; exact q : Calls Tryd.prog 37 #[.int .i64 (T : Int)] W fun e w' => e = .returned (.int .i64 ((scN T : Nat) : Int)) ∧ W = w'))
  have HGL := Lib.hid (gatL_len hsz (scN T) (Nat.le_refl _))
  have HSZ := Lib.hid hsz
  have HX := Lib.hid (show lgT S C f T = (⟨(gatL S C f (scN T)).toArray⟩ : ByteArray).extract 0 T from rfl)
  obtain ⟨G, hG⟩ : ∃ G, G = (⟨(gatL S C f (scN T)).toArray⟩ : ByteArray) := ⟨_, rfl⟩
  have hGs : G.size = 128 * scN T := by rw [hG, ← HGL.out]; simp [ByteArray.size]
  have HG := Lib.hid hG
  rw [← hG] at HX
  obtain ⟨X, hX⟩ : ∃ X, X = lgT S C f T := ⟨_, rfl⟩
  rw [← hX] at HX
  have HXE := Lib.hid hX
  obtain ⟨c, hc⟩ : ∃ c, c = scN T := ⟨_, rfl⟩
  have HC := Lib.hid hc
  have hsl : ∀ W : World, (Instr.slice 9 (.string G) none (some (.int .i64 (T : Int))) none).run Tryd.prog W = .ok (.string X) W := fun W => by
    rw [run_slice_string_h _ _ _ Tryd.underlying9 _ _ (by omega) (by omega), HX.out]
    rw [show ((T : Int)).toNat = T by omega]
  rw [← hc] at HSC hk hT hTb
  have d0 : ((S.length : Int) == 0) = false := by rw [beq_eq_false_iff_ne]; omega
  have d1 : decide (f < 0) = false := decide_eq_false (by omega)
  have d2 : decide (m < 0) = false := decide_eq_false (by omega)
  have d3 : decide (m > (S.length : Int) - f) = false := decide_eq_false (by omega)
  have d3' : decide ((S.length : Int) - f < m) = false := decide_eq_false (by omega)
  have d4 : decide ((T : Int) < 0) = false := decide_eq_false (by omega)
  have d5 : decide ((c : Int) > m) = false := decide_eq_false (by omega)
  have d5' : decide (m < (c : Int)) = false := decide_eq_false (by omega)
  clear h o hb0 hv hsz hG hX hc hGs
  go_enter Tryd.func8, Tryd.ntmps8
  go_upto_region 2 with (fail)
  rw [← HV.out]
  clear HV
  generalize hLe : w.heap.size = L at *
  have HLe := Lib.hid hLe
  clear hLe
  go_wp2_with fail
  refine (HL0.out.dw.sizeIs).mono ?_
  rintro e w' ⟨rfl, rfl⟩
  go_wp2_with fail
  refine (lbehind_any HL0.out hf (by omega) (by show S.length ≤ _; omega)).mono ?_
  rintro e w1 ⟨rfl, hb1⟩
  have HL1 := Lib.hid (HL0.out.below hb1)
  have HK1 := Lib.hid (HK0.out.trans (Kd.of_below hb1 HL0.out.dw.lt))
  clear hb1 HL0 HK0
  go_wp2_with fail
  refine (HSC.out _).mono ?_
  rintro e w' ⟨rfl, rfl⟩
  go_wp2_with fail
  refine (HSC.out _).mono ?_
  rintro e w' ⟨rfl, rfl⟩
  go_wp2_with fail
  refine (lgather_any n w0 D S C ar op k0 f c w1 HL1.out.dw HO.out hk hf (by omega) (by rw [HC.out]; exact HSZ.out)).mono ?_
  rintro e w2 ⟨rfl, hd2, hk2⟩
  have HL2 := Lib.hid (HL1.out.kd hd2 hk2)
  have HK2 := Lib.hid (HK1.out.trans hk2)
  clear hd2 hk2 HL1 HK1
  rw [show (⟨(gatL S C f c).toArray⟩ : ByteArray) = G by rw [HC.out, HG.out]]
  have f3 := HL2.out.fz 3
  have c3 := HL2.out.c3
  go_wp2_with fail
  have HL3 := Lib.hid (HL2.out.set X)
  have HK3 := Lib.hid ((KK.refl [L] w2).set (b := L) (by simp) 3 (.string X))
  have HK4 : Hid (Kd D w (w2.setCell ⟨L, 3, none⟩ (.string X))) := Lib.hid (HK2.out.kkN HL2.out.dw.dk HK3.out HL2.out.nl (by rw [HLe.out]; exact Nat.le_refl _))
  have HL5 : Hid (LW n w0 D L ⟨S, C, ar, false, op + (scN T : Int)⟩ f m (lgT S C f T) (w2.setCell ⟨L, 3, none⟩ (.string X))) := Lib.hid (by have q := HL3.out; rw [HC.out] at q; rw [← HXE.out]; exact q)
  go_ret2
  exact ⟨L, rfl, HL5.out, HK4.out, by rw [HLe.out]; exact Nat.le_refl _⟩
end Go.Proofs.YtagenkofoacajaaDoor

namespace Go.Proofs.YtagenkofoacajaaDoor
open Go.RowKit Vi Ar

theorem lne_facts {s : ByteArray} (hs : s.size ≠ 0) : (s.toList == []) = false ∧ s.toList.isEmpty = false ∧ (s == (⟨#[]⟩ : ByteArray)) = false := by
  have q : ∃ a l, s.data.toList = a :: l := by
    cases q : s.data.toList with
    | nil => exact absurd (by show s.data.size = 0; rw [← Array.length_toList, q]; rfl) hs
    | cons a l => exact ⟨a, l, rfl⟩
  obtain ⟨a, l, q⟩ := q
  have h1 : s.toList = a :: l := by rw [ByteArray.toList_eq, q]
  refine ⟨by rw [h1]; rfl, by rw [h1]; rfl, ?_⟩
  cases q3 : (s == (⟨#[]⟩ : ByteArray)) with
  | false => rfl
  | true =>
    have e : (s.data == (#[] : Array UInt8)) = true := q3
    have e2 : s.data = #[] := by simpa using e
    exact absurd (by show s.data.size = 0; rw [e2]; rfl) hs
/-- the bytes behind the full sectors of the first ones -/
def lgR (t s : ByteArray) : ByteArray := (t ++ s).extract (t.size / 128 * 128) (t ++ s).size
theorem lgR_size (t s : ByteArray) : (lgR t s).size = t.size + s.size - t.size / 128 * 128 := by
  unfold lgR
  rw [ByteArray.size_extract, ByteArray.size_append]
  omega
/-- what is written when a log grows -/
def lgW (d : Ds) (f : Int) (t s : ByteArray) : Ds × Int := layN (f + ((t.size / 128 : Nat) : Int)) (lgR t s) 0 (scN (lgR t s).size) d
section
variable {n : Nat} {w0 : World} {D L : Nat} {d : Ds} {f m : Int} {t : ByteArray} {w : World} {k0 : Nat}
set_option maxRecDepth 100000 in
theorem lgrow_full (h : LW n w0 D L d f m t w) (h0 : 0 ≤ m) (h1 : m ≤ 100000) (h2 : t.size ≤ 1000000) (s : ByteArray) (hq : m * 128 - (t.size : Int) < (s.size : Int)) :
    Calls Tryd.prog 11 #[.pointer (some ⟨L, 0, none⟩), .string s] w fun e w' => e = .returned (.int .i64 6) ∧ LW n w0 D L d f m t w' := by
  have d1 : decide ((s.size : Int) > m * 128 - (t.size : Int)) = true := decide_eq_true hq
  have d1' : decide (m * 128 - (t.size : Int) < (s.size : Int)) = true := decide_eq_true hq
  have HM := Lib.hid (lmade_any h)
  have HR := Lib.hid (lroom_any h h0 h1 (by omega))
  have HL := Lib.hid h
  clear h hq
  go_enter Tryd.func11, Tryd.ntmps11
  go_wp2_with fail
  refine HM.out.mono ?_
  rintro e w' ⟨rfl, rfl⟩
  go_wp2_with fail
  refine HR.out.mono ?_
  rintro e w1 ⟨rfl, hb⟩
  have HL1 := Lib.hid (HL.out.below hb)
  clear hb
  go_wp2_with fail
  go_ret
  exact ⟨rfl, HL1.out⟩
set_option maxRecDepth 100000 in
theorem lgrow_none (h : LW n w0 D L d f m t w) (h0 : 0 ≤ m) (h1 : m ≤ 100000) (h2 : t.size ≤ 1000000) (hq : (t.size : Int) ≤ m * 128) :
    Calls Tryd.prog 11 #[.pointer (some ⟨L, 0, none⟩), .string ⟨#[]⟩] w fun e w' => e = .returned (.int .i64 0) ∧ LW n w0 D L d f m t w' := by
  have d1 : decide ((0 : Int) > m * 128 - (t.size : Int)) = false := decide_eq_false (by omega)
  have d1' : decide (m * 128 - (t.size : Int) < (0 : Int)) = false := decide_eq_false (by omega)
  have HM := Lib.hid (lmade_any h)
  have HR := Lib.hid (lroom_any h h0 h1 (by omega))
  have HL := Lib.hid h
  clear h hq
  go_enter Tryd.func11, Tryd.ntmps11
  go_wp2_with fail
  refine HM.out.mono ?_
  rintro e w' ⟨rfl, rfl⟩
  go_wp2_with fail
  refine HR.out.mono ?_
  rintro e w1 ⟨rfl, hb⟩
  have HL1 := Lib.hid (HL.out.below hb)
  clear hb
  go_wp2_with fail
  go_ret
  exact ⟨rfl, HL1.out⟩
/-- a log grows: what is told, and the text then -/
def GrowP (n : Nat) (w0 : World) (D L : Nat) (d : Ds) (f m : Int) (t s : ByteArray) (e : Ending) (w' : World) : Prop := e = .returned (.int .i64 (lgW d f t s).2) ∧ ∃ t2, ((lgW d f t s).2 = 0 → t2 = t ++ s) ∧ LW n w0 D L (lgW d f t s).1 f m t2 w'
set_option maxRecDepth 100000 in
set_option maxHeartbeats 4000000 in
theorem lgrow_lay (h : LW n w0 D L d f m t w) (o : DsOk k0 d) (hf : 0 ≤ f) (hf2 : f ≤ 10000) (h0 : 0 ≤ m) (h1 : m ≤ 100000) (h2 : t.size ≤ 50000) (s : ByteArray) (hs0 : s.size ≠ 0) (hs : s.size ≤ 50000) (hq : (s.size : Int) ≤ m * 128 - (t.size : Int)) (hk : k0 + scN (lgR t s).size ≤ 1000) :
    Calls Tryd.prog 11 #[.pointer (some ⟨L, 0, none⟩), .string s] w (GrowP n w0 D L d f m t s) := by
  have d1 : decide ((s.size : Int) > m * 128 - (t.size : Int)) = false := decide_eq_false (by omega)
  have d1' : decide (m * 128 - (t.size : Int) < (s.size : Int)) = false := decide_eq_false (by omega)
  obtain ⟨n1, n2, n3⟩ := lne_facts hs0
  have HM := Lib.hid (lmade_any h)
  have HR := Lib.hid (lroom_any h h0 h1 (by omega))
  have HL := Lib.hid h
  have HO := Lib.hid o
  have HRS := Lib.hid (lgR_size t s)
  have htb : t.size / 128 * 128 ≤ t.size := by omega
  obtain ⟨q, hqq⟩ : ∃ q, q = t.size / 128 := ⟨_, rfl⟩
  have hqb : q ≤ 400 := by omega
  have HFU := Lib.hid (fun (W : World) (x : LW n w0 D L d f m t W) => (by rw [hqq]; exact lfull_any x (by omega) : Calls Tryd.prog 42 #[.pointer (some ⟨L, 0, none⟩)] W fun e w' => e = .returned (.int .i64 (q : Int)) ∧ W = w'))
  have e1 : IntKind.i64.wrap (f + (q : Int)) = f + (q : Int) := IntWalk.i64_in _ (by omega)
  have e2 : IntKind.i64.wrap ((q : Int) * 128) = (q : Int) * 128 := IntWalk.i64_in _ (by omega)
  have has : (t ++ s).size = t.size + s.size := ByteArray.size_append
  obtain ⟨X, hX⟩ : ∃ X, X = lgR t s := ⟨_, rfl⟩
  have HXE := Lib.hid hX
  have hsl : ∀ W : World, (Instr.slice 9 (.string (t ++ s)) (some (.int .i64 ((q : Int) * 128))) none none).run Tryd.prog W = .ok (.string X) W := fun W => by
    rw [run_slice_string_l _ _ _ Tryd.underlying9 _ _ (by omega) (by rw [has]; omega), hX]
    unfold lgR
    rw [← hqq, show ((q : Int) * 128).toNat = q * 128 by omega]
  have HW := Lib.hid (show lgW d f t s = layN (f + (q : Int)) X 0 (scN X.size) d by unfold lgW; rw [← hqq, ← hX])
  have hXs : X.size ≤ 100000 := by rw [hX, HRS.out]; omega
  rw [← hX] at hk
  have HQ := Lib.hid hqq
  obtain ⟨R, hR⟩ : ∃ R, R = lgW d f t s := ⟨_, rfl⟩
  have HRE := Lib.hid hR
  rw [← hR] at HW
  have HLAY := Lib.hid (fun (W : World) (x : DW n w0 D d W) => (by have y := llay_any n w0 D d k0 (f + (q : Int)) X W x HO.out hk (by omega) (by omega) hXs; rw [← HW.out] at y; exact y : Calls Tryd.prog 41 #[.int .i64 (f + (q : Int)), .string X, .func (.func 43) #[.pointer (some ⟨D, 0, none⟩)] #[]] W (PI n w0 D R.1 R.2 W)))
  clear h o hqq hX hR hq hs0 has htb HRS HW HO
  go_enter Tryd.func11, Tryd.ntmps11
  go_wp2_with fail
  refine HM.out.mono ?_
  rintro e w' ⟨rfl, rfl⟩
  go_wp2_with fail
  refine HR.out.mono ?_
  rintro e w1 ⟨rfl, hb⟩
  have HL1 := Lib.hid (HL.out.below hb)
  clear hb HL HM HR
  have c3 := HL1.out.c3
  go_upto_region 8 with (fail)
  clear c3
  have HV := Lib.hid (HL1.out.below (Below.refl _ _).drew)
  refine wp_region_L_drew (S := fun _ W => W.heap[L]? = some (lgO D f m t)) (by kernel_rfl) HV.out.bx (fun hS hC => ?_)
  generalize w1.drew = v0 at *
  refine wpAnyL_take (i := 0) (oi := { dst := some 26, op := .move (.tmp 0), type := _, pos := _, after := _, guard := none }) (v := ?_) rfl (by kernel_rfl) (by kernel_rfl) (by kernel_rfl) (fun _ _ _ h => h) (fun _ _ => Iff.rfl) hC (Or.inl ⟨by rfl, ?_⟩) HV.out.bx (fun hC hS => ?_)
  rotate_left
  · intro W9 hSw; skip; go_simp; try (with_reducible rfl)
  try simp only [Act.put, List.setIfInBounds_toArray, List.set_cons_zero, List.set_cons_succ]
  refine wpAnyL_take (i := 1) (oi := { dst := some 27, op := .nilCheck (.tmp 26), type := _, pos := _, after := _, guard := none }) (v := ?_) rfl (by kernel_rfl) (by kernel_rfl) (by kernel_rfl) (fun _ _ _ h => h) (fun _ _ => Iff.rfl) hC (Or.inl ⟨by rfl, ?_⟩) HV.out.bx (fun hC hS => ?_)
  rotate_left
  · intro W9 hSw; skip; go_simp; try (with_reducible rfl)
  try simp only [Act.put, List.setIfInBounds_toArray, List.set_cons_zero, List.set_cons_succ]
  refine wpAnyL_take (i := 2) (oi := { dst := some 28, op := .fieldAddr 26 (.tmp 27) 1, type := _, pos := _, after := _, guard := none }) (v := ?_) rfl (by kernel_rfl) (by kernel_rfl) (by kernel_rfl) (fun _ _ _ h => h) (fun _ _ => Iff.rfl) hC (Or.inl ⟨by rfl, ?_⟩) HV.out.bx (fun hC hS => ?_)
  rotate_left
  · intro W9 hSw; skip; go_simp; try (with_reducible rfl)
  try simp only [Act.put, List.setIfInBounds_toArray, List.set_cons_zero, List.set_cons_succ]
  refine wpAnyL_take (i := 3) (oi := { dst := some 29, op := .load 3 (.tmp 28), type := _, pos := _, after := _, guard := none }) (v := ?_) rfl (by kernel_rfl) (by kernel_rfl) (by kernel_rfl) (fun _ _ _ h => h) (fun _ _ => Iff.rfl) hC (Or.inl ⟨by rfl, ?_⟩) HV.out.bx (fun hC hS => ?_)
  rotate_left
  · intro W9 hSw; have q1 := (cell_of_row _ _ 1 _ _ _ hSw.choose_spec.2.2).trans rfl; go_simp; try (with_reducible rfl)
  try simp only [Act.put, List.setIfInBounds_toArray, List.set_cons_zero, List.set_cons_succ]
  refine wpAnyL_take (i := 4) (oi := { dst := some 30, op := .move (.tmp 0), type := _, pos := _, after := _, guard := none }) (v := ?_) rfl (by kernel_rfl) (by kernel_rfl) (by kernel_rfl) (fun _ _ _ h => h) (fun _ _ => Iff.rfl) hC (Or.inl ⟨by rfl, ?_⟩) HV.out.bx (fun hC hS => ?_)
  rotate_left
  · intro W9 hSw; skip; go_simp; try (with_reducible rfl)
  try simp only [Act.put, List.setIfInBounds_toArray, List.set_cons_zero, List.set_cons_succ]
  refine wpAnyL_take (i := 7) (oi := { dst := some 33, op := .move (.tmp 5), type := _, pos := _, after := _, guard := none }) (v := ?_) rfl (by kernel_rfl) (by kernel_rfl) (by kernel_rfl) (fun _ _ _ h => h) (fun _ _ => Iff.rfl) hC (Or.inl ⟨by rfl, ?_⟩) HV.out.bx (fun hC hS => ?_)
  rotate_left
  · intro W9 hSw; skip; go_simp; try (with_reducible rfl)
  try simp only [Act.put, List.setIfInBounds_toArray, List.set_cons_zero, List.set_cons_succ]
  refine wpAnyL_take (i := 8) (oi := { dst := some 34, op := .move (.tmp 0), type := _, pos := _, after := _, guard := none }) (v := ?_) rfl (by kernel_rfl) (by kernel_rfl) (by kernel_rfl) (fun _ _ _ h => h) (fun _ _ => Iff.rfl) hC (Or.inl ⟨by rfl, ?_⟩) HV.out.bx (fun hC hS => ?_)
  rotate_left
  · intro W9 hSw; skip; go_simp; try (with_reducible rfl)
  try simp only [Act.put, List.setIfInBounds_toArray, List.set_cons_zero, List.set_cons_succ]
  refine wpAnyL_take (i := 12) (oi := { dst := some 38, op := .move (.tmp 0), type := _, pos := _, after := _, guard := none }) (v := ?_) rfl (by kernel_rfl) (by kernel_rfl) (by kernel_rfl) (fun _ _ _ h => h) (fun _ _ => Iff.rfl) hC (Or.inl ⟨by rfl, ?_⟩) HV.out.bx (fun hC hS => ?_)
  rotate_left
  · intro W9 hSw; skip; go_simp; try (with_reducible rfl)
  try simp only [Act.put, List.setIfInBounds_toArray, List.set_cons_zero, List.set_cons_succ]
  refine wpAnyL_take (i := 13) (oi := { dst := some 39, op := .nilCheck (.tmp 38), type := _, pos := _, after := _, guard := none }) (v := ?_) rfl (by kernel_rfl) (by kernel_rfl) (by kernel_rfl) (fun _ _ _ h => h) (fun _ _ => Iff.rfl) hC (Or.inl ⟨by rfl, ?_⟩) HV.out.bx (fun hC hS => ?_)
  rotate_left
  · intro W9 hSw; skip; go_simp; try (with_reducible rfl)
  try simp only [Act.put, List.setIfInBounds_toArray, List.set_cons_zero, List.set_cons_succ]
  refine wpAnyL_take (i := 14) (oi := { dst := some 40, op := .fieldAddr 26 (.tmp 39) 0, type := _, pos := _, after := _, guard := none }) (v := ?_) rfl (by kernel_rfl) (by kernel_rfl) (by kernel_rfl) (fun _ _ _ h => h) (fun _ _ => Iff.rfl) hC (Or.inl ⟨by rfl, ?_⟩) HV.out.bx (fun hC hS => ?_)
  rotate_left
  · intro W9 hSw; skip; go_simp; try (with_reducible rfl)
  try simp only [Act.put, List.setIfInBounds_toArray, List.set_cons_zero, List.set_cons_succ]
  refine wpAnyL_take (i := 15) (oi := { dst := some 41, op := .load 24 (.tmp 40), type := _, pos := _, after := _, guard := none }) (v := ?_) rfl (by kernel_rfl) (by kernel_rfl) (by kernel_rfl) (fun _ _ _ h => h) (fun _ _ => Iff.rfl) hC (Or.inl ⟨by rfl, ?_⟩) HV.out.bx (fun hC hS => ?_)
  rotate_left
  · intro W9 hSw; have q0 := (cell_of_row _ _ 0 _ _ _ hSw.choose_spec.2.2).trans rfl; go_simp; try (with_reducible rfl)
  try simp only [Act.put, List.setIfInBounds_toArray, List.set_cons_zero, List.set_cons_succ]
  refine wpAnyL_take (i := 16) (oi := { dst := some 42, op := .makeFunc (.func 43) #[.tmp 41] #[], type := _, pos := _, after := _, guard := none }) (v := ?_) rfl (by kernel_rfl) (by kernel_rfl) (by kernel_rfl) (fun _ _ _ h => h) (fun _ _ => Iff.rfl) hC (Or.inl ⟨by rfl, ?_⟩) HV.out.bx (fun hC hS => ?_)
  rotate_left
  · intro W9 hSw; skip; go_simp; try (with_reducible rfl)
  try simp only [Act.put, List.setIfInBounds_toArray, List.set_cons_zero, List.set_cons_succ]
  refine wpAnyL_ready (rs := [5]) (by kernel_rfl) (by simp) hC ?_
  refine AllReadyL.cons (o := { dst := some 31, op := .call { callee := .value (.func 42), args := #[.tmp 30], argTypes := #[23] }, type := _, pos := _, after := _, guard := none }) rfl (fun K9 hK => ?_) ?_
  · skip
    go_simp
    refine (HFU.out _ HV.out).mono ?_
    rintro e w' ⟨rfl, rfl⟩
    refine hK _ _ HV.out.bx (fun hC => ?_)
    clear hK K9
    try simp only [Act.put, List.setIfInBounds_toArray, List.set_cons_zero, List.set_cons_succ]
    refine wpAnyL_take (i := 6) (oi := { dst := some 32, op := .binOp .add 3 (.tmp 29) (.tmp 31) 3, type := _, pos := _, after := _, guard := none }) (v := ?_) rfl (by kernel_rfl) (by kernel_rfl) (by kernel_rfl) (fun _ _ _ h => h) (fun _ _ => Iff.rfl) hC (Or.inl ⟨by rfl, ?_⟩) HV.out.bx (fun hC hS => ?_)
    rotate_left
    · intro W9 hSw; skip; go_simp; try (with_reducible rfl)
    try simp only [Act.put, List.setIfInBounds_toArray, List.set_cons_zero, List.set_cons_succ]
    refine wpAnyL_ready (rs := [9]) (by kernel_rfl) (by simp) hC ?_
    refine AllReadyL.cons (o := { dst := some 35, op := .call { callee := .value (.func 42), args := #[.tmp 34], argTypes := #[23] }, type := _, pos := _, after := _, guard := none }) rfl (fun K9 hK => ?_) ?_
    · skip
      go_simp
      refine (HFU.out _ HV.out).mono ?_
      rintro e w' ⟨rfl, rfl⟩
      refine hK _ _ HV.out.bx (fun hC => ?_)
      clear hK K9
      try simp only [Act.put, List.setIfInBounds_toArray, List.set_cons_zero, List.set_cons_succ]
      refine wpAnyL_take (i := 10) (oi := { dst := some 36, op := .binOp .mul 3 (.tmp 35) (.const (.int Go.IntKind.i64 128)) 3, type := _, pos := _, after := _, guard := none }) (v := ?_) rfl (by kernel_rfl) (by kernel_rfl) (by kernel_rfl) (fun _ _ _ h => h) (fun _ _ => Iff.rfl) hC (Or.inl ⟨by rfl, ?_⟩) HV.out.bx (fun hC hS => ?_)
      rotate_left
      · intro W9 hSw; skip; go_simp; try (with_reducible rfl)
      try simp only [Act.put, List.setIfInBounds_toArray, List.set_cons_zero, List.set_cons_succ]
      refine wpAnyL_take (i := 11) (oi := { dst := some 37, op := .slice 9 (.tmp 33) (some (.tmp 36)) none none, type := _, pos := _, after := _, guard := none }) (v := ?_) rfl (by kernel_rfl) (by kernel_rfl) (by kernel_rfl) (fun _ _ _ h => h) (fun _ _ => Iff.rfl) hC (Or.inl ⟨by rfl, ?_⟩) HV.out.bx (fun hC hS => ?_)
      rotate_left
      · intro W9 hSw; skip; go_simp; try (with_reducible rfl)
      try simp only [Act.put, List.setIfInBounds_toArray, List.set_cons_zero, List.set_cons_succ]
      refine wpAnyL_ready (rs := [17]) (by kernel_rfl) (by simp) hC ?_
      refine AllReadyL.cons (o := { dst := some 43, op := .call { callee := .value (.func 41), args := #[.tmp 32, .tmp 37, .tmp 42], argTypes := #[3, 9, 65] }, type := _, pos := _, after := _, guard := none }) rfl (fun K9 hK => ?_) ?_
      · skip
        go_simp
        refine (HLAY.out _ HV.out.dw).mono ?_
        rintro e v1 ⟨rfl, hd2, hk2⟩
        have HL2 := Lib.hid (HV.out.kd hd2 hk2)
        clear hd2 hk2 HV HL1
        refine hK _ _ HL2.out.bx (fun hC => ?_)
        clear hK K9
        try simp only [Act.put, List.setIfInBounds_toArray, List.set_cons_zero, List.set_cons_succ]
        refine wpAnyL_take (i := 18) (oi := { dst := some 6, op := .assign (.tmp 43), type := _, pos := _, after := _, guard := none }) (v := ?_) rfl (by kernel_rfl) (by kernel_rfl) (by kernel_rfl) (fun _ _ _ h => h) (fun _ _ => Iff.rfl) hC (Or.inl ⟨by rfl, ?_⟩) HL2.out.bx (fun hC hS => ?_)
        rotate_left
        · intro W9 hSw; skip; go_simp; try (with_reducible rfl)
        try simp only [Act.put, List.setIfInBounds_toArray, List.set_cons_zero, List.set_cons_succ]
        refine wpAnyL_done (by kernel_rfl) ?_ _
        clear hS hC
        by_cases hz : R.2 = 0
        · have hzz : (R.2 != 0) = false := by simpa using hz
          have hzz2 : (R.2 == 0) = true := by simpa using hz
          have c3 := HL2.out.c3
          have f3 := HL2.out.fz 3
          have HL3 := Lib.hid (HL2.out.set (t ++ s))
          have HZ := Lib.hid hz
          clear hz
          go_wp2_with fail
          go_ret
          exact ⟨dk_retI (by rw [← HRE.out, HZ.out]), t ++ s, fun _ => rfl, by rw [← HRE.out]; exact HL3.out⟩
        · have hzz : (R.2 != 0) = true := by simpa using hz
          have HZ := Lib.hid hz
          clear hz
          go_wp2_with fail
          go_ret
          exact ⟨dk_retI (by rw [← HRE.out]), t, fun e => absurd (by rw [← HRE.out] at e; exact e) HZ.out, by rw [← HRE.out]; exact HL2.out⟩
      exact AllReadyL.nil
    exact AllReadyL.nil
  exact AllReadyL.nil
/-- how many sectors are written -/
def lgN (m : Int) (t : ByteArray) (b : Int) : Int := if b ≤ 0 ∨ m * 128 - (t.size : Int) < b then 0 else ((scN (t.size + b.toNat) : Nat) : Int) - ((t.size / 128 : Nat) : Int)
set_option maxRecDepth 100000 in
set_option maxHeartbeats 4000000 in
theorem lwrites_any (h : LW n w0 D L d f m t w) (h0 : 0 ≤ m) (h1 : m ≤ 100000) (h2 : t.size ≤ 50000) b (hb0 : 0 ≤ b) (hb : b ≤ 100000) :
    Calls Tryd.prog 13 #[.pointer (some ⟨L, 0, none⟩), .int .i64 b] w fun e w' => e = .returned (.int .i64 (lgN m t b)) ∧ LW n w0 D L d f m t w' := by
  have HM := Lib.hid (lmade_any h)
  have HR := Lib.hid (lroom_any h h0 h1 (by omega))
  have HL := Lib.hid h
  by_cases hz : b ≤ 0
  · have d0 : decide (b ≤ 0) = true := decide_eq_true hz
    have HX := Lib.hid (show (0 : Int) = lgN m t b by unfold lgN; rw [if_pos (Or.inl hz)])
    clear h hz
    go_enter Tryd.func13, Tryd.ntmps13
    go_wp2_with fail
    refine HM.out.mono ?_
    rintro e w' ⟨rfl, rfl⟩
    go_wp2_with fail
    go_ret
    exact ⟨dk_retI HX.out, HL.out⟩
  · have d0 : decide (b ≤ 0) = false := decide_eq_false (by omega)
    by_cases hq : m * 128 - (t.size : Int) < b
    · have d1 : decide (b > m * 128 - (t.size : Int)) = true := decide_eq_true hq
      have d1' : decide (m * 128 - (t.size : Int) < b) = true := decide_eq_true hq
      have HX := Lib.hid (show (0 : Int) = lgN m t b by unfold lgN; rw [if_pos (Or.inr hq)])
      clear h hq hz
      go_enter Tryd.func13, Tryd.ntmps13
      go_wp2_with fail
      refine HM.out.mono ?_
      rintro e w' ⟨rfl, rfl⟩
      go_wp2_with fail
      refine HR.out.mono ?_
      rintro e w1 ⟨rfl, hb1⟩
      have HL1 := Lib.hid (HL.out.below hb1)
      clear hb1
      go_wp2_with fail
      go_ret
      exact ⟨dk_retI HX.out, HL1.out⟩
    · have d1 : decide (b > m * 128 - (t.size : Int)) = false := decide_eq_false hq
      have d1' : decide (m * 128 - (t.size : Int) < b) = false := decide_eq_false hq
      have e1 : IntKind.i64.wrap ((t.size : Int) + b) = (t.size : Int) + b := IntWalk.i64_in _ (by omega)
      obtain ⟨sq, hsq⟩ : ∃ z, z = scN (t.size + b.toNat) := ⟨_, rfl⟩
      have hsb : sq ≤ 100000 := by rw [hsq]; unfold scN; omega
      have HSC := Lib.hid (fun W : World => (by have q := sectors_any ((t.size + b.toNat : Nat) : Int) W (by omega) (by omega); rw [sc_nat, ← hsq] at q; rw [Int.natCast_add, Int.toNat_of_nonneg hb0] at q; exact q : Calls Tryd.prog 37 #[.int .i64 ((t.size : Int) + b)] W fun e w' => e = .returned (.int .i64 (sq : Int)) ∧ W = w'))
      obtain ⟨q, hqq⟩ : ∃ q, q = t.size / 128 := ⟨_, rfl⟩
      have hqb : q ≤ 400 := by omega
      have HFU := Lib.hid (fun (W : World) (x : LW n w0 D L d f m t W) => (by rw [hqq]; exact lfull_any x (by omega) : Calls Tryd.prog 42 #[.pointer (some ⟨L, 0, none⟩)] W fun e w' => e = .returned (.int .i64 (q : Int)) ∧ W = w'))
      have e2 : IntKind.i64.wrap ((sq : Int) - (q : Int)) = (sq : Int) - (q : Int) := IntWalk.i64_in _ (by omega)
      have HX := Lib.hid (show (sq : Int) - (q : Int) = lgN m t b by unfold lgN; rw [if_neg (by omega), hsq, hqq])
      clear h hq hz hsq hqq
      go_enter Tryd.func13, Tryd.ntmps13
      go_wp2_with fail
      refine HM.out.mono ?_
      rintro e w' ⟨rfl, rfl⟩
      go_wp2_with fail
      refine HR.out.mono ?_
      rintro e w1 ⟨rfl, hb1⟩
      have HL1 := Lib.hid (HL.out.below hb1)
      clear hb1
      have c3 := HL1.out.c3
      go_wp2_with fail
      refine (HSC.out _).mono ?_
      rintro e w' ⟨rfl, rfl⟩
      go_wp2_with fail
      refine (HFU.out _ HL1.out).mono ?_
      rintro e w' ⟨rfl, rfl⟩
      go_wp2_with fail
      go_ret
      exact ⟨dk_retI HX.out, HL1.out⟩
end
end Go.Proofs.YtagenkofoacajaaDoor

namespace Go.Proofs.YtagenkofoacajaaDoor
open Go.RowKit Vi Ar

theorem setP_ok (P : Nat → ByteArray → Prop) (p : Nat → Bool) : ∀ (C : List Wr) (k : Nat) (S : List ByteArray), (∀ x ∈ C, P x.1.toNat x.2) → (∀ (q : Nat) (t : ByteArray), S[q]? = some t → P q t) → ∀ (q : Nat) (t : ByteArray), (setP p k C S)[q]? = some t → P q t
  | [], _, _, _, hS => hS
  | x :: r, k, S, hC, hS => by
    rw [setP]
    refine setP_ok P p r (k + 1) _ (fun y hy => hC y (List.mem_cons_of_mem _ hy)) (fun q t hq => ?_)
    split at hq
    · rw [List.getElem?_set] at hq
      split at hq
      · next e =>
        split at hq
        · injection hq with hq
          subst hq e
          exact hC x (List.mem_cons_self ..)
        · cases hq
      · exact hS q t hq
    · exact hS q t hq
theorem setP_allok (P : Nat → ByteArray → Prop) : ∀ (C : List Wr) (k : Nat) (S : List ByteArray), (∀ x ∈ C, P x.1.toNat x.2) → (∀ (q : Nat) (t : ByteArray), S[q]? = some t → P q t ∨ ∃ x ∈ C, x.1.toNat = q) → ∀ (q : Nat) (t : ByteArray), (setP allK k C S)[q]? = some t → P q t
  | [], _, _, _, hS => fun q t hq => by
    rcases hS q t hq with h | ⟨x, hx, _⟩
    · exact h
    · cases hx
  | x :: r, k, S, hC, hS => by
    rw [setP, if_pos (show allK k = true from rfl)]
    refine setP_allok P r (k + 1) _ (fun y hy => hC y (List.mem_cons_of_mem _ hy)) (fun q t hq => ?_)
    rw [List.getElem?_set] at hq
    split at hq
    · next e =>
      split at hq
      · injection hq with hq
        subst hq e
        exact .inl (hC x (List.mem_cons_self ..))
      · cases hq
    · next e =>
      rcases hS q t hq with h | ⟨y, hy, hy2⟩
      · exact .inl h
      · rcases List.mem_cons.1 hy with rfl | hy
        · exact absurd hy2 e
        · exact .inr ⟨y, hy, hy2⟩
theorem ext_drop (s : ByteArray) (k : Nat) : (s.extract k s.size).data.toList = s.data.toList.drop k := by
  rw [ByteArray.data_extract, Array.toList_extract]
  simp only [List.extract]
  exact List.take_of_length_le (by simp)
/-- a sector of a text is the text's bytes -/
theorem full_at (s : ByteArray) (k j : Nat) (hj : j < 128) (hs : 128 * k + j < s.size) : (fullT (s.extract (128 * k) s.size)).data.toList[j]? = s.data.toList[128 * k + j]? := by
  have hx := ext_drop s (128 * k)
  have hz : (s.extract (128 * k) s.size).size = s.size - 128 * k := by rw [ByteArray.size_extract]; omega
  have hm : j < Nat.min (s.extract (128 * k) s.size).size 128 := by rw [hz]; exact Nat.lt_min.2 ⟨by omega, hj⟩
  rw [full_list, List.getElem?_append_left (by rw [List.length_take, ← Lib.size_eq]; exact Nat.lt_min.2 ⟨hm, by omega⟩), List.getElem?_take_of_lt hm, hx, List.getElem?_drop]
/-- the writes of c sectors -/
def wrL (f : Int) (s : ByteArray) : Nat → Nat → List Wr
  | _, 0 => []
  | k, c + 1 => (f + (k : Int), fullT (s.extract (128 * k) s.size)) :: wrL f s (k + 1) c
theorem wrL_mem {f : Int} {s : ByteArray} {x : Wr} : ∀ (c k : Nat), x ∈ wrL f s k c → ∃ i, k ≤ i ∧ i < k + c ∧ x = (f + (i : Int), fullT (s.extract (128 * i) s.size))
  | 0, _, h => by cases h
  | c + 1, k, h => by
    rcases List.mem_cons.1 h with rfl | h
    · exact ⟨k, Nat.le_refl _, by omega, rfl⟩
    · obtain ⟨i, h1, h2, h3⟩ := wrL_mem c (k + 1) h
      exact ⟨i, by omega, by omega, h3⟩
theorem wrL_has (f : Int) (s : ByteArray) : ∀ (c k i : Nat), k ≤ i → i < k + c → (f + (i : Int), fullT (s.extract (128 * i) s.size)) ∈ wrL f s k c
  | 0, k, i, h1, h2 => by omega
  | c + 1, k, i, h1, h2 => by
    rcases Nat.eq_or_lt_of_le h1 with rfl | h
    · exact List.mem_cons_self ..
    · exact List.mem_cons_of_mem _ (wrL_has f s c (k + 1) i h (by omega))
/-- a disk that is up, at which the power does not go, takes them all -/
theorem layN_up (f : Int) (s : ByteArray) (S : List ByteArray) (hf : 0 ≤ f) : ∀ (c k : Nat) (C : List Wr) (op : Int), f + (k : Int) + (c : Int) ≤ (S.length : Int) → layN f s k c ⟨S, C, 0, false, op⟩ = (⟨S, C ++ wrL f s k c, 0, false, op + (c : Int)⟩, 0)
  | 0, k, C, op, _ => by rw [layN, wrL, List.append_nil, show op + ((0 : Nat) : Int) = op by omega]
  | c + 1, k, C, op, h => by
    have hd : dckE S.length (f + (k : Int)) (fullT (s.extract (128 * k) s.size)) = 0 := by
      unfold dckE
      rw [if_pos ⟨by omega, by omega⟩, if_pos (fullT_size _)]
    have e1 : Ds.wrE ⟨S, C, 0, false, op⟩ (f + (k : Int)) (fullT (s.extract (128 * k) s.size)) = 0 := by
      unfold Ds.wrE
      dsimp only
      rw [if_neg Bool.false_ne_true, if_neg (fun q => q hd)]
      rfl
    have e2 : Ds.wrt ⟨S, C, 0, false, op⟩ (f + (k : Int)) (fullT (s.extract (128 * k) s.size)) = ⟨S, C ++ [(f + (k : Int), fullT (s.extract (128 * k) s.size))], 0, false, op + 1⟩ := by
      unfold Ds.wrt
      dsimp only
      rw [if_neg Bool.false_ne_true, if_neg (fun q => q hd)]
      rfl
    rw [layN, e1, if_neg (fun q => q rfl), e2, layN_up f s S hf c (k + 1) _ _ (by omega), wrL, List.append_assoc]
    rw [show op + 1 + (c : Int) = op + ((c + 1 : Nat) : Int) by omega]
    rfl
theorem wrt_S (d : Ds) (i : Int) (t : ByteArray) : (d.wrt i t).S = d.S := by
  unfold Ds.wrt
  split
  · rfl
  · split <;> rfl
theorem wrt_C (d : Ds) (i : Int) (t : ByteArray) (P : Wr → Prop) (h : ∀ x ∈ d.C, P x) (hx : P (i, t)) : ∀ x ∈ (d.wrt i t).C, P x := by
  unfold Ds.wrt
  split
  · exact h
  · split
    · exact h
    · show ∀ x ∈ wrtC d.ar d.C i t, P x
      unfold wrtC
      split
      · exact h
      · intro x hm
        rcases List.mem_append.1 hm with hm | hm
        · exact h x hm
        · obtain rfl : x = (i, t) := by simpa using hm
          exact hx
theorem layN_S (f : Int) (s : ByteArray) : ∀ (c k : Nat) (d : Ds), (layN f s k c d).1.S = d.S
  | 0, _, _ => rfl
  | c + 1, k, d => by
    rw [layN]
    split
    · exact wrt_S _ _ _
    · rw [layN_S f s c (k + 1)]; exact wrt_S _ _ _
theorem layN_C (f : Int) (s : ByteArray) (P : Wr → Prop) : ∀ (c k : Nat) (d : Ds), (∀ x ∈ d.C, P x) → (∀ i : Nat, k ≤ i → i < k + c → P (f + (i : Int), fullT (s.extract (128 * i) s.size))) → ∀ x ∈ (layN f s k c d).1.C, P x
  | 0, _, _, h, _ => h
  | c + 1, k, d, h, hw => by
    rw [layN]
    have h2 := wrt_C d (f + (k : Int)) (fullT (s.extract (128 * k) s.size)) P h (hw k (Nat.le_refl _) (by omega))
    split
    · exact h2
    · exact layN_C f s P c (k + 1) _ h2 (fun i h3 h4 => hw i (by omega) (by omega))
theorem layN_ok (f : Int) (s : ByteArray) : ∀ (c k : Nat) (d : Ds) (k0 : Nat), DsOk k0 d → DsOk (k0 + c) (layN f s k c d).1
  | 0, _, _, _, h => h
  | c + 1, k, d, k0, h => by
    rw [layN]
    have h2 := h.wrt (f + (k : Int)) (fullT (s.extract (128 * k) s.size))
    split
    · exact h2.leM (by omega)
    · have q := layN_ok f s c (k + 1) _ (k0 + 1) h2
      rw [show k0 + 1 + c = k0 + (c + 1) by omega] at q
      exact q
/-- what a sector must show so that a is there -/
def AgP (a : ByteArray) (p : Nat) (t : ByteArray) : Prop := t.size = 128 ∧ ∀ i, p = 2 + i → ∀ j, j < 128 → 128 * i + j < a.size → t.data.toList[j]? = a.data.toList[128 * i + j]?
theorem ag_own (a : ByteArray) (i : Nat) : AgP a ((2 : Int) + (i : Int)).toNat (fullT (a.extract (128 * i) a.size)) := by
  refine ⟨fullT_size _, fun k e j hj hs => ?_⟩
  obtain rfl : k = i := by omega
  exact full_at a k j hj hs
theorem ag_more (a b : ByteArray) (i : Nat) : AgP a ((2 : Int) + ((a.size / 128 : Nat) : Int) + (i : Int)).toNat (fullT ((lgR a b).extract (128 * i) (lgR a b).size)) := by
  refine ⟨fullT_size _, fun k e j hj hs => ?_⟩
  have hz := lgR_size a b
  obtain rfl : k = a.size / 128 + i := by omega
  rw [full_at _ i j hj (by rw [hz]; omega)]
  have e1 : (lgR a b).data.toList = (a ++ b).data.toList.drop (a.size / 128 * 128) := ext_drop _ _
  have e2 : (a ++ b).data.toList = a.data.toList ++ b.data.toList := by simp
  rw [e1, List.getElem?_drop, e2, List.getElem?_append_left (by rw [← Lib.size_eq]; omega)]
  congr 1
  omega
theorem gat_eq {a : ByteArray} {S : List ByteArray} (h : ∀ (q : Nat) (t : ByteArray), S[q]? = some t → AgP a q t) : ∀ k, 2 + k ≤ S.length → (gatL S [] 2 k).length = 128 * k ∧ ∀ x, x < 128 * k → x < a.size → (gatL S [] 2 k)[x]? = a.data.toList[x]?
  | 0, _ => ⟨rfl, fun x hx => by omega⟩
  | k + 1, hk => by
    obtain ⟨h1, h2⟩ := gat_eq h k (by omega)
    have hS : S[2 + k]? = some (S[2 + k]'(by omega)) := List.getElem?_eq_getElem (by omega)
    have hsh : shw S [] (2 + (k : Int)) = S[2 + k]'(by omega) := by
      show (S[((2 : Int) + (k : Int)).toNat]?).getD ⟨#[]⟩ = _
      rw [show ((2 : Int) + (k : Int)).toNat = 2 + k by omega, hS]
      rfl
    obtain ⟨g1, g2⟩ := h _ _ hS
    rw [gatL, hsh]
    refine ⟨by rw [List.length_append, h1, ← Lib.size_eq, g1]; omega, fun x hx hxa => ?_⟩
    rcases Nat.lt_or_ge x (128 * k) with q | q
    · rw [List.getElem?_append_left (by omega)]
      exact h2 x q hxa
    · rw [List.getElem?_append_right (by omega), h1, g2 k rfl (x - 128 * k) (by omega) (by omega)]
      congr 1
      omega
theorem shw_128 {a : ByteArray} {S : List ByteArray} (h : ∀ (q : Nat) (t : ByteArray), S[q]? = some t → AgP a q t) (j : Nat) (hj : 2 + j < S.length) : (shw S [] (2 + (j : Int))).size = 128 := by
  have hS : S[2 + j]? = some (S[2 + j]'hj) := List.getElem?_eq_getElem hj
  show ((S[((2 : Int) + (j : Int)).toNat]?).getD ⟨#[]⟩).size = _
  rw [show ((2 : Int) + (j : Int)).toNat = 2 + j by omega, hS]
  exact (h _ _ hS).1
/-- where the sectors are so, a is read -/
theorem lgT_eq {a : ByteArray} {S : List ByteArray} (h : ∀ (q : Nat) (t : ByteArray), S[q]? = some t → AgP a q t) (hl : 2 + scN a.size ≤ S.length) : lgT S [] 2 a.size = a := by
  obtain ⟨h1, h2⟩ := gat_eq h (scN a.size) hl
  have hb : a.size ≤ 128 * scN a.size := by unfold scN; omega
  have hll : (lgT S [] 2 a.size).data.toList = (gatL S [] 2 (scN a.size)).take a.size := by
    unfold lgT
    rw [ByteArray.data_extract, Array.toList_extract]
    simp [List.extract]
  have e : (lgT S [] 2 a.size).data.toList = a.data.toList := by
    rw [hll]
    apply List.ext_getElem?
    intro x
    rcases Nat.lt_or_ge x a.size with q | q
    · rw [List.getElem?_take_of_lt q]
      exact h2 x (by omega) q
    · rw [List.getElem?_eq_none (by rw [List.length_take]; omega), List.getElem?_eq_none (by rw [← Lib.size_eq]; exact q)]
  cases hx : lgT S [] 2 a.size with
  | mk d =>
    cases a with
    | mk d2 =>
      rw [hx] at e
      have : d.toList = d2.toList := e
      rw [Array.toList_inj.1 this]
theorem lgT_zero (S : List ByteArray) (C : List Wr) (f : Int) : lgT S C f 0 = ⟨#[]⟩ := by
  unfold lgT
  apply ByteArray.ext
  rw [ByteArray.data_extract]
  simp
end Go.Proofs.YtagenkofoacajaaDoor

namespace Go.Proofs.YtagenkofoacajaaDoor
open Go.RowKit Vi Ar

theorem app_nilL (t : ByteArray) : t ++ (⟨#[]⟩ : ByteArray) = t := by
  apply ByteArray.ext
  simp
theorem nil_of_size {s : ByteArray} (h : s.size = 0) : s = ⟨#[]⟩ := by
  apply ByteArray.ext
  exact Array.eq_empty_of_size_eq_zero h
section
variable {n : Nat} {w0 : World} {D L : Nat} {S : List ByteArray} {C : List Wr} {op f m : Int} {t : ByteArray} {w : World} {k0 : Nat}
/-- what the cache has when a log has grown -/
def lgC (C : List Wr) (f : Int) (t s : ByteArray) : List Wr := if s.size = 0 then C else C ++ wrL (f + ((t.size / 128 : Nat) : Int)) (lgR t s) 0 (scN (lgR t s).size)
def UpP (n : Nat) (w0 : World) (D L : Nat) (S : List ByteArray) (C : List Wr) (op f m : Int) (t s : ByteArray) (k : Nat) (e : Ending) (w' : World) : Prop := e = .returned (.int .i64 0) ∧ DsOk k ⟨S, lgC C f t s, 0, false, op + lgN m t (s.size : Int)⟩ ∧ LW n w0 D L ⟨S, lgC C f t s, 0, false, op + lgN m t (s.size : Int)⟩ f m (t ++ s) w'
theorem lgrow_up (h : LW n w0 D L ⟨S, C, 0, false, op⟩ f m t w) (o : DsOk k0 ⟨S, C, 0, false, op⟩) (hf : 0 ≤ f) (hf2 : f ≤ 10000) (h0 : 0 ≤ m) (h1 : m ≤ 4096) (hfm : f + m ≤ (S.length : Int)) (h2 : t.size ≤ 20000) (s : ByteArray) (hs : s.size ≤ 20000) (hq : (t.size : Int) + (s.size : Int) ≤ m * 128) (hk : k0 ≤ 500) :
    Calls Tryd.prog 11 #[.pointer (some ⟨L, 0, none⟩), .string s] w (UpP n w0 D L S C op f m t s (k0 + 320)) := by
  by_cases hz : s.size = 0
  · obtain rfl := nil_of_size hz
    refine (lgrow_none h h0 (by omega) (by omega) (by omega)).mono ?_
    rintro e w' ⟨rfl, hl⟩
    have e1 : lgN m t (((⟨#[]⟩ : ByteArray).size : Nat) : Int) = 0 := by unfold lgN; rw [if_pos (Or.inl (by show ((0 : Nat) : Int) ≤ 0; omega))]
    have e2 : lgC C f t ⟨#[]⟩ = C := by unfold lgC; rw [if_pos hz]
    unfold UpP
    rw [e1, e2, Int.add_zero, app_nilL]
    exact ⟨rfl, o.leM (by omega), hl⟩
  · have hr := lgR_size t s
    have hc : scN (lgR t s).size ≤ 320 := by rw [hr]; unfold scN; omega
    refine (lgrow_lay h o hf hf2 h0 (by omega) (by omega) s hz (by omega) (by omega) (by omega)).mono ?_
    rintro e w' ⟨rfl, t2, h3, h4⟩
    have hcn : (scN (lgR t s).size : Int) = lgN m t (s.size : Int) := by
      unfold lgN
      rw [if_neg (by omega), hr, Int.toNat_natCast]
      unfold scN
      omega
    have hm : ((scN (lgR t s).size : Nat) : Int) + ((t.size / 128 : Nat) : Int) ≤ m := by
      rw [hr]
      unfold scN
      omega
    have hW : lgW ⟨S, C, 0, false, op⟩ f t s = (⟨S, lgC C f t s, 0, false, op + lgN m t (s.size : Int)⟩, 0) := by
      unfold lgW
      rw [layN_up _ _ S (by omega) _ 0 C op (by omega), hcn]
      unfold lgC
      rw [if_neg hz]
    have hOk := layN_ok (f + ((t.size / 128 : Nat) : Int)) (lgR t s) (scN (lgR t s).size) 0 _ k0 o
    have hW2 : layN (f + ((t.size / 128 : Nat) : Int)) (lgR t s) 0 (scN (lgR t s).size) ⟨S, C, 0, false, op⟩ = lgW ⟨S, C, 0, false, op⟩ f t s := rfl
    rw [hW2, hW] at hOk
    rw [hW] at h3 h4
    rw [h3 rfl] at h4
    unfold UpP
    rw [hW]
    exact ⟨rfl, hOk.leM (by omega), h4⟩
end
set_option maxRecDepth 100000 in
set_option maxHeartbeats 400000 in
theorem lnoughts_any (n : Nat) (z : Int) (hz : z = (n : Int)) (hn : n ≤ 1000) (w : World) : Calls Tryd.prog 31 #[.int .i64 z] w fun e w' => e = .returned (.string ⟨(zsD n).toArray⟩) ∧ Below w.heap.size w w' := by
  obtain ⟨cs, hcs⟩ : ∃ cs, cs = ((zsD n).map fun c => Value.int .u8 (c.toNat : Int)).toArray := ⟨_, rfl⟩
  have hmk := make_zsD n (by omega)
  rw [← hcs, ← hz] at hmk
  have hcv := conv_zsD n w cs hcs
  have HB := Lib.hid ((Below.refl w.heap.size w).alloc (Nat.le_refl _) (.cells cs 5))
  have hmx : max z 0 = z := by omega
  generalize (⟨(zsD n).toArray⟩ : ByteArray) = Z at hcv ⊢
  clear hcs hz
  go_enter Tryd.func31, Tryd.ntmps31
  go_wp2
  go_ret
  exact ⟨rfl, HB.out⟩
theorem zs_size (n : Nat) : (⟨(zsD n).toArray⟩ : ByteArray).size = n := by show (zsD n).toArray.size = n; simp [zsD]
theorem dsok_new (k : Nat) (hk : 16 ≤ k) (hk2 : k ≤ 4096) : DsOk 0 ⟨List.replicate k noZ, [], 0, false, 0⟩ := ⟨by show 16 ≤ (List.replicate k noZ).length; rw [List.length_replicate]; exact hk, by show (List.replicate k noZ).length ≤ 4096; rw [List.length_replicate]; exact hk2, Nat.zero_le _, Int.le_refl _, by show (0 : Int) ≤ _; omega, Int.le_refl _, Int.le_refl _⟩
set_option maxRecDepth 100000 in
set_option maxHeartbeats 4000000 in
theorem awake15_any (w : World) : Calls Tryd.prog 6 #[] w fun e w' => e = .returned (.bool true) ∧ Below w.heap.size w w' := by
  have HN := Lib.hid (fun W : World => show Calls Tryd.prog 30 #[.int .i64 16] W (NewD (List.replicate 16 noZ) [] W) from dnew_yes 16 W (by decide) (by decide))
  have HD0 := Lib.hid (dsok_new 16 (by decide) (by decide))
  have hS : (List.replicate 16 noZ).length = 16 := List.length_replicate
  generalize List.replicate 16 noZ = S at HN HD0 hS
  have HS := Lib.hid hS
  obtain ⟨A, hA⟩ : ∃ A : ByteArray, A = ⟨(zsD 100).toArray⟩ := ⟨_, rfl⟩
  obtain ⟨B, hB⟩ : ∃ B : ByteArray, B = ⟨(zsD 50).toArray⟩ := ⟨_, rfl⟩
  have H100 := Lib.hid (fun W : World => lnoughts_any 100 100 rfl (by decide) W)
  have H50 := Lib.hid (fun W : World => lnoughts_any 50 50 rfl (by decide) W)
  have hAs : A.size = 100 := by rw [hA]; exact zs_size 100
  have hBs : B.size = 50 := by rw [hB]; exact zs_size 50
  rw [← hA] at H100
  rw [← hB] at H50
  have HAs := Lib.hid (And.intro hAs hBs)
  clear hS hA hB hAs hBs
  go_enter Tryd.func6, Tryd.ntmps6
  go_wp2_with fail
  refine (HN.out _).mono ?_
  rintro e w1 ⟨D, rfl, hd, hi, hb⟩
  have HW1 : Hid (DW w.heap.size w D ⟨S, [], 0, false, 0⟩ w1) := Lib.hid ⟨hd, hi, hb, hb.size⟩
  clear hd hi hb HN
  go_wp2_with fail
  refine (lopen_any w.heap.size w D S [] 0 0 0 2 4 0 w1 HW1.out HD0.out (by decide) (by decide) (by decide) (by rw [HS.out]; decide) (by decide) (fun j hj => absurd hj (by show ¬ j < scN 0; simp [scN]))).mono ?_
  rintro e w2 ⟨L, rfl, hl, _, _⟩
  have e0 : (0 : Int) + ((scN 0 : Nat) : Int) = 0 := by rfl
  rw [e0, lgT_zero] at hl
  have HL2 := Lib.hid hl
  clear hl e0 HW1
  go_wp2_with fail
  refine (H100.out _).mono ?_
  rintro e w3 ⟨rfl, hb⟩
  have HL3 := Lib.hid (HL2.out.below hb)
  clear hb HL2
  go_wp2_with fail
  refine (lgrow_up HL3.out HD0.out (by decide) (by decide) (by decide) (by decide) (by rw [HS.out]; decide) (by decide) A (by rw [HAs.out.1]; decide) (by rw [HAs.out.1]; decide) (by decide)).mono ?_
  rintro e w4 ⟨rfl, ho4, hl4⟩
  have e1 : (0 : Int) + lgN 4 ⟨#[]⟩ (A.size : Int) = 1 := by rw [HAs.out.1]; rfl
  have e2 : (⟨#[]⟩ : ByteArray) ++ A = A := by apply ByteArray.ext; simp
  rw [e1] at ho4 hl4
  rw [e2] at hl4
  have HO4 := Lib.hid ho4
  have HL4 := Lib.hid hl4
  clear ho4 hl4 e1 e2 HL3 HD0
  generalize lgC [] 2 ⟨#[]⟩ A = C1 at *
  go_wp2_with fail
  refine (lwrites_any HL4.out (by decide) (by decide) (by rw [HAs.out.1]; decide) 50 (by decide) (by decide)).mono ?_
  rintro e w5 ⟨rfl, hl5⟩
  have e1 : lgN 4 A 50 = 2 := by unfold lgN; rw [HAs.out.1]; rfl
  rw [e1]
  have HL5 := Lib.hid hl5
  clear hl5 e1 HL4
  go_wp2_with fail
  refine (H50.out _).mono ?_
  rintro e w6 ⟨rfl, hb⟩
  have HL6 := Lib.hid (HL5.out.below hb)
  clear hb HL5
  go_wp2_with fail
  refine (lgrow_up HL6.out HO4.out (by decide) (by decide) (by decide) (by decide) (by rw [HS.out]; decide) (by rw [HAs.out.1]; decide) B (by rw [HAs.out.2]; decide) (by rw [HAs.out.1, HAs.out.2]; decide) (by decide)).mono ?_
  rintro e w7 ⟨rfl, _, hl7⟩
  have e1 : (1 : Int) + lgN 4 A (B.size : Int) = 3 := by unfold lgN; rw [HAs.out.1, HAs.out.2]; rfl
  rw [e1] at hl7
  have HL7 := Lib.hid hl7
  have hsz : (A ++ B).size = 150 := by rw [ByteArray.size_append, HAs.out.1, HAs.out.2]
  clear hl7 e1 HL6 HO4
  go_wp2_with fail
  refine (ltail_any HL7.out).mono ?_
  rintro e w' ⟨rfl, rfl⟩
  rw [hsz]
  clear hsz
  go_wp2_with fail
  refine (HL7.out.dw.opsIs).mono ?_
  rintro e w' ⟨rfl, rfl⟩
  go_wp2_with fail
  go_ret
  exact ⟨rfl, HL7.out.dw.bel⟩
end Go.Proofs.YtagenkofoacajaaDoor

namespace Go.Proofs.YtagenkofoacajaaDoor
open Go.RowKit Vi

def lgZ : Obj := .cells #[.pointer none, .int .i64 0, .int .i64 0, .string ⟨#[]⟩] 26 (0, 0)
/-- a log that no call made -/
def NoLg (p : Option Addr) (w : World) : Prop := p = none ∨ ∃ L, p = some ⟨L, 0, none⟩ ∧ w.heap[L]? = some lgZ
theorem NoLg.below {p : Option Addr} {w w' : World} (h : NoLg p w) (hb : Below w.heap.size w w') : NoLg p w' := by
  rcases h with h | ⟨L, h1, h2⟩
  · exact .inl h
  · exact .inr ⟨L, h1, blk_below h2 hb⟩
section
variable {p : Option Addr} {w : World}
theorem nlmade (h : NoLg p w) : Calls Tryd.prog 33 #[.pointer p] w fun e w' => e = .returned (.bool false) ∧ w = w' := by
  rcases h with rfl | ⟨L, rfl, h2⟩
  · go_enter Tryd.func33, Tryd.ntmps33
    go_wp2_with fail
    go_ret
    exact ⟨rfl, rfl⟩
  · have c0 : w.cell? ⟨L, 0, none⟩ = some (.pointer none) := (cell_of_row _ _ 0 _ _ _ h2).trans rfl
    clear h2
    go_enter Tryd.func33, Tryd.ntmps33
    go_wp2_with fail
    go_ret
    exact ⟨rfl, rfl⟩
theorem nltext (h : NoLg p w) : Calls Tryd.prog 10 #[.pointer p] w fun e w' => e = .returned (.string ⟨#[]⟩) ∧ w = w' := by
  have HM := Lib.hid (nlmade h)
  clear h
  go_enter Tryd.func10, Tryd.ntmps10
  go_wp2_with fail
  refine HM.out.mono ?_
  rintro e w' ⟨rfl, rfl⟩
  go_wp2_with fail
  go_ret
  exact ⟨rfl, rfl⟩
theorem nltail (h : NoLg p w) : Calls Tryd.prog 9 #[.pointer p] w fun e w' => e = .returned (.int .i64 0) ∧ w = w' := by
  have HM := Lib.hid (nltext h)
  clear h
  go_enter Tryd.func9, Tryd.ntmps9
  go_wp2_with fail
  refine HM.out.mono ?_
  rintro e w' ⟨rfl, rfl⟩
  go_wp2_with fail
  go_ret
  exact ⟨rfl, rfl⟩
theorem nlall (h : NoLg p w) : Calls Tryd.prog 7 #[.pointer p] w fun e w' => e = .returned (.tuple #[.slice none 0 0, .int .i64 1]) ∧ w = w' := by
  have HM := Lib.hid (nlmade h)
  clear h
  go_enter Tryd.func7, Tryd.ntmps7
  go_wp2_with fail
  refine HM.out.mono ?_
  rintro e w' ⟨rfl, rfl⟩
  go_wp2_with fail
  go_ret2
  exact ⟨rfl, rfl⟩
theorem nlgrow (s : ByteArray) (h : NoLg p w) : Calls Tryd.prog 11 #[.pointer p, .string s] w fun e w' => e = .returned (.int .i64 1) ∧ w = w' := by
  have HM := Lib.hid (nlmade h)
  clear h
  go_enter Tryd.func11, Tryd.ntmps11
  go_wp2_with fail
  refine HM.out.mono ?_
  rintro e w' ⟨rfl, rfl⟩
  go_wp2_with fail
  go_ret
  exact ⟨rfl, rfl⟩
theorem nlput (A : Option Addr) (n c : Nat) (h : NoLg p w) : Calls Tryd.prog 12 #[.pointer p, .slice A n c] w fun e w' => e = .returned (.int .i64 1) ∧ w = w' := by
  have HM := Lib.hid (nlmade h)
  clear h
  go_enter Tryd.func12, Tryd.ntmps12
  go_wp2_with fail
  refine HM.out.mono ?_
  rintro e w' ⟨rfl, rfl⟩
  go_wp2_with fail
  go_ret
  exact ⟨rfl, rfl⟩
theorem nlwrites (z : Int) (h : NoLg p w) : Calls Tryd.prog 13 #[.pointer p, .int .i64 z] w fun e w' => e = .returned (.int .i64 0) ∧ w = w' := by
  have HM := Lib.hid (nlmade h)
  clear h
  go_enter Tryd.func13, Tryd.ntmps13
  go_wp2_with fail
  refine HM.out.mono ?_
  rintro e w' ⟨rfl, rfl⟩
  go_wp2_with fail
  go_ret
  exact ⟨rfl, rfl⟩
theorem nlcut (z : Int) (h : NoLg p w) : Calls Tryd.prog 14 #[.pointer p, .int .i64 z] w fun e w' => e = .returned (.int .i64 1) ∧ w = w' := by
  have HM := Lib.hid (nlmade h)
  clear h
  go_enter Tryd.func14, Tryd.ntmps14
  go_wp2_with fail
  refine HM.out.mono ?_
  rintro e w' ⟨rfl, rfl⟩
  go_wp2_with fail
  go_ret
  exact ⟨rfl, rfl⟩
theorem nllimit (z : Int) (h : NoLg p w) : Calls Tryd.prog 15 #[.pointer p, .int .i64 z] w fun e w' => e = .returned (.int .i64 1) ∧ w = w' := by
  have HM := Lib.hid (nlmade h)
  clear h
  go_enter Tryd.func15, Tryd.ntmps15
  go_wp2_with fail
  refine HM.out.mono ?_
  rintro e w' ⟨rfl, rfl⟩
  go_wp2_with fail
  go_ret
  exact ⟨rfl, rfl⟩
end
theorem nlopen (z : Int) (w : World) : Calls Tryd.prog 8 #[.pointer none, .int .i64 z, .int .i64 z, .int .i64 z] w fun e w' => e = .returned (.tuple #[.pointer none, .int .i64 1]) ∧ Below w.heap.size w w' := by
  have HB0 := Lib.hid ((Below.refl w.heap.size w).alloc (Nat.le_refl _) (.cells #[.pointer none, .int .i64 z, .int .i64 z, .string ⟨#[]⟩] 26 (0, 0)))
  go_enter Tryd.func8, Tryd.ntmps8
  go_wp2_with fail
  refine (dszz_nil _).mono ?_
  rintro e w' ⟨rfl, rfl⟩
  go_wp2_with fail
  go_ret2
  exact ⟨rfl, HB0.out⟩
end Go.Proofs.YtagenkofoacajaaDoor
