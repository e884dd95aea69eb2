/- Several texts of one family, merged for a claim. Conditions as in its parts. -/
import Derived.Test.YtiflieaemgamkaaDoorProg
import Derived.WalkKit
import Derived.Lib.Hide
import Derived.WalkSpells
import Derived.WalkLawsBesides
import Derived.LoopTactic
import Derived.RegionTactic
import Derived.Deep.QuietTactic
import Derived.BigQuiet
import Derived.Laws.CopyOwn
import Derived.Below
import Derived.Outline
import Derived.Deep.RegionWith
namespace Go.Proofs.YtiflieaemgamkaaDoor
open Go.RowKit

/-- may a name have this byte? -/
def okc (c : UInt8) : Bool := (decide (97 ≤ c.toNat) && decide (c.toNat ≤ 122)) || (decide (48 ≤ c.toNat) && decide (c.toNat ≤ 57)) || decide (c.toNat = 45)
/-- is a text a name? -/
def nm (s : ByteArray) : Bool := decide (1 ≤ s.size) && decide (s.size ≤ 12) && s.data.toList.all okc
theorem ret_b2 {a b : Bool} (h : a = b) : Ending.returned (.bool a) = .returned (.bool b) := by rw [h]

theorem all_take (s : ByteArray) (k : Nat) (h : k < s.size) : (s.data.toList.take (k + 1)).all okc = ((s.data.toList.take k).all okc && okc s[k]) := by
  have e : s.data.toList.take (k + 1) = s.data.toList.take k ++ [s[k]] := by
    rw [List.take_succ_eq_append_getElem (by simpa using h)]; rfl
  rw [e]; simp
theorem nm_long (s : ByteArray) (h : s.size < 1 ∨ 12 < s.size) : nm s = false := by unfold nm; simp; omega
theorem nm_bad (s : ByteArray) (k : Nat) (h : k < s.size) (hb : okc s[k] = false) : nm s = false := by
  have : s.data.toList.all okc = false := by
    rw [List.all_eq_false]
    exact ⟨s.data[k], Array.mem_toList_iff.2 (Array.getElem_mem h), by rw [show s.data[k] = s[k] from rfl, hb]; simp⟩
  unfold nm; rw [this]; simp
theorem nm_good (s : ByteArray) (h1 : 1 ≤ s.size) (h2 : s.size ≤ 12) (h : (s.data.toList.take s.size).all okc = true) : nm s = true := by
  rw [List.take_of_length_le (by simp)] at h
  unfold nm; rw [h]; simp; omega

/-- what Check answers -/
def nck (s : ByteArray) : Int := if nm s then 0 else 2
theorem nck_no (s : ByteArray) (h : nm s = false) : nck s = 2 := by unfold nck; rw [h]; rfl
theorem nck_yes (s : ByteArray) (h : nm s = true) : nck s = 0 := by unfold nck; rw [h]; rfl
theorem ret_n {a b : Int} (h : a = b) : Ending.returned (.int .i64 a) = .returned (.int .i64 b) := by rw [h]

end Go.Proofs.YtiflieaemgamkaaDoor

namespace Go.Proofs.YtiflieaemgamkaaDoor
open Go.RowKit

end Go.Proofs.YtiflieaemgamkaaDoor

namespace Go.Proofs.YtiflieaemgamkaaDoor
open Go.RowKit

/-- where a slice of texts lies -/
def SlN (w : World) (a : Option Addr) (len : Nat) (ss : List ByteArray) : Prop := ss.length = len ∧ (0 < len → ∃ b off, a = some ⟨b, off, none⟩ ∧ ∀ i, (h : i < ss.length) → w.cell? ⟨b, off + i, none⟩ = some (.string ss[i]))
/-- is a text not behind another one? -/
def leS (s p : ByteArray) : Bool := Op.bytesLess s.toList p.toList || (s.toList == p.toList)
theorem leS_cases (s p : ByteArray) : (Op.bytesLess s.toList p.toList = true ∧ leS s p = true) ∨ (Op.bytesLess s.toList p.toList = false ∧ (s.toList == p.toList) = true ∧ leS s p = true) ∨
    (Op.bytesLess s.toList p.toList = false ∧ (s.toList == p.toList) = false ∧ leS s p = false) := by
  unfold leS
  cases Op.bytesLess s.toList p.toList <;> cases (s.toList == p.toList) <;> simp
/-- what is wrong with a row, behind a text -/
def rowE (p : ByteArray) : List ByteArray → Int
  | [] => 0
  | s :: t => if nm s = false then 2 else if leS s p = true then 4 else rowE s t
theorem rowE_bad (p s : ByteArray) (t : List ByteArray) (h : nm s = false) : rowE p (s :: t) = 2 := by simp only [rowE]; rw [if_pos h]
theorem rowE_ord (p s : ByteArray) (t : List ByteArray) (h : nm s = true) (g : leS s p = true) : rowE p (s :: t) = 4 := by
  simp only [rowE]; rw [if_neg (by rw [h]; simp), if_pos g]
theorem rowE_go (p s : ByteArray) (t : List ByteArray) (h : nm s = true) (g : leS s p = false) : rowE p (s :: t) = rowE s t := by
  simp only [rowE]; rw [if_neg (by rw [h]; simp), if_neg (by rw [g]; simp)]
theorem le_nil (s : ByteArray) (h : nm s = true) : leS s ⟨#[]⟩ = false := by
  have hs : 1 ≤ s.size := by
    unfold nm at h
    rw [Bool.and_eq_true, Bool.and_eq_true] at h
    exact of_decide_eq_true h.1.1
  have hl : s.toList.length = s.size := by rw [ByteArray.toList_eq]; simp
  have e0 : (ByteArray.mk #[]).toList = [] := by rw [ByteArray.toList_eq]
  unfold leS
  rw [e0]
  cases hq : s.toList with
  | nil => rw [hq] at hl; simp at hl; omega
  | cons c t => simp [Op.bytesLess]


end Go.Proofs.YtiflieaemgamkaaDoor

namespace Go.Proofs.YtiflieaemgamkaaDoor
open Go.RowKit

/-- the texts ahead of place K are less, the others are not -/
def Cut (ss : List ByteArray) (x : ByteArray) (K : Nat) : Prop := K ≤ ss.length ∧ (∀ t, (h : t < ss.length) → t < K → Op.bytesLess ss[t].toList x.toList = true) ∧ (∀ t, (h : t < ss.length) → K ≤ t → Op.bytesLess ss[t].toList x.toList = false)
/-- does it stand there? -/
def metB (ss : List ByteArray) (x : ByteArray) (K : Nat) : Bool := decide (K < ss.length) && ((ss.getD K ⟨#[]⟩).toList == x.toList)

end Go.Proofs.YtiflieaemgamkaaDoor

namespace Go.Proofs.YtiflieaemgamkaaDoor
open Go.RowKit

def stv (s : ByteArray) : Value := .string s

theorem info_str : (Tryd.prog.info? 9).map (fun i => (i.zero, i.size, i.bytes)) = some (some (.string ⟨#[]⟩), 1, 16) := by kernel_rfl
theorem size_str : (Tryd.prog.info? 9).map (·.size) = some 1 := by kernel_rfl
/-- a new row of empty texts -/
def emp (n : Nat) : List Value := List.replicate n (.string ⟨#[]⟩)
theorem made_emp (n : Nat) : madeCells (Value.string ⟨#[]⟩).cells (n * 1) = (emp n).toArray := by
  unfold emp madeCells Value.cells
  apply Array.ext
  · simp
  · intro j h1 h2; simp [Nat.mod_one]
theorem make_at (w : World) (n : Nat) (hn : n ≤ 3000000) : (Instr.makeSlice 22 (.int .i64 (n : Int)) (.int .i64 (n : Int))).run Tryd.prog w = .ok (.slice (some ⟨w.heap.size, 0, none⟩) n n) (w.alloc (.cells (emp n).toArray 9)) := by
  obtain ⟨i0, hi, hz0, hz1, hz2⟩ := info_parts info_str
  have h := run_make (P := Tryd.prog) w 22 9 i0 (.string ⟨#[]⟩) Tryd.underlying22 hi hz0 .i64 .i64 (n : Int) (n : Int) (by omega) (Int.le_refl _) (by rw [hz2]; omega) (by omega)
  rw [h, hz1]
  simp only [Int.toNat_natCast]
  rw [made_emp]

theorem heap_set {w : World} {b i : Nat} {u : Value} {t : TypeId} {cs : List Value} (h : w.heap[b]? = some (.cells cs.toArray t (0, 0))) : (w.setCell ⟨b, i, none⟩ u).heap[b]? = some (.cells (cs.set i u).toArray t (0, 0)) := by
  have hlt : b < w.heap.size := (Array.getElem?_eq_some_iff.1 h).1
  have h' : w.heap[b] = .cells cs.toArray t (0, 0) := by simpa [Array.getElem?_eq_getElem hlt] using h
  show (w.heap.modify b _)[b]? = _
  rw [Array.getElem?_eq_getElem (by simpa using hlt), Array.getElem_modify_self, h']
  simp
theorem set_splice {α : Type} (L : List α) (i : Nat) (v : α) (h : i < L.length) : L.set i v = splice L i [v] := by
  unfold splice
  rw [List.set_eq_take_append_cons_drop, if_pos h]
  simp
theorem join_list (xs ys : List ByteArray) (s : ByteArray) (N : Nat) (hN : N = xs.length + 1 + ys.length) :
    splice ((splice (emp N) 0 (xs.map stv)).set xs.length (stv s)) (xs.length + 1) (ys.map stv) = (xs ++ s :: ys).map stv := by
  have hl : (splice (emp N) 0 (xs.map stv)).length = N := by rw [length_splice _ _ _ (by simp [emp]; omega)]; simp [emp]
  rw [set_splice _ _ _ (by omega), splice_splice_splice (emp N) (xs.map stv) [stv s] (ys.map stv) xs.length 1 (by simp) (by simp) (by simp [emp]; omega)]
  simp
theorem cell_of {w : World} {b : Nat} {t : TypeId} {cs : List Value} (h : w.heap[b]? = some (.cells cs.toArray t (0, 0))) (i : Nat) (hi : i < cs.length) : w.cell? ⟨b, i, none⟩ = some cs[i] := by
  simp [World.cell?, h, hi]
theorem free_of {w : World} {b : Nat} {t : TypeId} {cs : List Value} (h : w.heap[b]? = some (.cells cs.toArray t (0, 0))) (i : Nat) : w.frozen? ⟨b, i, none⟩ = false := by
  simp [World.frozen?, h]
/-- the cells of a slice of texts, later -/
theorem SlN.src {w w' : World} {a : Option Addr} {len : Nat} {ss : List ByteArray} (h : SlN w a len ss) (hb : Below w.heap.size w w') : 0 < (ss.map stv).length → ∃ ad, a = some ad ∧ ∀ j v, (ss.map stv)[j]? = some v → w'.cell? (ad.add j) = some v := by
  intro hp
  have hl := h.1
  obtain ⟨b, off, rfl, hc⟩ := h.2 (by simp at hp; omega)
  refine ⟨_, rfl, fun j v hj => ?_⟩
  have hjl : j < ss.length := by
    have := (List.getElem?_eq_some_iff.1 hj).1
    simpa using this
  have hv : v = stv ss[j] := by
    rw [List.getElem?_map, List.getElem?_eq_getElem hjl] at hj
    simpa using hj.symm
  have hcj := hc j hjl
  rw [Addr.add_lit, hb.cell (p := ⟨b, off + j, none⟩) (World.block_lt_of_cell? w _ hcj), hcj, hv]
  rfl

end Go.Proofs.YtiflieaemgamkaaDoor

namespace Go.Proofs.YtiflieaemgamkaaDoor
open Go.RowKit

theorem SlN.take {w : World} {b off len : Nat} {ss : List ByteArray} (h : SlN w (some ⟨b, off, none⟩) len ss) (K : Nat) (hk : K ≤ len) : SlN w (some ⟨b, off, none⟩) K (ss.take K) := by
  have hl := h.1
  refine ⟨by simp; omega, fun hp => ?_⟩
  obtain ⟨b', off', e, hc⟩ := h.2 (by omega)
  cases e
  refine ⟨_, _, rfl, fun i hi => ?_⟩
  have hi2 : i < ss.length := by simp at hi; omega
  rw [hc i hi2]; simp
theorem SlN.drop {w : World} {b off len : Nat} {ss : List ByteArray} (h : SlN w (some ⟨b, off, none⟩) len ss) (K o : Nat) (ho : K < len → o = off + K) (hk : K ≤ len) : SlN w (some ⟨b, o, none⟩) (len - K) (ss.drop K) := by
  have hl := h.1
  refine ⟨by simp; omega, fun hp => ?_⟩
  obtain ⟨b', off', e, hc⟩ := h.2 (by omega)
  cases e
  refine ⟨_, _, rfl, fun i hi => ?_⟩
  have hi2 : K + i < ss.length := by simp at hi; omega
  rw [ho (by omega), Nat.add_assoc, hc (K + i) hi2]; simp
theorem SlN.later {w w' : World} {a : Option Addr} {len : Nat} {ss : List ByteArray} (h : SlN w a len ss) (hb : Below w.heap.size w w') : SlN w' a len ss :=
  ⟨h.1, fun hp => by
    obtain ⟨b, off, e, hc⟩ := h.2 hp
    exact ⟨b, off, e, fun i hi => by rw [hb.cell (p := ⟨b, off + i, none⟩) (World.block_lt_of_cell? w _ (hc i hi))]; exact hc i hi⟩⟩

set_option maxRecDepth 100000 in
set_option maxHeartbeats 800000 in
theorem texts_same (a : Option Addr) (ca : Nat) (b : Option Addr) (cb len : Nat) (ss : List ByteArray) (w : World) (ha : SlN w a len ss) (hb : SlN w b len ss) (hlm : len ≤ 1000000) :
    Calls Tryd.prog 11 #[.slice a len ca, .slice b len cb] w fun e w' => e = .returned (.bool true) ∧ ∃ q, w' = w.drewN q := by
  have HA := Lib.hid ha.2
  have HB := Lib.hid hb.2
  have HL := Lib.hid ha.1
  clear ha hb
  go_enter Tryd.func11, Tryd.ntmps11
  go_wp2
  go_loopw [5, 13] (fun _ i wr => ∃ k : Nat, k ≤ len ∧ i = .int .i64 (k : Int) ∧ ∃ q, wr = w.drewN q) (fun _ i _ => len - (intOf i).toNat)
  case atStart => exact ⟨0, Nat.zero_le _, rfl, 0, rfl⟩
  case round =>
    obtain ⟨k, hk, rfl, q, rfl⟩ := hrel
    by_cases hlt : k < len
    · obtain ⟨b1, o1, rfl, h1⟩ := HA.out (by omega)
      obtain ⟨b2, o2, rfl, h2⟩ := HB.out (by omega)
      have hkn : k < ss.length := by rw [HL.out]; exact hlt
      have c1 := h1 k hkn
      have c2 := h2 k hkn
      clear h1 h2
      generalize ss[k] = s at c1 c2
      have hi0 : (0 : Int) ≤ (k : Int) := by omega
      have hi1 : (k : Int) < (len : Int) := by omega
      have hne : (s.toList != s.toList) = false := by simp
      go_wp2_with fail
      go_quiet (fail)
      go_wp2
      go_roundw
      case rel => exact ⟨k + 1, by omega, by go_num, _, rfl⟩
      case measure => simp [intOf]; omega
    · go_wp2
      go_ret
      exact ⟨rfl, q, rfl⟩
end Go.Proofs.YtiflieaemgamkaaDoor

namespace Go.Proofs.YtiflieaemgamkaaDoor
open Go.RowKit

theorem bl_irrefl : ∀ x : List UInt8, Op.bytesLess x x = false
  | [] => rfl
  | a :: x => by simp [Op.bytesLess, bl_irrefl x, UInt8.lt_irrefl]
theorem bl_trans : ∀ x y z : List UInt8, Op.bytesLess x y = true → Op.bytesLess y z = true → Op.bytesLess x z = true
  | _, [], _, h, _ => by simp [Op.bytesLess] at h
  | _, _ :: _, [], _, h => by simp [Op.bytesLess] at h
  | [], _ :: _, _ :: _, _, _ => rfl
  | a :: x, b :: y, c :: z, h1, h2 => by
    simp only [Op.bytesLess, Bool.or_eq_true, Bool.and_eq_true, decide_eq_true_eq, beq_iff_eq] at h1 h2 ⊢
    rcases h1 with h1 | ⟨rfl, h1⟩
    · rcases h2 with h2 | ⟨rfl, h2⟩
      · exact Or.inl (UInt8.lt_trans h1 h2)
      · exact Or.inl h1
    · rcases h2 with h2 | ⟨rfl, h2⟩
      · exact Or.inl h2
      · exact Or.inr ⟨rfl, bl_trans x y z h1 h2⟩
theorem bl_total : ∀ x y : List UInt8, Op.bytesLess x y = false → Op.bytesLess y x = false → x = y
  | [], [], _, _ => rfl
  | [], _ :: _, h, _ => by simp [Op.bytesLess] at h
  | _ :: _, [], _, h => by simp [Op.bytesLess] at h
  | a :: x, b :: y, h1, h2 => by
    simp only [Op.bytesLess, Bool.or_eq_false_iff, Bool.and_eq_false_imp, decide_eq_false_iff_not, beq_iff_eq] at h1 h2
    have e : a = b := by
      have q1 := h1.1
      have q2 := h2.1
      rw [UInt8.lt_iff_toNat_lt] at q1 q2
      exact UInt8.toNat_inj.1 (by omega)
    subst e
    rw [bl_total x y (h1.2 rfl) (h2.2 rfl)]
theorem ba_ext {a b : ByteArray} (h : a.toList = b.toList) : a = b := by
  rw [ByteArray.toList_eq, ByteArray.toList_eq] at h
  exact ByteArray.ext (Array.toList_inj.1 h)

/-- do texts rise? -/
def Rise (ss : List ByteArray) : Prop := ss.Pairwise fun a b => Op.bytesLess a.toList b.toList = true
theorem rise_uniq : ∀ l1 l2 : List ByteArray, Rise l1 → Rise l2 → (∀ t, t ∈ l1 ↔ t ∈ l2) → l1 = l2
  | [], [], _, _, _ => rfl
  | [], b :: _, _, _, h => by have := (h b).2 (by simp); cases this
  | a :: _, [], _, _, h => by have := (h a).1 (by simp); cases this
  | a :: t1, b :: t2, h1, h2, h => by
    have p1 := List.pairwise_cons.1 h1
    have p2 := List.pairwise_cons.1 h2
    have e : a = b := by
      rcases List.mem_cons.1 ((h a).1 (by simp)) with e | m
      · exact e
      rcases List.mem_cons.1 ((h b).2 (by simp)) with e | m2
      · exact e.symm
      have x := bl_trans _ _ _ (p1.1 b m2) (p2.1 a m)
      rw [bl_irrefl] at x
      cases x
    subst e
    have ht : t1 = t2 := rise_uniq t1 t2 p1.2 p2.2 fun t => by
      constructor
      · intro m
        rcases List.mem_cons.1 ((h t).1 (List.mem_cons_of_mem _ m)) with rfl | m2
        · have x := p1.1 _ m
          rw [bl_irrefl] at x
          cases x
        · exact m2
      · intro m
        rcases List.mem_cons.1 ((h t).2 (List.mem_cons_of_mem _ m)) with rfl | m2
        · have x := p2.1 _ m
          rw [bl_irrefl] at x
          cases x
        · exact m2
    rw [ht]

/-- how many are less -/
def lessN (ss : List ByteArray) (x : ByteArray) : Nat := (ss.filter fun t => Op.bytesLess t.toList x.toList).length
/-- is it there? -/
def inB (ss : List ByteArray) (x : ByteArray) : Bool := ss.any fun t => t.toList == x.toList
theorem lessN_le (ss : List ByteArray) (x : ByteArray) : lessN ss x ≤ ss.length := List.length_filter_le _ _
theorem lessN_yes (ss : List ByteArray) (x : ByteArray) (k : Nat) (h : k < ss.length) (hl : Op.bytesLess ss[k].toList x.toList = true) : lessN (ss.take (k + 1)) x = lessN (ss.take k) x + 1 := by
  unfold lessN
  rw [List.take_succ_eq_append_getElem h, List.filter_append]
  simp [hl]
theorem lessN_no (ss : List ByteArray) (x : ByteArray) (k : Nat) (h : k < ss.length) (hl : Op.bytesLess ss[k].toList x.toList = false) : lessN (ss.take (k + 1)) x = lessN (ss.take k) x := by
  unfold lessN
  rw [List.take_succ_eq_append_getElem h, List.filter_append]
  simp [hl]
theorem mem_in {ss : List ByteArray} {x : ByteArray} : inB ss x = true ↔ x ∈ ss := by
  unfold inB
  rw [List.any_eq_true]
  constructor
  · rintro ⟨t, ht, h⟩
    rw [beq_iff_eq] at h
    rw [← ba_ext h]
    exact ht
  · intro h
    exact ⟨x, h, by simp⟩
theorem cut_of : ∀ (ss : List ByteArray) (x : ByteArray), Rise ss → Cut ss x (lessN ss x)
  | [], x, _ => ⟨by simp [lessN], fun t h => by simp at h, fun t h => by simp at h⟩
  | a :: r, x, hr => by
    have p := List.pairwise_cons.1 hr
    have ih := cut_of r x p.2
    cases ha : Op.bytesLess a.toList x.toList with
    | true =>
      have e : lessN (a :: r) x = lessN r x + 1 := by simp [lessN, ha]
      rw [e]
      refine ⟨by have := ih.1; simp; omega, fun t h ht => ?_, fun t h ht => ?_⟩
      · rcases t with _ | t
        · exact ha
        · exact ih.2.1 t (by simpa using h) (by omega)
      · rcases t with _ | t
        · omega
        · exact ih.2.2 t (by simpa using h) (by omega)
    | false =>
      have hn : ∀ b ∈ r, Op.bytesLess b.toList x.toList = false := by
        intro b hb
        cases hq : Op.bytesLess b.toList x.toList with
        | false => rfl
        | true => rw [bl_trans _ _ _ (p.1 b hb) hq] at ha; cases ha
      have e : lessN (a :: r) x = 0 := by
        unfold lessN
        rw [List.filter_cons, if_neg (by rw [ha]; simp), List.filter_eq_nil_iff.2 (fun b hb => by rw [hn b hb]; simp)]
        rfl
      rw [e]
      refine ⟨by simp, fun t h ht => by omega, fun t h _ => ?_⟩
      rcases t with _ | t
      · exact ha
      · exact hn _ (List.getElem_mem (by simpa using h))
theorem cut_idx {ss : List ByteArray} {x : ByteArray} (hr : Rise ss) (i : Nat) (hi : i < ss.length) (he : ss[i] = x) : i = lessN ss x := by
  have hc := cut_of ss x hr
  rcases Nat.lt_trichotomy i (lessN ss x) with h | h | h
  · have := hc.2.1 i hi h
    rw [he, bl_irrefl] at this
    cases this
  · exact h
  · have h1 := List.pairwise_iff_getElem.1 hr (lessN ss x) i (by omega) hi h
    have h2 := hc.2.2 (lessN ss x) (by omega) (Nat.le_refl _)
    rw [he] at h1
    rw [h1] at h2
    cases h2
theorem met_at {ss : List ByteArray} {x : ByteArray} {K : Nat} (h : metB ss x K = true) : ∃ hk : K < ss.length, ss[K] = x := by
  unfold metB at h
  rw [Bool.and_eq_true] at h
  have hk : K < ss.length := of_decide_eq_true h.1
  refine ⟨hk, ba_ext ?_⟩
  have h2 := h.2
  rw [beq_iff_eq, List.getD_eq_getElem?_getD, List.getElem?_eq_getElem hk] at h2
  exact h2
theorem in_met {ss : List ByteArray} {x : ByteArray} (hr : Rise ss) : metB ss x (lessN ss x) = inB ss x := by
  rw [Bool.eq_iff_iff, mem_in]
  constructor
  · intro h
    obtain ⟨hk, e⟩ := met_at h
    rw [← e]
    exact List.getElem_mem hk
  · intro h
    obtain ⟨i, hi, e⟩ := List.getElem_of_mem h
    have hk := cut_idx hr i hi e
    subst hk
    unfold metB
    rw [decide_eq_true hi, Bool.true_and, beq_iff_eq, List.getD_eq_getElem?_getD, List.getElem?_eq_getElem hi]
    show ss[lessN ss x].toList = _
    rw [e]

/-- a row with a text -/
def withL (ss : List ByteArray) (x : ByteArray) : List ByteArray := if inB ss x = true then ss else ss.take (lessN ss x) ++ x :: ss.drop (lessN ss x)
theorem with_yes {ss : List ByteArray} {x : ByteArray} (h : inB ss x = true) : withL ss x = ss := if_pos h
theorem with_no {ss : List ByteArray} {x : ByteArray} (h : inB ss x = false) : withL ss x = ss.take (lessN ss x) ++ x :: ss.drop (lessN ss x) := if_neg (by rw [h]; simp)
theorem mem_with {ss : List ByteArray} {x t : ByteArray} : t ∈ withL ss x ↔ t = x ∨ t ∈ ss := by
  cases h : inB ss x with
  | true =>
    rw [with_yes h]
    constructor
    · exact Or.inr
    · rintro (rfl | h2)
      · exact mem_in.1 h
      · exact h2
  | false =>
    rw [with_no h]
    conv => rhs; rw [← List.take_append_drop (lessN ss x) ss]
    simp only [List.mem_append, List.mem_cons]
    constructor
    · rintro (a | rfl | b)
      · exact .inr (.inl a)
      · exact .inl rfl
      · exact .inr (.inr b)
    · rintro (rfl | a | b)
      · exact .inr (.inl rfl)
      · exact .inl a
      · exact .inr (.inr b)
theorem mem_take_less {ss : List ByteArray} {x t : ByteArray} (hr : Rise ss) (h : t ∈ ss.take (lessN ss x)) : Op.bytesLess t.toList x.toList = true := by
  obtain ⟨i, hi, rfl⟩ := List.getElem_of_mem h
  rw [List.getElem_take]
  rw [List.length_take] at hi
  exact (cut_of ss x hr).2.1 i (by omega) (by omega)
theorem mem_drop_not {ss : List ByteArray} {x t : ByteArray} (hr : Rise ss) (h : t ∈ ss.drop (lessN ss x)) : Op.bytesLess t.toList x.toList = false := by
  obtain ⟨i, hi, rfl⟩ := List.getElem_of_mem h
  rw [List.getElem_drop]
  rw [List.length_drop] at hi
  exact (cut_of ss x hr).2.2 _ (by omega) (by omega)
theorem rise_with {ss : List ByteArray} (x : ByteArray) (hr : Rise ss) : Rise (withL ss x) := by
  cases h : inB ss x with
  | true => rw [with_yes h]; exact hr
  | false =>
    rw [with_no h]
    have hlt : ∀ b ∈ ss.drop (lessN ss x), Op.bytesLess x.toList b.toList = true := by
      intro b hb
      cases hq : Op.bytesLess x.toList b.toList with
      | true => rfl
      | false =>
        have e := ba_ext (bl_total _ _ (mem_drop_not hr hb) hq)
        rw [← e, mem_in.2 (List.mem_of_mem_drop hb)] at h
        cases h
    refine List.pairwise_append.2 ⟨List.Pairwise.sublist (List.take_sublist _ _) hr, List.pairwise_cons.2 ⟨hlt, List.Pairwise.sublist (List.drop_sublist _ _) hr⟩, ?_⟩
    intro a ha b hb
    have hax := mem_take_less hr ha
    rcases List.mem_cons.1 hb with rfl | hb
    · exact hax
    · exact bl_trans _ _ _ hax (hlt b hb)
/-- a row without the texts of another one -/
def onlyL (a b : List ByteArray) : List ByteArray := a.filter fun t => !inB b t
theorem rise_only {a : List ByteArray} (b : List ByteArray) (hr : Rise a) : Rise (onlyL a b) := List.Pairwise.sublist List.filter_sublist hr
theorem mem_only {a b : List ByteArray} {t : ByteArray} : t ∈ onlyL a b ↔ t ∈ a ∧ ¬ t ∈ b := by
  unfold onlyL
  rw [List.mem_filter]
  constructor
  · rintro ⟨h1, h2⟩
    refine ⟨h1, fun h => ?_⟩
    rw [mem_in.2 h] at h2
    cases h2
  · rintro ⟨h1, h2⟩
    refine ⟨h1, ?_⟩
    cases h : inB b t with
    | false => rfl
    | true => exact absurd (mem_in.1 h) h2
theorem wo_yes {ss : List ByteArray} {x : ByteArray} (hr : Rise ss) (h : metB ss x (lessN ss x) = true) : ss.take (lessN ss x) ++ ss.drop (lessN ss x + 1) = onlyL ss [x] := by
  obtain ⟨hk, e⟩ := met_at h
  have hs : ss = ss.take (lessN ss x) ++ x :: ss.drop (lessN ss x + 1) := by
    conv => lhs; rw [← List.take_append_drop (lessN ss x) ss, List.drop_eq_getElem_cons hk, e]
  have hr2 := hr
  rw [hs] at hr2
  have p := List.pairwise_append.1 hr2
  refine rise_uniq _ _ ?_ (rise_only _ hr) fun t => ?_
  · exact List.pairwise_append.2 ⟨p.1, (List.pairwise_cons.1 p.2.1).2, fun a ha b hb => p.2.2 a ha b (List.mem_cons_of_mem _ hb)⟩
  · rw [mem_only]
    conv => rhs; rw [hs]
    simp only [List.mem_append, List.mem_cons, List.not_mem_nil, or_false]
    constructor
    · rintro (m | m)
      · refine ⟨.inl m, fun e2 => ?_⟩
        have q := mem_take_less hr m
        rw [e2, bl_irrefl] at q
        cases q
      · refine ⟨.inr (.inr m), fun e2 => ?_⟩
        have q := (List.pairwise_cons.1 p.2.1).1 t m
        rw [e2, bl_irrefl] at q
        cases q
    · rintro ⟨m | m | m, h2⟩
      · exact .inl m
      · exact absurd m h2
      · exact .inr m
theorem wo_no {ss : List ByteArray} {x : ByteArray} (h : inB ss x = false) : ss = onlyL ss [x] := by
  unfold onlyL
  symm
  rw [List.filter_eq_self]
  intro t ht
  cases hq : inB [x] t with
  | false => rfl
  | true =>
    have e : t = x := by simpa using mem_in.1 hq
    rw [← e, mem_in.2 ht] at h
    cases h
/-- two rows as one -/
def mergeL : List ByteArray → List ByteArray → List ByteArray
  | [], b => b
  | x :: a, [] => x :: a
  | x :: a, y :: b => if Op.bytesLess x.toList y.toList = true then x :: mergeL a (y :: b) else if (x.toList == y.toList) = true then x :: mergeL a b else y :: mergeL (x :: a) b
termination_by a b => a.length + b.length
theorem merge_nil (b : List ByteArray) : mergeL [] b = b := by rw [mergeL]
theorem merge_nil2 (a : List ByteArray) : mergeL a [] = a := by cases a <;> rw [mergeL]
theorem merge_lt (x y : ByteArray) (a b : List ByteArray) (h : Op.bytesLess x.toList y.toList = true) : mergeL (x :: a) (y :: b) = x :: mergeL a (y :: b) := by rw [mergeL, if_pos h]
theorem merge_eq (x y : ByteArray) (a b : List ByteArray) (h : Op.bytesLess x.toList y.toList = false) (h2 : (x.toList == y.toList) = true) : mergeL (x :: a) (y :: b) = x :: mergeL a b := by
  rw [mergeL, if_neg (by rw [h]; simp), if_pos h2]
theorem merge_gt (x y : ByteArray) (a b : List ByteArray) (h : Op.bytesLess x.toList y.toList = false) (h2 : (x.toList == y.toList) = false) : mergeL (x :: a) (y :: b) = y :: mergeL (x :: a) b := by
  rw [mergeL, if_neg (by rw [h]; simp), if_neg (by rw [h2]; simp)]
theorem mem_merge {t : ByteArray} : ∀ (n : Nat) (a b : List ByteArray), a.length + b.length ≤ n → (t ∈ mergeL a b ↔ t ∈ a ∨ t ∈ b)
  | _, [], b, _ => by rw [merge_nil]; simp
  | _, x :: a, [], _ => by rw [merge_nil2]; simp
  | 0, x :: a, y :: b, h => by simp at h
  | n + 1, x :: a, y :: b, h => by
    simp only [List.length_cons] at h
    cases h1 : Op.bytesLess x.toList y.toList with
    | true =>
      rw [merge_lt x y a b h1, List.mem_cons, mem_merge n a (y :: b) (by simp only [List.length_cons]; omega)]
      simp only [List.mem_cons, or_assoc]
    | false =>
      cases h2 : (x.toList == y.toList) with
      | true =>
        obtain rfl := ba_ext (beq_iff_eq.1 h2)
        rw [merge_eq _ _ a b h1 h2, List.mem_cons, mem_merge n a b (by omega)]
        simp only [List.mem_cons]
        constructor
        · rintro (e | e | e)
          · exact .inl (.inl e)
          · exact .inl (.inr e)
          · exact .inr (.inr e)
        · rintro ((e | e) | e | e)
          · exact .inl e
          · exact .inr (.inl e)
          · exact .inl e
          · exact .inr (.inr e)
      | false =>
        rw [merge_gt x y a b h1 h2, List.mem_cons, mem_merge n (x :: a) b (by simp only [List.length_cons]; omega)]
        simp only [List.mem_cons]
        constructor
        · rintro (e | (e | e) | e)
          · exact .inr (.inl e)
          · exact .inl (.inl e)
          · exact .inl (.inr e)
          · exact .inr (.inr e)
        · rintro ((e | e) | e | e)
          · exact .inr (.inl (.inl e))
          · exact .inr (.inl (.inr e))
          · exact .inl e
          · exact .inr (.inr e)
theorem rise_merge : ∀ (n : Nat) (a b : List ByteArray), a.length + b.length ≤ n → Rise a → Rise b → Rise (mergeL a b)
  | _, [], b, _, _, hb => by rw [merge_nil]; exact hb
  | _, x :: a, [], _, ha, _ => by rw [merge_nil2]; exact ha
  | 0, x :: a, y :: b, h, _, _ => by simp at h
  | n + 1, x :: a, y :: b, h, ha, hb => by
    simp only [List.length_cons] at h
    have pa := List.pairwise_cons.1 ha
    have pb := List.pairwise_cons.1 hb
    cases h1 : Op.bytesLess x.toList y.toList with
    | true =>
      rw [merge_lt x y a b h1]
      refine List.pairwise_cons.2 ⟨fun t ht => ?_, rise_merge n a (y :: b) (by simp only [List.length_cons]; omega) pa.2 hb⟩
      rcases (mem_merge n a (y :: b) (by simp only [List.length_cons]; omega)).1 ht with m | m
      · exact pa.1 t m
      · rcases List.mem_cons.1 m with rfl | m
        · exact h1
        · exact bl_trans _ _ _ h1 (pb.1 t m)
    | false =>
      cases h2 : (x.toList == y.toList) with
      | true =>
        obtain rfl := ba_ext (beq_iff_eq.1 h2)
        rw [merge_eq _ _ a b h1 h2]
        refine List.pairwise_cons.2 ⟨fun t ht => ?_, rise_merge n a b (by omega) pa.2 pb.2⟩
        rcases (mem_merge n a b (by omega)).1 ht with m | m
        · exact pa.1 t m
        · exact pb.1 t m
      | false =>
        have h3 : Op.bytesLess y.toList x.toList = true := by
          cases hq : Op.bytesLess y.toList x.toList with
          | true => rfl
          | false => rw [bl_total _ _ h1 hq] at h2; simp at h2
        rw [merge_gt x y a b h1 h2]
        refine List.pairwise_cons.2 ⟨fun t ht => ?_, rise_merge n (x :: a) b (by simp only [List.length_cons]; omega) ha pb.2⟩
        rcases (mem_merge n (x :: a) b (by simp only [List.length_cons]; omega)).1 ht with m | m
        · rcases List.mem_cons.1 m with rfl | m
          · exact h3
          · exact bl_trans _ _ _ h3 (pa.1 t m)
        · exact pb.1 t m
theorem mem_fold {t : ByteArray} : ∀ (b a : List ByteArray), t ∈ b.foldl withL a ↔ t ∈ a ∨ t ∈ b
  | [], a => by simp
  | y :: b, a => by
    rw [List.foldl_cons, mem_fold b, mem_with]
    simp only [List.mem_cons]
    constructor
    · rintro ((e | e) | e)
      · exact .inr (.inl e)
      · exact .inl e
      · exact .inr (.inr e)
    · rintro (e | e | e)
      · exact .inl (.inr e)
      · exact .inl (.inl e)
      · exact .inr e
theorem rise_fold : ∀ (b a : List ByteArray), Rise a → Rise (b.foldl withL a)
  | [], a, h => h
  | y :: b, a, h => by rw [List.foldl_cons]; exact rise_fold b _ (rise_with y h)
theorem all_merge {a b : List ByteArray} (ha : Rise a) (hb : Rise b) : b.foldl withL a = mergeL a b :=
  rise_uniq _ _ (rise_fold b a ha) (rise_merge _ a b (Nat.le_refl _) ha hb) fun t => by rw [mem_fold, mem_merge _ a b (Nat.le_refl _)]
theorem fold_take (a b : List ByteArray) (k : Nat) (h : k < b.length) : (b.take (k + 1)).foldl withL a = withL ((b.take k).foldl withL a) b[k] := by
  rw [List.take_succ_eq_append_getElem h, List.foldl_append]; rfl
theorem with_len (a : List ByteArray) (x : ByteArray) : (withL a x).length ≤ a.length + 1 := by
  cases h : inB a x with
  | true => rw [with_yes h]; omega
  | false =>
    rw [with_no h]
    simp only [List.length_append, List.length_cons, List.length_take, List.length_drop]
    omega
theorem fold_len : ∀ (b a : List ByteArray), (b.foldl withL a).length ≤ a.length + b.length
  | [], a => by simp
  | y :: b, a => by
    have h1 := fold_len b (withL a y)
    have h2 := with_len a y
    simp only [List.foldl_cons, List.length_cons]
    omega
theorem only_take (a b : List ByteArray) (k : Nat) (h : k < a.length) : onlyL (a.take (k + 1)) b = onlyL (a.take k) b ++ (if inB b a[k] = true then [] else [a[k]]) := by
  unfold onlyL
  rw [List.take_succ_eq_append_getElem h, List.filter_append]
  cases hq : inB b a[k] <;> simp [hq]
theorem only_yes (a b : List ByteArray) (k : Nat) (h : k < a.length) (hi : inB b a[k] = true) : onlyL (a.take (k + 1)) b = onlyL (a.take k) b := by
  rw [only_take a b k h, if_pos hi, List.append_nil]
theorem only_no (a b : List ByteArray) (k : Nat) (h : k < a.length) (hi : inB b a[k] = false) : onlyL (a.take (k + 1)) b = onlyL (a.take k) b ++ [a[k]] := by
  rw [only_take a b k h, if_neg (by rw [hi]; simp)]
theorem only_len (a b : List ByteArray) : (onlyL a b).length ≤ a.length := List.length_filter_le _ _

/-- does each text stand ahead of the next? -/
def riseB : List ByteArray → Bool
  | a :: b :: t => !leS b a && riseB (b :: t)
  | _ => true
theorem le_no {s p : ByteArray} (h : leS s p = false) : Op.bytesLess p.toList s.toList = true := by
  rcases leS_cases s p with ⟨_, g⟩ | ⟨_, _, g⟩ | ⟨g1, g2, _⟩
  · rw [g] at h; cases h
  · rw [g] at h; cases h
  · cases hq : Op.bytesLess p.toList s.toList with
    | true => rfl
    | false =>
      have e := bl_total _ _ g1 hq
      rw [e] at g2
      simp at g2
theorem no_le {s p : ByteArray} (h : Op.bytesLess p.toList s.toList = true) : leS s p = false := by
  rcases leS_cases s p with ⟨g, _⟩ | ⟨_, g, _⟩ | ⟨_, _, g⟩
  · have x := bl_trans _ _ _ h g
    rw [bl_irrefl] at x
    cases x
  · rw [beq_iff_eq] at g
    rw [g, bl_irrefl] at h
    cases h
  · exact g
theorem rise_chain : ∀ ss : List ByteArray, riseB ss = true → Rise ss
  | [], _ => List.Pairwise.nil
  | [a], _ => by unfold Rise; simp
  | a :: b :: t, h => by
    simp only [riseB, Bool.and_eq_true, Bool.not_eq_true'] at h
    have ih := rise_chain (b :: t) h.2
    have hab := le_no h.1
    refine List.pairwise_cons.2 ⟨fun c hc => ?_, ih⟩
    rcases List.mem_cons.1 hc with rfl | hc
    · exact hab
    · exact bl_trans _ _ _ hab ((List.pairwise_cons.1 ih).1 c hc)

theorem row_ok : ∀ (ss : List ByteArray) (p : ByteArray), rowE p ss = 0 → (∀ s ∈ ss, nm s = true) ∧ Rise (p :: ss)
  | [], p, _ => ⟨by simp, by unfold Rise; simp⟩
  | s :: t, p, h => by
    cases hn : nm s with
    | false => rw [rowE_bad p s t hn] at h; cases h
    | true =>
      cases hg : leS s p with
      | true => rw [rowE_ord p s t hn hg] at h; cases h
      | false =>
        rw [rowE_go p s t hn hg] at h
        obtain ⟨h1, h2⟩ := row_ok t s h
        refine ⟨fun x hx => ?_, List.pairwise_cons.2 ⟨fun c hc => ?_, h2⟩⟩
        · rcases List.mem_cons.1 hx with rfl | hx
          · exact hn
          · exact h1 x hx
        · rcases List.mem_cons.1 hc with rfl | hc
          · exact le_no hg
          · exact bl_trans _ _ _ (le_no hg) ((List.pairwise_cons.1 h2).1 c hc)
theorem ok_row : ∀ (ss : List ByteArray) (p : ByteArray), (∀ s ∈ ss, nm s = true) → Rise (p :: ss) → rowE p ss = 0
  | [], p, _, _ => rfl
  | s :: t, p, h1, h2 => by
    have q := List.pairwise_cons.1 h2
    rw [rowE_go p s t (h1 s (by simp)) (no_le (q.1 s (by simp)))]
    exact ok_row t s (fun x hx => h1 x (List.mem_cons_of_mem _ hx)) q.2
theorem row0_ok (ss : List ByteArray) (h : rowE ⟨#[]⟩ ss = 0) : (∀ s ∈ ss, nm s = true) ∧ Rise ss := ⟨(row_ok ss _ h).1, (List.pairwise_cons.1 (row_ok ss _ h).2).2⟩
theorem ok_row0 (ss : List ByteArray) (h1 : ∀ s ∈ ss, nm s = true) (h2 : Rise ss) : rowE ⟨#[]⟩ ss = 0 :=
  ok_row ss _ h1 (List.pairwise_cons.2 ⟨fun s hs => le_no (le_nil s (h1 s hs)), h2⟩)
/-- a row with a text, without it again -/
theorem back_no {ss : List ByteArray} {x : ByteArray} (hr : Rise ss) (h : inB ss x = false) : onlyL (withL ss x) [x] = ss :=
  rise_uniq _ _ (rise_only _ (rise_with x hr)) hr fun t => by
    rw [mem_only, mem_with]
    constructor
    · rintro ⟨e | e, h2⟩
      · exact absurd e (by simpa using h2)
      · exact e
    · intro m
      refine ⟨.inr m, fun h2 => ?_⟩
      have e : t = x := by simpa using h2
      rw [← e, mem_in.2 m] at h
      cases h
theorem with_in (ss : List ByteArray) (x : ByteArray) : inB (withL ss x) x = true := mem_in.2 (mem_with.2 (.inl rfl))
theorem with_nm {ss : List ByteArray} {x : ByteArray} (h : ∀ s ∈ ss, nm s = true) (hx : nm x = true) : ∀ s ∈ withL ss x, nm s = true := by
  intro s hs
  rcases mem_with.1 hs with rfl | m
  · exact hx
  · exact h s m
theorem only_nm {ss b : List ByteArray} (h : ∀ s ∈ ss, nm s = true) : ∀ s ∈ onlyL ss b, nm s = true := fun s hs => h s (mem_only.1 hs).1
theorem wo_len {ss : List ByteArray} {x : ByteArray} (hr : Rise ss) (h : inB ss x = true) : (onlyL ss [x]).length + 1 = ss.length := by
  rw [← in_met hr] at h
  rw [← wo_yes hr h]
  obtain ⟨hk, _⟩ := met_at h
  simp only [List.length_append, List.length_take, List.length_drop]
  omega
end Go.Proofs.YtiflieaemgamkaaDoor
