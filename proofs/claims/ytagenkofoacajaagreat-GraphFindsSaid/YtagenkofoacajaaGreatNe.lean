/- Contracts of name.Find, name.join, name.With and of the statement's Texts. -/
import Derived.Test.YtagenkofoacajaaGreatNd
import Derived.Laws.CopyOwn
import Derived.Below
import Derived.Outline
namespace Go.Proofs.YtagenkofoacajaaGreat
open Go.RowKit

def stv (s : ByteArray) : Value := .string s

set_option maxRecDepth 100000 in
set_option maxHeartbeats 800000 in
theorem find_any (a : Option Addr) (len cap : Nat) (ss : List ByteArray) (x : ByteArray) (K : Nat) (w : World) (hsl : SlN w a len ss) (hlm : len ≤ 1000000) (hK : Cut ss x K) :
    Calls Tryz.prog 42 #[.slice a len cap, .string x] w fun e w' => e = .returned (.tuple #[.int .i64 (K : Int), .bool (metB ss x K)]) ∧ w = w' := by
  go_enter Tryz.func42, Tryz.ntmps42
  go_wp2_with fail
  refine (bsearch_any a len cap ss x K w hsl hlm hK).mono ?_
  rintro e w' ⟨rfl, rfl⟩
  go_wp2
  go_ret2
  exact ⟨rfl, rfl⟩

theorem info_str : (Tryz.prog.info? 9).map (fun i => (i.zero, i.size, i.bytes)) = some (some (.string ⟨#[]⟩), 1, 16) := by kernel_rfl
theorem size_str : (Tryz.prog.info? 9).map (·.size) = some 1 := by kernel_rfl
/-- a new row of empty texts -/
def emp (n : Nat) : List Value := List.replicate n (.string ⟨#[]⟩)
theorem made_emp (n : Nat) : madeCells (Value.string ⟨#[]⟩).cells (n * 1) = (emp n).toArray := by
  unfold emp madeCells Value.cells
  apply Array.ext
  · simp
  · intro j h1 h2; simp [Nat.mod_one]
theorem make_at (w : World) (n : Nat) (hn : n ≤ 3000000) : (Instr.makeSlice 29 (.int .i64 (n : Int)) (.int .i64 (n : Int))).run Tryz.prog w = .ok (.slice (some ⟨w.heap.size, 0, none⟩) n n) (w.alloc (.cells (emp n).toArray 9)) := by
  obtain ⟨i0, hi, hz0, hz1, hz2⟩ := info_parts info_str
  have h := run_make (P := Tryz.prog) w 29 9 i0 (.string ⟨#[]⟩) Tryz.underlying29 hi hz0 .i64 .i64 (n : Int) (n : Int) (by omega) (Int.le_refl _) (by rw [hz2]; omega) (by omega)
  rw [h, hz1]
  simp only [Int.toNat_natCast]
  rw [made_emp]

theorem heap_set {w : World} {b i : Nat} {u : Value} {t : TypeId} {cs : List Value} (h : w.heap[b]? = some (.cells cs.toArray t (0, 0))) : (w.setCell ⟨b, i, none⟩ u).heap[b]? = some (.cells (cs.set i u).toArray t (0, 0)) := by
  have hlt : b < w.heap.size := (Array.getElem?_eq_some_iff.1 h).1
  have h' : w.heap[b] = .cells cs.toArray t (0, 0) := by simpa [Array.getElem?_eq_getElem hlt] using h
  show (w.heap.modify b _)[b]? = _
  rw [Array.getElem?_eq_getElem (by simpa using hlt), Array.getElem_modify_self, h']
  simp
theorem set_splice {α : Type} (L : List α) (i : Nat) (v : α) (h : i < L.length) : L.set i v = splice L i [v] := by
  unfold splice
  rw [List.set_eq_take_append_cons_drop, if_pos h]
  simp
theorem join_list (xs ys : List ByteArray) (s : ByteArray) (N : Nat) (hN : N = xs.length + 1 + ys.length) :
    splice ((splice (emp N) 0 (xs.map stv)).set xs.length (stv s)) (xs.length + 1) (ys.map stv) = (xs ++ s :: ys).map stv := by
  have hl : (splice (emp N) 0 (xs.map stv)).length = N := by rw [length_splice _ _ _ (by simp [emp]; omega)]; simp [emp]
  rw [set_splice _ _ _ (by omega), splice_splice_splice (emp N) (xs.map stv) [stv s] (ys.map stv) xs.length 1 (by simp) (by simp) (by simp [emp]; omega)]
  simp
theorem cell_of {w : World} {b : Nat} {t : TypeId} {cs : List Value} (h : w.heap[b]? = some (.cells cs.toArray t (0, 0))) (i : Nat) (hi : i < cs.length) : w.cell? ⟨b, i, none⟩ = some cs[i] := by
  simp [World.cell?, h, hi]
theorem free_of {w : World} {b : Nat} {t : TypeId} {cs : List Value} (h : w.heap[b]? = some (.cells cs.toArray t (0, 0))) (i : Nat) : w.frozen? ⟨b, i, none⟩ = false := by
  simp [World.frozen?, h]
/-- the cells of a slice of texts, later -/
theorem SlN.src {w w' : World} {a : Option Addr} {len : Nat} {ss : List ByteArray} (h : SlN w a len ss) (hb : Below w.heap.size w w') : 0 < (ss.map stv).length → ∃ ad, a = some ad ∧ ∀ j v, (ss.map stv)[j]? = some v → w'.cell? (ad.add j) = some v := by
  intro hp
  have hl := h.1
  obtain ⟨b, off, rfl, hc⟩ := h.2 (by simp at hp; omega)
  refine ⟨_, rfl, fun j v hj => ?_⟩
  have hjl : j < ss.length := by
    have := (List.getElem?_eq_some_iff.1 hj).1
    simpa using this
  have hv : v = stv ss[j] := by
    rw [List.getElem?_map, List.getElem?_eq_getElem hjl] at hj
    simpa using hj.symm
  have hcj := hc j hjl
  rw [Addr.add_lit, hb.cell (p := ⟨b, off + j, none⟩) (World.block_lt_of_cell? w _ hcj), hcj, hv]
  rfl

set_option maxRecDepth 100000 in
set_option maxHeartbeats 800000 in
theorem join_any (a : Option Addr) (la ca : Nat) (xs : List ByteArray) (s : ByteArray) (b : Option Addr) (lb cb : Nat) (ys : List ByteArray) (w : World) (ha : SlN w a la xs) (hb : SlN w b lb ys) (h1 : la ≤ 1000000) (h2 : lb ≤ 1000000) :
    Calls Tryz.prog 173 #[.slice a la ca, .string s, .slice b lb cb] w fun e w' => e = .returned (.slice (some ⟨w.heap.size, 0, none⟩) (la + 1 + lb) (la + 1 + lb)) ∧ w'.heap[w.heap.size]? = some (.cells ((xs ++ s :: ys).map stv).toArray 9 (0, 0)) ∧ Below w.heap.size w w' := by
  obtain ⟨N, hN⟩ : ∃ N, N = la + 1 + lb := ⟨_, rfl⟩
  have hNi : (la : Int) + 1 + (lb : Int) = (N : Int) := by omega
  have hmk := fun W => make_at W N (by omega)
  have HNN := Lib.hid hN
  clear hN
  have HSA := Lib.hid (ha.src ((Below.refl _ w).alloc (Nat.le_refl _) (.cells (emp N).toArray 9)))
  have HLA := Lib.hid ha.1
  have HLB := Lib.hid hb.1
  have HB := Lib.hid hb
  clear ha hb
  go_enter Tryz.func173, Tryz.ntmps173
  go_wp2_with (with_reducible refine wpList_copy_splice rfl (.tmp 15) (.tmp 16) 29 29 rfl 9 Tryz.underlying29 size_str (some ⟨w.heap.size, 0, none⟩) a N N la ca rfl rfl w.heap.size 0 (emp N) 9 (MapKept.heap_alloc _ _).1 (xs.map stv) ?n1 (fun h => ⟨rfl, HSA.out h⟩) ?f1 ?o1 w.heap.size w ((Below.refl _ _).alloc (Nat.le_refl _) _) (Nat.le_refl _) ?_)
  case n1 => rw [List.length_map, HLA.out]; exact (Nat.min_eq_left (by have := HNN.out; omega)).symm
  case f1 => rw [List.length_map, HLA.out]; simp [emp]; have := HNN.out; omega
  case o1 => intro v hv; obtain ⟨u, _, rfl⟩ := List.mem_map.1 hv; rfl
  intro w1 hw1 hb1
  have hzl : (splice (emp N) 0 (xs.map stv)).length = N := by rw [length_splice _ _ _ (by simp [emp, HLA.out]; have := HNN.out; omega)]; simp [emp]
  have hla : la < N := by have := HNN.out; omega
  obtain ⟨v0, c0⟩ : ∃ v, w1.cell? ⟨w.heap.size, la, none⟩ = some v := ⟨_, cell_of hw1.out la (by rw [hzl]; exact hla)⟩
  have f0 := free_of hw1.out la
  have HZ := Lib.hid hzl
  have hg2 := heap_set (i := la) (u := stv s) hw1.out
  have HG2 := Lib.hid hg2
  have hb2 := hb1.setCell (p := ⟨w.heap.size, la, none⟩) (Nat.le_refl _) (stv s)
  have hs2 := HB.out.src (hb1.setCell (p := ⟨w.heap.size, la, none⟩) (Nat.le_refl _) (stv s))
  have HS2 := Lib.hid hs2
  have hJ := join_list xs ys s N (by rw [HLA.out, HLB.out]; exact HNN.out)
  have HJ := Lib.hid hJ
  have hla2 : (la : Int) < (N : Int) := by omega
  have hla3 : (la : Int) + 1 ≤ (N : Int) := by omega
  have hN6 : (N : Int) ≤ 3000000 := by have := HNN.out; omega
  have hla4 : 0 ≤ (la : Int) := by omega
  clear hzl hg2 hs2 hJ hw1 hmk
  have HB2 := Lib.hid hb2
  clear hb2
  by_cases hq : N = la + 1
  · have hb0 : lb = 0 := by have := HNN.out; omega
    have HP0 := Lib.hid (show 0 < (ys.map stv).length → False by intro h; rw [List.length_map, HLB.out, hb0] at h; omega)
    go_wp2_with (refine wpList_copy_splice rfl (.tmp 27) (.tmp 28) 29 29 rfl 9 Tryz.underlying29 size_str _ b _ _ lb cb rfl rfl w.heap.size (la + 1) ((splice (emp N) 0 (xs.map stv)).set la (stv s)) 9 HG2.out (ys.map stv) ?n2 (fun h => (HP0.out h).elim) ?f2 ?o2 w.heap.size w HB2.out (Nat.le_refl _) ?_)
    case n2 => rw [List.length_map, HLB.out, hb0]; simp
    case f2 => rw [List.length_map, HLB.out, List.length_set, HZ.out]; omega
    case o2 => intro v hv; obtain ⟨u, _, rfl⟩ := List.mem_map.1 hv; rfl
    intro w2 hw2 hb3
    go_wp2
    go_ret
    have hw3 := hw2.out
    have hj1 := HJ.out
    rw [hq, ← HLA.out] at hj1
    rw [← HLA.out, hj1] at hw3
    exact ⟨by first | (rw [hb0]; done) | (rw [hb0]; rfl), hw3, hb3⟩
  · go_wp2_with (refine wpList_copy_splice rfl (.tmp 27) (.tmp 28) 29 29 rfl 9 Tryz.underlying29 size_str _ b _ _ lb cb rfl rfl w.heap.size (la + 1) ((splice (emp N) 0 (xs.map stv)).set la (stv s)) 9 HG2.out (ys.map stv) ?n2 (fun h => ⟨rfl, HS2.out h⟩) ?f2 ?o2 w.heap.size w HB2.out (Nat.le_refl _) ?_)
    case n2 => rw [List.length_map, HLB.out]; exact (Nat.min_eq_left (by have := HNN.out; omega)).symm
    case f2 => rw [List.length_map, HLB.out, List.length_set, HZ.out]; have := HNN.out; omega
    case o2 => intro v hv; obtain ⟨u, _, rfl⟩ := List.mem_map.1 hv; rfl
    intro w2 hw2 hb3
    go_wp2
    go_ret
    have hw3 := hw2.out
    rw [← HLA.out, HJ.out] at hw3
    exact ⟨by first | (rw [← HNN.out]; done) | (rw [← HNN.out]; rfl), hw3, hb3⟩
end Go.Proofs.YtagenkofoacajaaGreat
