/- Contracts of name.Find, name.join, name.With and of the statement's Texts. -/
import Derived.Test.YtpjpegmjcgkonaaNd
import Derived.Laws.CopyOwn
import Derived.Below
import Derived.Outline
namespace Go.Proofs.Ytpjpegmjcgkonaa
open Go.RowKit

def stv (s : ByteArray) : Value := .string s

theorem info_str : (Try.prog.info? 9).map (fun i => (i.zero, i.size, i.bytes)) = some (some (.string ⟨#[]⟩), 1, 16) := by kernel_rfl
theorem size_str : (Try.prog.info? 9).map (·.size) = some 1 := by kernel_rfl
/-- a new row of empty texts -/
def emp (n : Nat) : List Value := List.replicate n (.string ⟨#[]⟩)
theorem made_emp (n : Nat) : madeCells (Value.string ⟨#[]⟩).cells (n * 1) = (emp n).toArray := by
  unfold emp madeCells Value.cells
  apply Array.ext
  · simp
  · intro j h1 h2; simp [Nat.mod_one]
theorem make_at (w : World) (n : Nat) (hn : n ≤ 3000000) : (Instr.makeSlice 48 (.int .i64 (n : Int)) (.int .i64 (n : Int))).run Try.prog w = .ok (.slice (some ⟨w.heap.size, 0, none⟩) n n) (w.alloc (.cells (emp n).toArray 9)) := by
  obtain ⟨i0, hi, hz0, hz1, hz2⟩ := info_parts info_str
  have h := run_make (P := Try.prog) w 48 9 i0 (.string ⟨#[]⟩) Try.underlying48 hi hz0 .i64 .i64 (n : Int) (n : Int) (by omega) (Int.le_refl _) (by rw [hz2]; omega) (by omega)
  rw [h, hz1]
  simp only [Int.toNat_natCast]
  rw [made_emp]

theorem heap_set {w : World} {b i : Nat} {u : Value} {t : TypeId} {cs : List Value} (h : w.heap[b]? = some (.cells cs.toArray t (0, 0))) : (w.setCell ⟨b, i, none⟩ u).heap[b]? = some (.cells (cs.set i u).toArray t (0, 0)) := by
  have hlt : b < w.heap.size := (Array.getElem?_eq_some_iff.1 h).1
  have h' : w.heap[b] = .cells cs.toArray t (0, 0) := by simpa [Array.getElem?_eq_getElem hlt] using h
  show (w.heap.modify b _)[b]? = _
  rw [Array.getElem?_eq_getElem (by simpa using hlt), Array.getElem_modify_self, h']
  simp
theorem set_splice {α : Type} (L : List α) (i : Nat) (v : α) (h : i < L.length) : L.set i v = splice L i [v] := by
  unfold splice
  rw [List.set_eq_take_append_cons_drop, if_pos h]
  simp
theorem join_list (xs ys : List ByteArray) (s : ByteArray) (N : Nat) (hN : N = xs.length + 1 + ys.length) :
    splice ((splice (emp N) 0 (xs.map stv)).set xs.length (stv s)) (xs.length + 1) (ys.map stv) = (xs ++ s :: ys).map stv := by
  have hl : (splice (emp N) 0 (xs.map stv)).length = N := by rw [length_splice _ _ _ (by simp [emp]; omega)]; simp [emp]
  rw [set_splice _ _ _ (by omega), splice_splice_splice (emp N) (xs.map stv) [stv s] (ys.map stv) xs.length 1 (by simp) (by simp) (by simp [emp]; omega)]
  simp
theorem cell_of {w : World} {b : Nat} {t : TypeId} {cs : List Value} (h : w.heap[b]? = some (.cells cs.toArray t (0, 0))) (i : Nat) (hi : i < cs.length) : w.cell? ⟨b, i, none⟩ = some cs[i] := by
  simp [World.cell?, h, hi]
theorem free_of {w : World} {b : Nat} {t : TypeId} {cs : List Value} (h : w.heap[b]? = some (.cells cs.toArray t (0, 0))) (i : Nat) : w.frozen? ⟨b, i, none⟩ = false := by
  simp [World.frozen?, h]
/-- the cells of a slice of texts, later -/
theorem SlN.src {w w' : World} {a : Option Addr} {len : Nat} {ss : List ByteArray} (h : SlN w a len ss) (hb : Below w.heap.size w w') : 0 < (ss.map stv).length → ∃ ad, a = some ad ∧ ∀ j v, (ss.map stv)[j]? = some v → w'.cell? (ad.add j) = some v := by
  intro hp
  have hl := h.1
  obtain ⟨b, off, rfl, hc⟩ := h.2 (by simp at hp; omega)
  refine ⟨_, rfl, fun j v hj => ?_⟩
  have hjl : j < ss.length := by
    have := (List.getElem?_eq_some_iff.1 hj).1
    simpa using this
  have hv : v = stv ss[j] := by
    rw [List.getElem?_map, List.getElem?_eq_getElem hjl] at hj
    simpa using hj.symm
  have hcj := hc j hjl
  rw [Addr.add_lit, hb.cell (p := ⟨b, off + j, none⟩) (World.block_lt_of_cell? w _ hcj), hcj, hv]
  rfl

end Go.Proofs.Ytpjpegmjcgkonaa
