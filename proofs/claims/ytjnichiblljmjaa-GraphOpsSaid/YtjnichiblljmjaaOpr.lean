/- graph.Right, the document's Right, OfEdge and FewOps of layer 26 over this translation. Conditions: texts that are no longer than a text may be. -/
import Derived.Test.YtjnichiblljmjaaOpa
import Derived.Test.YtjnichiblljmjaaPm
import Derived.Test.YtjnichiblljmjaaPx
import Derived.Lib.MinMax
import Derived.IntWalk
namespace Go.Proofs.Ytjnichiblljmjaa
open Go.RowKit Vi

/-- may be what an op names? -/
def rightB (k : Int) (i f g y : ByteArray) (a d : Int) (t : ByteArray) : Bool :=
  nm i && (decide (1 ≤ k) && decide (k ≤ 12)) && (if k = 3 then nm f && nm g else if k < 5 then true else nm y && (if k = 9 ∨ k = 11 then vok a d t else true))
def rightE (b : Bool) : Int := if b = true then 0 else 2
theorem ow_blk {α : Type} {f : α → List Value} {s : Nat} {w : World} {b B : Nat} {T : TypeId} {cs : Array Value} (l : List α) (h : w.heap[b]? = some (.cells cs T (0, 0))) (hB : B ≤ b) (hc : cs.toList = flat f l) (hl : (flat f l).length = l.length * s) (hm : l.length ≤ maxLen) : OwX f s T w B (.slice (some ⟨b, 0, none⟩) l.length l.length) l :=
  ⟨hl, .inr ⟨b, l.length, cs, rfl, hB, h, Nat.le_refl _, hm, by rw [← Array.length_toList, hc, hl], by rw [hc, List.take_of_length_le (by omega)]⟩⟩
set_option maxRecDepth 100000 in
set_option maxHeartbeats 4000000 in
theorem rright_1 (i f g y : ByteArray) (a d : Int) (t : ByteArray) (w : World) (hi : i.size ≤ maxLen) (_hf : f.size ≤ maxLen) (_hg : g.size ≤ maxLen) (_hy : y.size ≤ maxLen) :
    Calls Try.prog 47 #[.agg #[.int .i64 1, .string i, .string f, .string g, .string y, .int .i64 a, .int .i64 d, .string t]] w fun e w' => e = .returned (.bool (rightB 1 i f g y a d t)) ∧ Below w.heap.size w w' := by
  have Hi := Lib.hid (fun W : World => refIs_any i W hi)
  cases qi : nm i with
  | false =>
    have HR := Lib.hid (show false = rightB 1 i f g y a d t by unfold rightB; rw [qi]; simp)
    rw [qi] at Hi
    clear qi
    have HB1 := Lib.hid (Below.refl w.heap.size w)
    go_enter Try.func47, Try.ntmps47
    have HF2 := Lib.hid (blk_new w (.cells #[.int .i64 1, .string i, .string f, .string g, .string y, .int .i64 a, .int .i64 d, .string t] 85 (0, 0)))
    have HB3 := Lib.hid (HB1.out.alloc HB1.out.size (.cells #[.int .i64 1, .string i, .string f, .string g, .string y, .int .i64 a, .int .i64 d, .string t] 85 (0, 0)))
    clear HB1
    have hc4 : (w.alloc (.cells #[.int .i64 1, .string i, .string f, .string g, .string y, .int .i64 a, .int .i64 d, .string t] 85 (0, 0))).cell? ⟨w.heap.size, 0, none⟩ = some (.int .i64 1) := by rw [cell_of_row _ _ _ _ _ _ HF2.out]; rfl
    have hc5 : (w.alloc (.cells #[.int .i64 1, .string i, .string f, .string g, .string y, .int .i64 a, .int .i64 d, .string t] 85 (0, 0))).cell? ⟨w.heap.size, 1, none⟩ = some (.string i) := by rw [cell_of_row _ _ _ _ _ _ HF2.out]; rfl
    have hc6 : (w.alloc (.cells #[.int .i64 1, .string i, .string f, .string g, .string y, .int .i64 a, .int .i64 d, .string t] 85 (0, 0))).cell? ⟨w.heap.size, 2, none⟩ = some (.string f) := by rw [cell_of_row _ _ _ _ _ _ HF2.out]; rfl
    have hc7 : (w.alloc (.cells #[.int .i64 1, .string i, .string f, .string g, .string y, .int .i64 a, .int .i64 d, .string t] 85 (0, 0))).cell? ⟨w.heap.size, 3, none⟩ = some (.string g) := by rw [cell_of_row _ _ _ _ _ _ HF2.out]; rfl
    have hc8 : (w.alloc (.cells #[.int .i64 1, .string i, .string f, .string g, .string y, .int .i64 a, .int .i64 d, .string t] 85 (0, 0))).cell? ⟨w.heap.size, 4, none⟩ = some (.string y) := by rw [cell_of_row _ _ _ _ _ _ HF2.out]; rfl
    have hc9 : (w.alloc (.cells #[.int .i64 1, .string i, .string f, .string g, .string y, .int .i64 a, .int .i64 d, .string t] 85 (0, 0))).cell? ⟨w.heap.size, 5, none⟩ = some (.int .i64 a) := by rw [cell_of_row _ _ _ _ _ _ HF2.out]; rfl
    have hc10 : (w.alloc (.cells #[.int .i64 1, .string i, .string f, .string g, .string y, .int .i64 a, .int .i64 d, .string t] 85 (0, 0))).cell? ⟨w.heap.size, 6, none⟩ = some (.int .i64 d) := by rw [cell_of_row _ _ _ _ _ _ HF2.out]; rfl
    have hc11 : (w.alloc (.cells #[.int .i64 1, .string i, .string f, .string g, .string y, .int .i64 a, .int .i64 d, .string t] 85 (0, 0))).cell? ⟨w.heap.size, 7, none⟩ = some (.string t) := by rw [cell_of_row _ _ _ _ _ _ HF2.out]; rfl
    go_wp2_with fail
    refine (Hi.out (w.alloc (.cells #[.int .i64 1, .string i, .string f, .string g, .string y, .int .i64 a, .int .i64 d, .string t] 85 (0, 0)))).mono ?_
    rintro e w' ⟨rfl, rfl⟩
    go_wp2_with fail
    clear hc4 hc5 hc6 hc7 hc8 hc9 hc10 hc11
    go_ret
    exact ⟨retBo HR.out, HB3.out⟩
  | true =>
    rw [qi] at Hi
    have HR := Lib.hid (show true = rightB 1 i f g y a d t by unfold rightB; rw [qi]; simp)
    have HB1 := Lib.hid (Below.refl w.heap.size w)
    go_enter Try.func47, Try.ntmps47
    have HF2 := Lib.hid (blk_new w (.cells #[.int .i64 1, .string i, .string f, .string g, .string y, .int .i64 a, .int .i64 d, .string t] 85 (0, 0)))
    have HB3 := Lib.hid (HB1.out.alloc HB1.out.size (.cells #[.int .i64 1, .string i, .string f, .string g, .string y, .int .i64 a, .int .i64 d, .string t] 85 (0, 0)))
    clear HB1
    have hc4 : (w.alloc (.cells #[.int .i64 1, .string i, .string f, .string g, .string y, .int .i64 a, .int .i64 d, .string t] 85 (0, 0))).cell? ⟨w.heap.size, 0, none⟩ = some (.int .i64 1) := by rw [cell_of_row _ _ _ _ _ _ HF2.out]; rfl
    have hc5 : (w.alloc (.cells #[.int .i64 1, .string i, .string f, .string g, .string y, .int .i64 a, .int .i64 d, .string t] 85 (0, 0))).cell? ⟨w.heap.size, 1, none⟩ = some (.string i) := by rw [cell_of_row _ _ _ _ _ _ HF2.out]; rfl
    have hc6 : (w.alloc (.cells #[.int .i64 1, .string i, .string f, .string g, .string y, .int .i64 a, .int .i64 d, .string t] 85 (0, 0))).cell? ⟨w.heap.size, 2, none⟩ = some (.string f) := by rw [cell_of_row _ _ _ _ _ _ HF2.out]; rfl
    have hc7 : (w.alloc (.cells #[.int .i64 1, .string i, .string f, .string g, .string y, .int .i64 a, .int .i64 d, .string t] 85 (0, 0))).cell? ⟨w.heap.size, 3, none⟩ = some (.string g) := by rw [cell_of_row _ _ _ _ _ _ HF2.out]; rfl
    have hc8 : (w.alloc (.cells #[.int .i64 1, .string i, .string f, .string g, .string y, .int .i64 a, .int .i64 d, .string t] 85 (0, 0))).cell? ⟨w.heap.size, 4, none⟩ = some (.string y) := by rw [cell_of_row _ _ _ _ _ _ HF2.out]; rfl
    have hc9 : (w.alloc (.cells #[.int .i64 1, .string i, .string f, .string g, .string y, .int .i64 a, .int .i64 d, .string t] 85 (0, 0))).cell? ⟨w.heap.size, 5, none⟩ = some (.int .i64 a) := by rw [cell_of_row _ _ _ _ _ _ HF2.out]; rfl
    have hc10 : (w.alloc (.cells #[.int .i64 1, .string i, .string f, .string g, .string y, .int .i64 a, .int .i64 d, .string t] 85 (0, 0))).cell? ⟨w.heap.size, 6, none⟩ = some (.int .i64 d) := by rw [cell_of_row _ _ _ _ _ _ HF2.out]; rfl
    have hc11 : (w.alloc (.cells #[.int .i64 1, .string i, .string f, .string g, .string y, .int .i64 a, .int .i64 d, .string t] 85 (0, 0))).cell? ⟨w.heap.size, 7, none⟩ = some (.string t) := by rw [cell_of_row _ _ _ _ _ _ HF2.out]; rfl
    go_wp2_with fail
    refine (Hi.out (w.alloc (.cells #[.int .i64 1, .string i, .string f, .string g, .string y, .int .i64 a, .int .i64 d, .string t] 85 (0, 0)))).mono ?_
    rintro e w' ⟨rfl, rfl⟩
    go_wp2_with fail
    clear hc4 hc5 hc6 hc7 hc8 hc9 hc10 hc11
    go_ret
    exact ⟨retBo HR.out, HB3.out⟩
set_option maxRecDepth 100000 in
set_option maxHeartbeats 4000000 in
theorem rright_2 (i f g y : ByteArray) (a d : Int) (t : ByteArray) (w : World) (hi : i.size ≤ maxLen) (_hf : f.size ≤ maxLen) (_hg : g.size ≤ maxLen) (_hy : y.size ≤ maxLen) :
    Calls Try.prog 47 #[.agg #[.int .i64 2, .string i, .string f, .string g, .string y, .int .i64 a, .int .i64 d, .string t]] w fun e w' => e = .returned (.bool (rightB 2 i f g y a d t)) ∧ Below w.heap.size w w' := by
  have Hi := Lib.hid (fun W : World => refIs_any i W hi)
  cases qi : nm i with
  | false =>
    have HR := Lib.hid (show false = rightB 2 i f g y a d t by unfold rightB; rw [qi]; simp)
    rw [qi] at Hi
    clear qi
    have HB1 := Lib.hid (Below.refl w.heap.size w)
    go_enter Try.func47, Try.ntmps47
    have HF2 := Lib.hid (blk_new w (.cells #[.int .i64 2, .string i, .string f, .string g, .string y, .int .i64 a, .int .i64 d, .string t] 85 (0, 0)))
    have HB3 := Lib.hid (HB1.out.alloc HB1.out.size (.cells #[.int .i64 2, .string i, .string f, .string g, .string y, .int .i64 a, .int .i64 d, .string t] 85 (0, 0)))
    clear HB1
    have hc4 : (w.alloc (.cells #[.int .i64 2, .string i, .string f, .string g, .string y, .int .i64 a, .int .i64 d, .string t] 85 (0, 0))).cell? ⟨w.heap.size, 0, none⟩ = some (.int .i64 2) := by rw [cell_of_row _ _ _ _ _ _ HF2.out]; rfl
    have hc5 : (w.alloc (.cells #[.int .i64 2, .string i, .string f, .string g, .string y, .int .i64 a, .int .i64 d, .string t] 85 (0, 0))).cell? ⟨w.heap.size, 1, none⟩ = some (.string i) := by rw [cell_of_row _ _ _ _ _ _ HF2.out]; rfl
    have hc6 : (w.alloc (.cells #[.int .i64 2, .string i, .string f, .string g, .string y, .int .i64 a, .int .i64 d, .string t] 85 (0, 0))).cell? ⟨w.heap.size, 2, none⟩ = some (.string f) := by rw [cell_of_row _ _ _ _ _ _ HF2.out]; rfl
    have hc7 : (w.alloc (.cells #[.int .i64 2, .string i, .string f, .string g, .string y, .int .i64 a, .int .i64 d, .string t] 85 (0, 0))).cell? ⟨w.heap.size, 3, none⟩ = some (.string g) := by rw [cell_of_row _ _ _ _ _ _ HF2.out]; rfl
    have hc8 : (w.alloc (.cells #[.int .i64 2, .string i, .string f, .string g, .string y, .int .i64 a, .int .i64 d, .string t] 85 (0, 0))).cell? ⟨w.heap.size, 4, none⟩ = some (.string y) := by rw [cell_of_row _ _ _ _ _ _ HF2.out]; rfl
    have hc9 : (w.alloc (.cells #[.int .i64 2, .string i, .string f, .string g, .string y, .int .i64 a, .int .i64 d, .string t] 85 (0, 0))).cell? ⟨w.heap.size, 5, none⟩ = some (.int .i64 a) := by rw [cell_of_row _ _ _ _ _ _ HF2.out]; rfl
    have hc10 : (w.alloc (.cells #[.int .i64 2, .string i, .string f, .string g, .string y, .int .i64 a, .int .i64 d, .string t] 85 (0, 0))).cell? ⟨w.heap.size, 6, none⟩ = some (.int .i64 d) := by rw [cell_of_row _ _ _ _ _ _ HF2.out]; rfl
    have hc11 : (w.alloc (.cells #[.int .i64 2, .string i, .string f, .string g, .string y, .int .i64 a, .int .i64 d, .string t] 85 (0, 0))).cell? ⟨w.heap.size, 7, none⟩ = some (.string t) := by rw [cell_of_row _ _ _ _ _ _ HF2.out]; rfl
    go_wp2_with fail
    refine (Hi.out (w.alloc (.cells #[.int .i64 2, .string i, .string f, .string g, .string y, .int .i64 a, .int .i64 d, .string t] 85 (0, 0)))).mono ?_
    rintro e w' ⟨rfl, rfl⟩
    go_wp2_with fail
    clear hc4 hc5 hc6 hc7 hc8 hc9 hc10 hc11
    go_ret
    exact ⟨retBo HR.out, HB3.out⟩
  | true =>
    rw [qi] at Hi
    have HR := Lib.hid (show true = rightB 2 i f g y a d t by unfold rightB; rw [qi]; simp)
    have HB1 := Lib.hid (Below.refl w.heap.size w)
    go_enter Try.func47, Try.ntmps47
    have HF2 := Lib.hid (blk_new w (.cells #[.int .i64 2, .string i, .string f, .string g, .string y, .int .i64 a, .int .i64 d, .string t] 85 (0, 0)))
    have HB3 := Lib.hid (HB1.out.alloc HB1.out.size (.cells #[.int .i64 2, .string i, .string f, .string g, .string y, .int .i64 a, .int .i64 d, .string t] 85 (0, 0)))
    clear HB1
    have hc4 : (w.alloc (.cells #[.int .i64 2, .string i, .string f, .string g, .string y, .int .i64 a, .int .i64 d, .string t] 85 (0, 0))).cell? ⟨w.heap.size, 0, none⟩ = some (.int .i64 2) := by rw [cell_of_row _ _ _ _ _ _ HF2.out]; rfl
    have hc5 : (w.alloc (.cells #[.int .i64 2, .string i, .string f, .string g, .string y, .int .i64 a, .int .i64 d, .string t] 85 (0, 0))).cell? ⟨w.heap.size, 1, none⟩ = some (.string i) := by rw [cell_of_row _ _ _ _ _ _ HF2.out]; rfl
    have hc6 : (w.alloc (.cells #[.int .i64 2, .string i, .string f, .string g, .string y, .int .i64 a, .int .i64 d, .string t] 85 (0, 0))).cell? ⟨w.heap.size, 2, none⟩ = some (.string f) := by rw [cell_of_row _ _ _ _ _ _ HF2.out]; rfl
    have hc7 : (w.alloc (.cells #[.int .i64 2, .string i, .string f, .string g, .string y, .int .i64 a, .int .i64 d, .string t] 85 (0, 0))).cell? ⟨w.heap.size, 3, none⟩ = some (.string g) := by rw [cell_of_row _ _ _ _ _ _ HF2.out]; rfl
    have hc8 : (w.alloc (.cells #[.int .i64 2, .string i, .string f, .string g, .string y, .int .i64 a, .int .i64 d, .string t] 85 (0, 0))).cell? ⟨w.heap.size, 4, none⟩ = some (.string y) := by rw [cell_of_row _ _ _ _ _ _ HF2.out]; rfl
    have hc9 : (w.alloc (.cells #[.int .i64 2, .string i, .string f, .string g, .string y, .int .i64 a, .int .i64 d, .string t] 85 (0, 0))).cell? ⟨w.heap.size, 5, none⟩ = some (.int .i64 a) := by rw [cell_of_row _ _ _ _ _ _ HF2.out]; rfl
    have hc10 : (w.alloc (.cells #[.int .i64 2, .string i, .string f, .string g, .string y, .int .i64 a, .int .i64 d, .string t] 85 (0, 0))).cell? ⟨w.heap.size, 6, none⟩ = some (.int .i64 d) := by rw [cell_of_row _ _ _ _ _ _ HF2.out]; rfl
    have hc11 : (w.alloc (.cells #[.int .i64 2, .string i, .string f, .string g, .string y, .int .i64 a, .int .i64 d, .string t] 85 (0, 0))).cell? ⟨w.heap.size, 7, none⟩ = some (.string t) := by rw [cell_of_row _ _ _ _ _ _ HF2.out]; rfl
    go_wp2_with fail
    refine (Hi.out (w.alloc (.cells #[.int .i64 2, .string i, .string f, .string g, .string y, .int .i64 a, .int .i64 d, .string t] 85 (0, 0)))).mono ?_
    rintro e w' ⟨rfl, rfl⟩
    go_wp2_with fail
    clear hc4 hc5 hc6 hc7 hc8 hc9 hc10 hc11
    go_ret
    exact ⟨retBo HR.out, HB3.out⟩
set_option maxRecDepth 100000 in
set_option maxHeartbeats 4000000 in
theorem rright_3 (i f g y : ByteArray) (a d : Int) (t : ByteArray) (w : World) (hi : i.size ≤ maxLen) (hf : f.size ≤ maxLen) (hg : g.size ≤ maxLen) (_hy : y.size ≤ maxLen) :
    Calls Try.prog 47 #[.agg #[.int .i64 3, .string i, .string f, .string g, .string y, .int .i64 a, .int .i64 d, .string t]] w fun e w' => e = .returned (.bool (rightB 3 i f g y a d t)) ∧ Below w.heap.size w w' := by
  have Hi := Lib.hid (fun W : World => refIs_any i W hi)
  have Hf := Lib.hid (fun W : World => refIs_any f W hf)
  have Hg := Lib.hid (fun W : World => refIs_any g W hg)
  cases qi : nm i with
  | false =>
    have HR := Lib.hid (show false = rightB 3 i f g y a d t by unfold rightB; rw [qi]; simp)
    rw [qi] at Hi
    clear qi
    have HB1 := Lib.hid (Below.refl w.heap.size w)
    go_enter Try.func47, Try.ntmps47
    have HF2 := Lib.hid (blk_new w (.cells #[.int .i64 3, .string i, .string f, .string g, .string y, .int .i64 a, .int .i64 d, .string t] 85 (0, 0)))
    have HB3 := Lib.hid (HB1.out.alloc HB1.out.size (.cells #[.int .i64 3, .string i, .string f, .string g, .string y, .int .i64 a, .int .i64 d, .string t] 85 (0, 0)))
    clear HB1
    have hc4 : (w.alloc (.cells #[.int .i64 3, .string i, .string f, .string g, .string y, .int .i64 a, .int .i64 d, .string t] 85 (0, 0))).cell? ⟨w.heap.size, 0, none⟩ = some (.int .i64 3) := by rw [cell_of_row _ _ _ _ _ _ HF2.out]; rfl
    have hc5 : (w.alloc (.cells #[.int .i64 3, .string i, .string f, .string g, .string y, .int .i64 a, .int .i64 d, .string t] 85 (0, 0))).cell? ⟨w.heap.size, 1, none⟩ = some (.string i) := by rw [cell_of_row _ _ _ _ _ _ HF2.out]; rfl
    have hc6 : (w.alloc (.cells #[.int .i64 3, .string i, .string f, .string g, .string y, .int .i64 a, .int .i64 d, .string t] 85 (0, 0))).cell? ⟨w.heap.size, 2, none⟩ = some (.string f) := by rw [cell_of_row _ _ _ _ _ _ HF2.out]; rfl
    have hc7 : (w.alloc (.cells #[.int .i64 3, .string i, .string f, .string g, .string y, .int .i64 a, .int .i64 d, .string t] 85 (0, 0))).cell? ⟨w.heap.size, 3, none⟩ = some (.string g) := by rw [cell_of_row _ _ _ _ _ _ HF2.out]; rfl
    have hc8 : (w.alloc (.cells #[.int .i64 3, .string i, .string f, .string g, .string y, .int .i64 a, .int .i64 d, .string t] 85 (0, 0))).cell? ⟨w.heap.size, 4, none⟩ = some (.string y) := by rw [cell_of_row _ _ _ _ _ _ HF2.out]; rfl
    have hc9 : (w.alloc (.cells #[.int .i64 3, .string i, .string f, .string g, .string y, .int .i64 a, .int .i64 d, .string t] 85 (0, 0))).cell? ⟨w.heap.size, 5, none⟩ = some (.int .i64 a) := by rw [cell_of_row _ _ _ _ _ _ HF2.out]; rfl
    have hc10 : (w.alloc (.cells #[.int .i64 3, .string i, .string f, .string g, .string y, .int .i64 a, .int .i64 d, .string t] 85 (0, 0))).cell? ⟨w.heap.size, 6, none⟩ = some (.int .i64 d) := by rw [cell_of_row _ _ _ _ _ _ HF2.out]; rfl
    have hc11 : (w.alloc (.cells #[.int .i64 3, .string i, .string f, .string g, .string y, .int .i64 a, .int .i64 d, .string t] 85 (0, 0))).cell? ⟨w.heap.size, 7, none⟩ = some (.string t) := by rw [cell_of_row _ _ _ _ _ _ HF2.out]; rfl
    go_wp2_with fail
    refine (Hi.out (w.alloc (.cells #[.int .i64 3, .string i, .string f, .string g, .string y, .int .i64 a, .int .i64 d, .string t] 85 (0, 0)))).mono ?_
    rintro e w' ⟨rfl, rfl⟩
    go_wp2_with fail
    clear hc4 hc5 hc6 hc7 hc8 hc9 hc10 hc11
    go_ret
    exact ⟨retBo HR.out, HB3.out⟩
  | true =>
    rw [qi] at Hi
    cases qf : nm f with
    | false =>
      have HR := Lib.hid (show false = rightB 3 i f g y a d t by unfold rightB; rw [qi]; rw [qf]; simp)
      rw [qf] at Hf
      clear qf
      have HB1 := Lib.hid (Below.refl w.heap.size w)
      go_enter Try.func47, Try.ntmps47
      have HF2 := Lib.hid (blk_new w (.cells #[.int .i64 3, .string i, .string f, .string g, .string y, .int .i64 a, .int .i64 d, .string t] 85 (0, 0)))
      have HB3 := Lib.hid (HB1.out.alloc HB1.out.size (.cells #[.int .i64 3, .string i, .string f, .string g, .string y, .int .i64 a, .int .i64 d, .string t] 85 (0, 0)))
      clear HB1
      have hc4 : (w.alloc (.cells #[.int .i64 3, .string i, .string f, .string g, .string y, .int .i64 a, .int .i64 d, .string t] 85 (0, 0))).cell? ⟨w.heap.size, 0, none⟩ = some (.int .i64 3) := by rw [cell_of_row _ _ _ _ _ _ HF2.out]; rfl
      have hc5 : (w.alloc (.cells #[.int .i64 3, .string i, .string f, .string g, .string y, .int .i64 a, .int .i64 d, .string t] 85 (0, 0))).cell? ⟨w.heap.size, 1, none⟩ = some (.string i) := by rw [cell_of_row _ _ _ _ _ _ HF2.out]; rfl
      have hc6 : (w.alloc (.cells #[.int .i64 3, .string i, .string f, .string g, .string y, .int .i64 a, .int .i64 d, .string t] 85 (0, 0))).cell? ⟨w.heap.size, 2, none⟩ = some (.string f) := by rw [cell_of_row _ _ _ _ _ _ HF2.out]; rfl
      have hc7 : (w.alloc (.cells #[.int .i64 3, .string i, .string f, .string g, .string y, .int .i64 a, .int .i64 d, .string t] 85 (0, 0))).cell? ⟨w.heap.size, 3, none⟩ = some (.string g) := by rw [cell_of_row _ _ _ _ _ _ HF2.out]; rfl
      have hc8 : (w.alloc (.cells #[.int .i64 3, .string i, .string f, .string g, .string y, .int .i64 a, .int .i64 d, .string t] 85 (0, 0))).cell? ⟨w.heap.size, 4, none⟩ = some (.string y) := by rw [cell_of_row _ _ _ _ _ _ HF2.out]; rfl
      have hc9 : (w.alloc (.cells #[.int .i64 3, .string i, .string f, .string g, .string y, .int .i64 a, .int .i64 d, .string t] 85 (0, 0))).cell? ⟨w.heap.size, 5, none⟩ = some (.int .i64 a) := by rw [cell_of_row _ _ _ _ _ _ HF2.out]; rfl
      have hc10 : (w.alloc (.cells #[.int .i64 3, .string i, .string f, .string g, .string y, .int .i64 a, .int .i64 d, .string t] 85 (0, 0))).cell? ⟨w.heap.size, 6, none⟩ = some (.int .i64 d) := by rw [cell_of_row _ _ _ _ _ _ HF2.out]; rfl
      have hc11 : (w.alloc (.cells #[.int .i64 3, .string i, .string f, .string g, .string y, .int .i64 a, .int .i64 d, .string t] 85 (0, 0))).cell? ⟨w.heap.size, 7, none⟩ = some (.string t) := by rw [cell_of_row _ _ _ _ _ _ HF2.out]; rfl
      go_wp2_with fail
      refine (Hi.out (w.alloc (.cells #[.int .i64 3, .string i, .string f, .string g, .string y, .int .i64 a, .int .i64 d, .string t] 85 (0, 0)))).mono ?_
      rintro e w' ⟨rfl, rfl⟩
      go_wp2_with fail
      refine (Hf.out (w.alloc (.cells #[.int .i64 3, .string i, .string f, .string g, .string y, .int .i64 a, .int .i64 d, .string t] 85 (0, 0)))).mono ?_
      rintro e w' ⟨rfl, rfl⟩
      go_wp2_with fail
      clear hc4 hc5 hc6 hc7 hc8 hc9 hc10 hc11
      go_ret
      exact ⟨retBo HR.out, HB3.out⟩
    | true =>
      rw [qf] at Hf
      cases qg : nm g with
      | false =>
        have HR := Lib.hid (show false = rightB 3 i f g y a d t by unfold rightB; rw [qi]; rw [qf]; rw [qg]; simp)
        rw [qg] at Hg
        clear qg
        have HB1 := Lib.hid (Below.refl w.heap.size w)
        go_enter Try.func47, Try.ntmps47
        have HF2 := Lib.hid (blk_new w (.cells #[.int .i64 3, .string i, .string f, .string g, .string y, .int .i64 a, .int .i64 d, .string t] 85 (0, 0)))
        have HB3 := Lib.hid (HB1.out.alloc HB1.out.size (.cells #[.int .i64 3, .string i, .string f, .string g, .string y, .int .i64 a, .int .i64 d, .string t] 85 (0, 0)))
        clear HB1
        have hc4 : (w.alloc (.cells #[.int .i64 3, .string i, .string f, .string g, .string y, .int .i64 a, .int .i64 d, .string t] 85 (0, 0))).cell? ⟨w.heap.size, 0, none⟩ = some (.int .i64 3) := by rw [cell_of_row _ _ _ _ _ _ HF2.out]; rfl
        have hc5 : (w.alloc (.cells #[.int .i64 3, .string i, .string f, .string g, .string y, .int .i64 a, .int .i64 d, .string t] 85 (0, 0))).cell? ⟨w.heap.size, 1, none⟩ = some (.string i) := by rw [cell_of_row _ _ _ _ _ _ HF2.out]; rfl
        have hc6 : (w.alloc (.cells #[.int .i64 3, .string i, .string f, .string g, .string y, .int .i64 a, .int .i64 d, .string t] 85 (0, 0))).cell? ⟨w.heap.size, 2, none⟩ = some (.string f) := by rw [cell_of_row _ _ _ _ _ _ HF2.out]; rfl
        have hc7 : (w.alloc (.cells #[.int .i64 3, .string i, .string f, .string g, .string y, .int .i64 a, .int .i64 d, .string t] 85 (0, 0))).cell? ⟨w.heap.size, 3, none⟩ = some (.string g) := by rw [cell_of_row _ _ _ _ _ _ HF2.out]; rfl
        have hc8 : (w.alloc (.cells #[.int .i64 3, .string i, .string f, .string g, .string y, .int .i64 a, .int .i64 d, .string t] 85 (0, 0))).cell? ⟨w.heap.size, 4, none⟩ = some (.string y) := by rw [cell_of_row _ _ _ _ _ _ HF2.out]; rfl
        have hc9 : (w.alloc (.cells #[.int .i64 3, .string i, .string f, .string g, .string y, .int .i64 a, .int .i64 d, .string t] 85 (0, 0))).cell? ⟨w.heap.size, 5, none⟩ = some (.int .i64 a) := by rw [cell_of_row _ _ _ _ _ _ HF2.out]; rfl
        have hc10 : (w.alloc (.cells #[.int .i64 3, .string i, .string f, .string g, .string y, .int .i64 a, .int .i64 d, .string t] 85 (0, 0))).cell? ⟨w.heap.size, 6, none⟩ = some (.int .i64 d) := by rw [cell_of_row _ _ _ _ _ _ HF2.out]; rfl
        have hc11 : (w.alloc (.cells #[.int .i64 3, .string i, .string f, .string g, .string y, .int .i64 a, .int .i64 d, .string t] 85 (0, 0))).cell? ⟨w.heap.size, 7, none⟩ = some (.string t) := by rw [cell_of_row _ _ _ _ _ _ HF2.out]; rfl
        go_wp2_with fail
        refine (Hi.out (w.alloc (.cells #[.int .i64 3, .string i, .string f, .string g, .string y, .int .i64 a, .int .i64 d, .string t] 85 (0, 0)))).mono ?_
        rintro e w' ⟨rfl, rfl⟩
        go_wp2_with fail
        refine (Hf.out (w.alloc (.cells #[.int .i64 3, .string i, .string f, .string g, .string y, .int .i64 a, .int .i64 d, .string t] 85 (0, 0)))).mono ?_
        rintro e w' ⟨rfl, rfl⟩
        go_wp2_with fail
        refine (Hg.out (w.alloc (.cells #[.int .i64 3, .string i, .string f, .string g, .string y, .int .i64 a, .int .i64 d, .string t] 85 (0, 0)))).mono ?_
        rintro e w' ⟨rfl, rfl⟩
        go_wp2_with fail
        clear hc4 hc5 hc6 hc7 hc8 hc9 hc10 hc11
        go_ret
        exact ⟨retBo HR.out, HB3.out⟩
      | true =>
        rw [qg] at Hg
        have HR := Lib.hid (show true = rightB 3 i f g y a d t by unfold rightB; rw [qi]; rw [qf]; rw [qg]; simp)
        have HB1 := Lib.hid (Below.refl w.heap.size w)
        go_enter Try.func47, Try.ntmps47
        have HF2 := Lib.hid (blk_new w (.cells #[.int .i64 3, .string i, .string f, .string g, .string y, .int .i64 a, .int .i64 d, .string t] 85 (0, 0)))
        have HB3 := Lib.hid (HB1.out.alloc HB1.out.size (.cells #[.int .i64 3, .string i, .string f, .string g, .string y, .int .i64 a, .int .i64 d, .string t] 85 (0, 0)))
        clear HB1
        have hc4 : (w.alloc (.cells #[.int .i64 3, .string i, .string f, .string g, .string y, .int .i64 a, .int .i64 d, .string t] 85 (0, 0))).cell? ⟨w.heap.size, 0, none⟩ = some (.int .i64 3) := by rw [cell_of_row _ _ _ _ _ _ HF2.out]; rfl
        have hc5 : (w.alloc (.cells #[.int .i64 3, .string i, .string f, .string g, .string y, .int .i64 a, .int .i64 d, .string t] 85 (0, 0))).cell? ⟨w.heap.size, 1, none⟩ = some (.string i) := by rw [cell_of_row _ _ _ _ _ _ HF2.out]; rfl
        have hc6 : (w.alloc (.cells #[.int .i64 3, .string i, .string f, .string g, .string y, .int .i64 a, .int .i64 d, .string t] 85 (0, 0))).cell? ⟨w.heap.size, 2, none⟩ = some (.string f) := by rw [cell_of_row _ _ _ _ _ _ HF2.out]; rfl
        have hc7 : (w.alloc (.cells #[.int .i64 3, .string i, .string f, .string g, .string y, .int .i64 a, .int .i64 d, .string t] 85 (0, 0))).cell? ⟨w.heap.size, 3, none⟩ = some (.string g) := by rw [cell_of_row _ _ _ _ _ _ HF2.out]; rfl
        have hc8 : (w.alloc (.cells #[.int .i64 3, .string i, .string f, .string g, .string y, .int .i64 a, .int .i64 d, .string t] 85 (0, 0))).cell? ⟨w.heap.size, 4, none⟩ = some (.string y) := by rw [cell_of_row _ _ _ _ _ _ HF2.out]; rfl
        have hc9 : (w.alloc (.cells #[.int .i64 3, .string i, .string f, .string g, .string y, .int .i64 a, .int .i64 d, .string t] 85 (0, 0))).cell? ⟨w.heap.size, 5, none⟩ = some (.int .i64 a) := by rw [cell_of_row _ _ _ _ _ _ HF2.out]; rfl
        have hc10 : (w.alloc (.cells #[.int .i64 3, .string i, .string f, .string g, .string y, .int .i64 a, .int .i64 d, .string t] 85 (0, 0))).cell? ⟨w.heap.size, 6, none⟩ = some (.int .i64 d) := by rw [cell_of_row _ _ _ _ _ _ HF2.out]; rfl
        have hc11 : (w.alloc (.cells #[.int .i64 3, .string i, .string f, .string g, .string y, .int .i64 a, .int .i64 d, .string t] 85 (0, 0))).cell? ⟨w.heap.size, 7, none⟩ = some (.string t) := by rw [cell_of_row _ _ _ _ _ _ HF2.out]; rfl
        go_wp2_with fail
        refine (Hi.out (w.alloc (.cells #[.int .i64 3, .string i, .string f, .string g, .string y, .int .i64 a, .int .i64 d, .string t] 85 (0, 0)))).mono ?_
        rintro e w' ⟨rfl, rfl⟩
        go_wp2_with fail
        refine (Hf.out (w.alloc (.cells #[.int .i64 3, .string i, .string f, .string g, .string y, .int .i64 a, .int .i64 d, .string t] 85 (0, 0)))).mono ?_
        rintro e w' ⟨rfl, rfl⟩
        go_wp2_with fail
        refine (Hg.out (w.alloc (.cells #[.int .i64 3, .string i, .string f, .string g, .string y, .int .i64 a, .int .i64 d, .string t] 85 (0, 0)))).mono ?_
        rintro e w' ⟨rfl, rfl⟩
        go_wp2_with fail
        clear hc4 hc5 hc6 hc7 hc8 hc9 hc10 hc11
        go_ret
        exact ⟨retBo HR.out, HB3.out⟩
set_option maxRecDepth 100000 in
set_option maxHeartbeats 4000000 in
theorem rright_4 (i f g y : ByteArray) (a d : Int) (t : ByteArray) (w : World) (hi : i.size ≤ maxLen) (_hf : f.size ≤ maxLen) (_hg : g.size ≤ maxLen) (_hy : y.size ≤ maxLen) :
    Calls Try.prog 47 #[.agg #[.int .i64 4, .string i, .string f, .string g, .string y, .int .i64 a, .int .i64 d, .string t]] w fun e w' => e = .returned (.bool (rightB 4 i f g y a d t)) ∧ Below w.heap.size w w' := by
  have Hi := Lib.hid (fun W : World => refIs_any i W hi)
  cases qi : nm i with
  | false =>
    have HR := Lib.hid (show false = rightB 4 i f g y a d t by unfold rightB; rw [qi]; simp)
    rw [qi] at Hi
    clear qi
    have HB1 := Lib.hid (Below.refl w.heap.size w)
    go_enter Try.func47, Try.ntmps47
    have HF2 := Lib.hid (blk_new w (.cells #[.int .i64 4, .string i, .string f, .string g, .string y, .int .i64 a, .int .i64 d, .string t] 85 (0, 0)))
    have HB3 := Lib.hid (HB1.out.alloc HB1.out.size (.cells #[.int .i64 4, .string i, .string f, .string g, .string y, .int .i64 a, .int .i64 d, .string t] 85 (0, 0)))
    clear HB1
    have hc4 : (w.alloc (.cells #[.int .i64 4, .string i, .string f, .string g, .string y, .int .i64 a, .int .i64 d, .string t] 85 (0, 0))).cell? ⟨w.heap.size, 0, none⟩ = some (.int .i64 4) := by rw [cell_of_row _ _ _ _ _ _ HF2.out]; rfl
    have hc5 : (w.alloc (.cells #[.int .i64 4, .string i, .string f, .string g, .string y, .int .i64 a, .int .i64 d, .string t] 85 (0, 0))).cell? ⟨w.heap.size, 1, none⟩ = some (.string i) := by rw [cell_of_row _ _ _ _ _ _ HF2.out]; rfl
    have hc6 : (w.alloc (.cells #[.int .i64 4, .string i, .string f, .string g, .string y, .int .i64 a, .int .i64 d, .string t] 85 (0, 0))).cell? ⟨w.heap.size, 2, none⟩ = some (.string f) := by rw [cell_of_row _ _ _ _ _ _ HF2.out]; rfl
    have hc7 : (w.alloc (.cells #[.int .i64 4, .string i, .string f, .string g, .string y, .int .i64 a, .int .i64 d, .string t] 85 (0, 0))).cell? ⟨w.heap.size, 3, none⟩ = some (.string g) := by rw [cell_of_row _ _ _ _ _ _ HF2.out]; rfl
    have hc8 : (w.alloc (.cells #[.int .i64 4, .string i, .string f, .string g, .string y, .int .i64 a, .int .i64 d, .string t] 85 (0, 0))).cell? ⟨w.heap.size, 4, none⟩ = some (.string y) := by rw [cell_of_row _ _ _ _ _ _ HF2.out]; rfl
    have hc9 : (w.alloc (.cells #[.int .i64 4, .string i, .string f, .string g, .string y, .int .i64 a, .int .i64 d, .string t] 85 (0, 0))).cell? ⟨w.heap.size, 5, none⟩ = some (.int .i64 a) := by rw [cell_of_row _ _ _ _ _ _ HF2.out]; rfl
    have hc10 : (w.alloc (.cells #[.int .i64 4, .string i, .string f, .string g, .string y, .int .i64 a, .int .i64 d, .string t] 85 (0, 0))).cell? ⟨w.heap.size, 6, none⟩ = some (.int .i64 d) := by rw [cell_of_row _ _ _ _ _ _ HF2.out]; rfl
    have hc11 : (w.alloc (.cells #[.int .i64 4, .string i, .string f, .string g, .string y, .int .i64 a, .int .i64 d, .string t] 85 (0, 0))).cell? ⟨w.heap.size, 7, none⟩ = some (.string t) := by rw [cell_of_row _ _ _ _ _ _ HF2.out]; rfl
    go_wp2_with fail
    refine (Hi.out (w.alloc (.cells #[.int .i64 4, .string i, .string f, .string g, .string y, .int .i64 a, .int .i64 d, .string t] 85 (0, 0)))).mono ?_
    rintro e w' ⟨rfl, rfl⟩
    go_wp2_with fail
    clear hc4 hc5 hc6 hc7 hc8 hc9 hc10 hc11
    go_ret
    exact ⟨retBo HR.out, HB3.out⟩
  | true =>
    rw [qi] at Hi
    have HR := Lib.hid (show true = rightB 4 i f g y a d t by unfold rightB; rw [qi]; simp)
    have HB1 := Lib.hid (Below.refl w.heap.size w)
    go_enter Try.func47, Try.ntmps47
    have HF2 := Lib.hid (blk_new w (.cells #[.int .i64 4, .string i, .string f, .string g, .string y, .int .i64 a, .int .i64 d, .string t] 85 (0, 0)))
    have HB3 := Lib.hid (HB1.out.alloc HB1.out.size (.cells #[.int .i64 4, .string i, .string f, .string g, .string y, .int .i64 a, .int .i64 d, .string t] 85 (0, 0)))
    clear HB1
    have hc4 : (w.alloc (.cells #[.int .i64 4, .string i, .string f, .string g, .string y, .int .i64 a, .int .i64 d, .string t] 85 (0, 0))).cell? ⟨w.heap.size, 0, none⟩ = some (.int .i64 4) := by rw [cell_of_row _ _ _ _ _ _ HF2.out]; rfl
    have hc5 : (w.alloc (.cells #[.int .i64 4, .string i, .string f, .string g, .string y, .int .i64 a, .int .i64 d, .string t] 85 (0, 0))).cell? ⟨w.heap.size, 1, none⟩ = some (.string i) := by rw [cell_of_row _ _ _ _ _ _ HF2.out]; rfl
    have hc6 : (w.alloc (.cells #[.int .i64 4, .string i, .string f, .string g, .string y, .int .i64 a, .int .i64 d, .string t] 85 (0, 0))).cell? ⟨w.heap.size, 2, none⟩ = some (.string f) := by rw [cell_of_row _ _ _ _ _ _ HF2.out]; rfl
    have hc7 : (w.alloc (.cells #[.int .i64 4, .string i, .string f, .string g, .string y, .int .i64 a, .int .i64 d, .string t] 85 (0, 0))).cell? ⟨w.heap.size, 3, none⟩ = some (.string g) := by rw [cell_of_row _ _ _ _ _ _ HF2.out]; rfl
    have hc8 : (w.alloc (.cells #[.int .i64 4, .string i, .string f, .string g, .string y, .int .i64 a, .int .i64 d, .string t] 85 (0, 0))).cell? ⟨w.heap.size, 4, none⟩ = some (.string y) := by rw [cell_of_row _ _ _ _ _ _ HF2.out]; rfl
    have hc9 : (w.alloc (.cells #[.int .i64 4, .string i, .string f, .string g, .string y, .int .i64 a, .int .i64 d, .string t] 85 (0, 0))).cell? ⟨w.heap.size, 5, none⟩ = some (.int .i64 a) := by rw [cell_of_row _ _ _ _ _ _ HF2.out]; rfl
    have hc10 : (w.alloc (.cells #[.int .i64 4, .string i, .string f, .string g, .string y, .int .i64 a, .int .i64 d, .string t] 85 (0, 0))).cell? ⟨w.heap.size, 6, none⟩ = some (.int .i64 d) := by rw [cell_of_row _ _ _ _ _ _ HF2.out]; rfl
    have hc11 : (w.alloc (.cells #[.int .i64 4, .string i, .string f, .string g, .string y, .int .i64 a, .int .i64 d, .string t] 85 (0, 0))).cell? ⟨w.heap.size, 7, none⟩ = some (.string t) := by rw [cell_of_row _ _ _ _ _ _ HF2.out]; rfl
    go_wp2_with fail
    refine (Hi.out (w.alloc (.cells #[.int .i64 4, .string i, .string f, .string g, .string y, .int .i64 a, .int .i64 d, .string t] 85 (0, 0)))).mono ?_
    rintro e w' ⟨rfl, rfl⟩
    go_wp2_with fail
    clear hc4 hc5 hc6 hc7 hc8 hc9 hc10 hc11
    go_ret
    exact ⟨retBo HR.out, HB3.out⟩
set_option maxRecDepth 100000 in
set_option maxHeartbeats 4000000 in
theorem rright_5 (i f g y : ByteArray) (a d : Int) (t : ByteArray) (w : World) (hi : i.size ≤ maxLen) (_hf : f.size ≤ maxLen) (_hg : g.size ≤ maxLen) (hy : y.size ≤ maxLen) :
    Calls Try.prog 47 #[.agg #[.int .i64 5, .string i, .string f, .string g, .string y, .int .i64 a, .int .i64 d, .string t]] w fun e w' => e = .returned (.bool (rightB 5 i f g y a d t)) ∧ Below w.heap.size w w' := by
  have Hi := Lib.hid (fun W : World => refIs_any i W hi)
  have Hy := Lib.hid (fun W : World => refIs_any y W hy)
  cases qi : nm i with
  | false =>
    have HR := Lib.hid (show false = rightB 5 i f g y a d t by unfold rightB; rw [qi]; simp)
    rw [qi] at Hi
    clear qi
    have HB1 := Lib.hid (Below.refl w.heap.size w)
    go_enter Try.func47, Try.ntmps47
    have HF2 := Lib.hid (blk_new w (.cells #[.int .i64 5, .string i, .string f, .string g, .string y, .int .i64 a, .int .i64 d, .string t] 85 (0, 0)))
    have HB3 := Lib.hid (HB1.out.alloc HB1.out.size (.cells #[.int .i64 5, .string i, .string f, .string g, .string y, .int .i64 a, .int .i64 d, .string t] 85 (0, 0)))
    clear HB1
    have hc4 : (w.alloc (.cells #[.int .i64 5, .string i, .string f, .string g, .string y, .int .i64 a, .int .i64 d, .string t] 85 (0, 0))).cell? ⟨w.heap.size, 0, none⟩ = some (.int .i64 5) := by rw [cell_of_row _ _ _ _ _ _ HF2.out]; rfl
    have hc5 : (w.alloc (.cells #[.int .i64 5, .string i, .string f, .string g, .string y, .int .i64 a, .int .i64 d, .string t] 85 (0, 0))).cell? ⟨w.heap.size, 1, none⟩ = some (.string i) := by rw [cell_of_row _ _ _ _ _ _ HF2.out]; rfl
    have hc6 : (w.alloc (.cells #[.int .i64 5, .string i, .string f, .string g, .string y, .int .i64 a, .int .i64 d, .string t] 85 (0, 0))).cell? ⟨w.heap.size, 2, none⟩ = some (.string f) := by rw [cell_of_row _ _ _ _ _ _ HF2.out]; rfl
    have hc7 : (w.alloc (.cells #[.int .i64 5, .string i, .string f, .string g, .string y, .int .i64 a, .int .i64 d, .string t] 85 (0, 0))).cell? ⟨w.heap.size, 3, none⟩ = some (.string g) := by rw [cell_of_row _ _ _ _ _ _ HF2.out]; rfl
    have hc8 : (w.alloc (.cells #[.int .i64 5, .string i, .string f, .string g, .string y, .int .i64 a, .int .i64 d, .string t] 85 (0, 0))).cell? ⟨w.heap.size, 4, none⟩ = some (.string y) := by rw [cell_of_row _ _ _ _ _ _ HF2.out]; rfl
    have hc9 : (w.alloc (.cells #[.int .i64 5, .string i, .string f, .string g, .string y, .int .i64 a, .int .i64 d, .string t] 85 (0, 0))).cell? ⟨w.heap.size, 5, none⟩ = some (.int .i64 a) := by rw [cell_of_row _ _ _ _ _ _ HF2.out]; rfl
    have hc10 : (w.alloc (.cells #[.int .i64 5, .string i, .string f, .string g, .string y, .int .i64 a, .int .i64 d, .string t] 85 (0, 0))).cell? ⟨w.heap.size, 6, none⟩ = some (.int .i64 d) := by rw [cell_of_row _ _ _ _ _ _ HF2.out]; rfl
    have hc11 : (w.alloc (.cells #[.int .i64 5, .string i, .string f, .string g, .string y, .int .i64 a, .int .i64 d, .string t] 85 (0, 0))).cell? ⟨w.heap.size, 7, none⟩ = some (.string t) := by rw [cell_of_row _ _ _ _ _ _ HF2.out]; rfl
    go_wp2_with fail
    refine (Hi.out (w.alloc (.cells #[.int .i64 5, .string i, .string f, .string g, .string y, .int .i64 a, .int .i64 d, .string t] 85 (0, 0)))).mono ?_
    rintro e w' ⟨rfl, rfl⟩
    go_wp2_with fail
    clear hc4 hc5 hc6 hc7 hc8 hc9 hc10 hc11
    go_ret
    exact ⟨retBo HR.out, HB3.out⟩
  | true =>
    rw [qi] at Hi
    cases qy : nm y with
    | false =>
      have HR := Lib.hid (show false = rightB 5 i f g y a d t by unfold rightB; rw [qi]; rw [qy]; simp)
      rw [qy] at Hy
      clear qy
      have HB1 := Lib.hid (Below.refl w.heap.size w)
      go_enter Try.func47, Try.ntmps47
      have HF2 := Lib.hid (blk_new w (.cells #[.int .i64 5, .string i, .string f, .string g, .string y, .int .i64 a, .int .i64 d, .string t] 85 (0, 0)))
      have HB3 := Lib.hid (HB1.out.alloc HB1.out.size (.cells #[.int .i64 5, .string i, .string f, .string g, .string y, .int .i64 a, .int .i64 d, .string t] 85 (0, 0)))
      clear HB1
      have hc4 : (w.alloc (.cells #[.int .i64 5, .string i, .string f, .string g, .string y, .int .i64 a, .int .i64 d, .string t] 85 (0, 0))).cell? ⟨w.heap.size, 0, none⟩ = some (.int .i64 5) := by rw [cell_of_row _ _ _ _ _ _ HF2.out]; rfl
      have hc5 : (w.alloc (.cells #[.int .i64 5, .string i, .string f, .string g, .string y, .int .i64 a, .int .i64 d, .string t] 85 (0, 0))).cell? ⟨w.heap.size, 1, none⟩ = some (.string i) := by rw [cell_of_row _ _ _ _ _ _ HF2.out]; rfl
      have hc6 : (w.alloc (.cells #[.int .i64 5, .string i, .string f, .string g, .string y, .int .i64 a, .int .i64 d, .string t] 85 (0, 0))).cell? ⟨w.heap.size, 2, none⟩ = some (.string f) := by rw [cell_of_row _ _ _ _ _ _ HF2.out]; rfl
      have hc7 : (w.alloc (.cells #[.int .i64 5, .string i, .string f, .string g, .string y, .int .i64 a, .int .i64 d, .string t] 85 (0, 0))).cell? ⟨w.heap.size, 3, none⟩ = some (.string g) := by rw [cell_of_row _ _ _ _ _ _ HF2.out]; rfl
      have hc8 : (w.alloc (.cells #[.int .i64 5, .string i, .string f, .string g, .string y, .int .i64 a, .int .i64 d, .string t] 85 (0, 0))).cell? ⟨w.heap.size, 4, none⟩ = some (.string y) := by rw [cell_of_row _ _ _ _ _ _ HF2.out]; rfl
      have hc9 : (w.alloc (.cells #[.int .i64 5, .string i, .string f, .string g, .string y, .int .i64 a, .int .i64 d, .string t] 85 (0, 0))).cell? ⟨w.heap.size, 5, none⟩ = some (.int .i64 a) := by rw [cell_of_row _ _ _ _ _ _ HF2.out]; rfl
      have hc10 : (w.alloc (.cells #[.int .i64 5, .string i, .string f, .string g, .string y, .int .i64 a, .int .i64 d, .string t] 85 (0, 0))).cell? ⟨w.heap.size, 6, none⟩ = some (.int .i64 d) := by rw [cell_of_row _ _ _ _ _ _ HF2.out]; rfl
      have hc11 : (w.alloc (.cells #[.int .i64 5, .string i, .string f, .string g, .string y, .int .i64 a, .int .i64 d, .string t] 85 (0, 0))).cell? ⟨w.heap.size, 7, none⟩ = some (.string t) := by rw [cell_of_row _ _ _ _ _ _ HF2.out]; rfl
      go_wp2_with fail
      refine (Hi.out (w.alloc (.cells #[.int .i64 5, .string i, .string f, .string g, .string y, .int .i64 a, .int .i64 d, .string t] 85 (0, 0)))).mono ?_
      rintro e w' ⟨rfl, rfl⟩
      go_wp2_with fail
      refine (Hy.out (w.alloc (.cells #[.int .i64 5, .string i, .string f, .string g, .string y, .int .i64 a, .int .i64 d, .string t] 85 (0, 0)))).mono ?_
      rintro e w' ⟨rfl, rfl⟩
      go_wp2_with fail
      clear hc4 hc5 hc6 hc7 hc8 hc9 hc10 hc11
      go_ret
      exact ⟨retBo HR.out, HB3.out⟩
    | true =>
      rw [qy] at Hy
      have HR := Lib.hid (show true = rightB 5 i f g y a d t by unfold rightB; rw [qi]; rw [qy]; simp)
      have HB1 := Lib.hid (Below.refl w.heap.size w)
      go_enter Try.func47, Try.ntmps47
      have HF2 := Lib.hid (blk_new w (.cells #[.int .i64 5, .string i, .string f, .string g, .string y, .int .i64 a, .int .i64 d, .string t] 85 (0, 0)))
      have HB3 := Lib.hid (HB1.out.alloc HB1.out.size (.cells #[.int .i64 5, .string i, .string f, .string g, .string y, .int .i64 a, .int .i64 d, .string t] 85 (0, 0)))
      clear HB1
      have hc4 : (w.alloc (.cells #[.int .i64 5, .string i, .string f, .string g, .string y, .int .i64 a, .int .i64 d, .string t] 85 (0, 0))).cell? ⟨w.heap.size, 0, none⟩ = some (.int .i64 5) := by rw [cell_of_row _ _ _ _ _ _ HF2.out]; rfl
      have hc5 : (w.alloc (.cells #[.int .i64 5, .string i, .string f, .string g, .string y, .int .i64 a, .int .i64 d, .string t] 85 (0, 0))).cell? ⟨w.heap.size, 1, none⟩ = some (.string i) := by rw [cell_of_row _ _ _ _ _ _ HF2.out]; rfl
      have hc6 : (w.alloc (.cells #[.int .i64 5, .string i, .string f, .string g, .string y, .int .i64 a, .int .i64 d, .string t] 85 (0, 0))).cell? ⟨w.heap.size, 2, none⟩ = some (.string f) := by rw [cell_of_row _ _ _ _ _ _ HF2.out]; rfl
      have hc7 : (w.alloc (.cells #[.int .i64 5, .string i, .string f, .string g, .string y, .int .i64 a, .int .i64 d, .string t] 85 (0, 0))).cell? ⟨w.heap.size, 3, none⟩ = some (.string g) := by rw [cell_of_row _ _ _ _ _ _ HF2.out]; rfl
      have hc8 : (w.alloc (.cells #[.int .i64 5, .string i, .string f, .string g, .string y, .int .i64 a, .int .i64 d, .string t] 85 (0, 0))).cell? ⟨w.heap.size, 4, none⟩ = some (.string y) := by rw [cell_of_row _ _ _ _ _ _ HF2.out]; rfl
      have hc9 : (w.alloc (.cells #[.int .i64 5, .string i, .string f, .string g, .string y, .int .i64 a, .int .i64 d, .string t] 85 (0, 0))).cell? ⟨w.heap.size, 5, none⟩ = some (.int .i64 a) := by rw [cell_of_row _ _ _ _ _ _ HF2.out]; rfl
      have hc10 : (w.alloc (.cells #[.int .i64 5, .string i, .string f, .string g, .string y, .int .i64 a, .int .i64 d, .string t] 85 (0, 0))).cell? ⟨w.heap.size, 6, none⟩ = some (.int .i64 d) := by rw [cell_of_row _ _ _ _ _ _ HF2.out]; rfl
      have hc11 : (w.alloc (.cells #[.int .i64 5, .string i, .string f, .string g, .string y, .int .i64 a, .int .i64 d, .string t] 85 (0, 0))).cell? ⟨w.heap.size, 7, none⟩ = some (.string t) := by rw [cell_of_row _ _ _ _ _ _ HF2.out]; rfl
      go_wp2_with fail
      refine (Hi.out (w.alloc (.cells #[.int .i64 5, .string i, .string f, .string g, .string y, .int .i64 a, .int .i64 d, .string t] 85 (0, 0)))).mono ?_
      rintro e w' ⟨rfl, rfl⟩
      go_wp2_with fail
      refine (Hy.out (w.alloc (.cells #[.int .i64 5, .string i, .string f, .string g, .string y, .int .i64 a, .int .i64 d, .string t] 85 (0, 0)))).mono ?_
      rintro e w' ⟨rfl, rfl⟩
      go_wp2_with fail
      clear hc4 hc5 hc6 hc7 hc8 hc9 hc10 hc11
      go_ret
      exact ⟨retBo HR.out, HB3.out⟩
set_option maxRecDepth 100000 in
set_option maxHeartbeats 4000000 in
theorem rright_6 (i f g y : ByteArray) (a d : Int) (t : ByteArray) (w : World) (hi : i.size ≤ maxLen) (_hf : f.size ≤ maxLen) (_hg : g.size ≤ maxLen) (hy : y.size ≤ maxLen) :
    Calls Try.prog 47 #[.agg #[.int .i64 6, .string i, .string f, .string g, .string y, .int .i64 a, .int .i64 d, .string t]] w fun e w' => e = .returned (.bool (rightB 6 i f g y a d t)) ∧ Below w.heap.size w w' := by
  have Hi := Lib.hid (fun W : World => refIs_any i W hi)
  have Hy := Lib.hid (fun W : World => refIs_any y W hy)
  cases qi : nm i with
  | false =>
    have HR := Lib.hid (show false = rightB 6 i f g y a d t by unfold rightB; rw [qi]; simp)
    rw [qi] at Hi
    clear qi
    have HB1 := Lib.hid (Below.refl w.heap.size w)
    go_enter Try.func47, Try.ntmps47
    have HF2 := Lib.hid (blk_new w (.cells #[.int .i64 6, .string i, .string f, .string g, .string y, .int .i64 a, .int .i64 d, .string t] 85 (0, 0)))
    have HB3 := Lib.hid (HB1.out.alloc HB1.out.size (.cells #[.int .i64 6, .string i, .string f, .string g, .string y, .int .i64 a, .int .i64 d, .string t] 85 (0, 0)))
    clear HB1
    have hc4 : (w.alloc (.cells #[.int .i64 6, .string i, .string f, .string g, .string y, .int .i64 a, .int .i64 d, .string t] 85 (0, 0))).cell? ⟨w.heap.size, 0, none⟩ = some (.int .i64 6) := by rw [cell_of_row _ _ _ _ _ _ HF2.out]; rfl
    have hc5 : (w.alloc (.cells #[.int .i64 6, .string i, .string f, .string g, .string y, .int .i64 a, .int .i64 d, .string t] 85 (0, 0))).cell? ⟨w.heap.size, 1, none⟩ = some (.string i) := by rw [cell_of_row _ _ _ _ _ _ HF2.out]; rfl
    have hc6 : (w.alloc (.cells #[.int .i64 6, .string i, .string f, .string g, .string y, .int .i64 a, .int .i64 d, .string t] 85 (0, 0))).cell? ⟨w.heap.size, 2, none⟩ = some (.string f) := by rw [cell_of_row _ _ _ _ _ _ HF2.out]; rfl
    have hc7 : (w.alloc (.cells #[.int .i64 6, .string i, .string f, .string g, .string y, .int .i64 a, .int .i64 d, .string t] 85 (0, 0))).cell? ⟨w.heap.size, 3, none⟩ = some (.string g) := by rw [cell_of_row _ _ _ _ _ _ HF2.out]; rfl
    have hc8 : (w.alloc (.cells #[.int .i64 6, .string i, .string f, .string g, .string y, .int .i64 a, .int .i64 d, .string t] 85 (0, 0))).cell? ⟨w.heap.size, 4, none⟩ = some (.string y) := by rw [cell_of_row _ _ _ _ _ _ HF2.out]; rfl
    have hc9 : (w.alloc (.cells #[.int .i64 6, .string i, .string f, .string g, .string y, .int .i64 a, .int .i64 d, .string t] 85 (0, 0))).cell? ⟨w.heap.size, 5, none⟩ = some (.int .i64 a) := by rw [cell_of_row _ _ _ _ _ _ HF2.out]; rfl
    have hc10 : (w.alloc (.cells #[.int .i64 6, .string i, .string f, .string g, .string y, .int .i64 a, .int .i64 d, .string t] 85 (0, 0))).cell? ⟨w.heap.size, 6, none⟩ = some (.int .i64 d) := by rw [cell_of_row _ _ _ _ _ _ HF2.out]; rfl
    have hc11 : (w.alloc (.cells #[.int .i64 6, .string i, .string f, .string g, .string y, .int .i64 a, .int .i64 d, .string t] 85 (0, 0))).cell? ⟨w.heap.size, 7, none⟩ = some (.string t) := by rw [cell_of_row _ _ _ _ _ _ HF2.out]; rfl
    go_wp2_with fail
    refine (Hi.out (w.alloc (.cells #[.int .i64 6, .string i, .string f, .string g, .string y, .int .i64 a, .int .i64 d, .string t] 85 (0, 0)))).mono ?_
    rintro e w' ⟨rfl, rfl⟩
    go_wp2_with fail
    clear hc4 hc5 hc6 hc7 hc8 hc9 hc10 hc11
    go_ret
    exact ⟨retBo HR.out, HB3.out⟩
  | true =>
    rw [qi] at Hi
    cases qy : nm y with
    | false =>
      have HR := Lib.hid (show false = rightB 6 i f g y a d t by unfold rightB; rw [qi]; rw [qy]; simp)
      rw [qy] at Hy
      clear qy
      have HB1 := Lib.hid (Below.refl w.heap.size w)
      go_enter Try.func47, Try.ntmps47
      have HF2 := Lib.hid (blk_new w (.cells #[.int .i64 6, .string i, .string f, .string g, .string y, .int .i64 a, .int .i64 d, .string t] 85 (0, 0)))
      have HB3 := Lib.hid (HB1.out.alloc HB1.out.size (.cells #[.int .i64 6, .string i, .string f, .string g, .string y, .int .i64 a, .int .i64 d, .string t] 85 (0, 0)))
      clear HB1
      have hc4 : (w.alloc (.cells #[.int .i64 6, .string i, .string f, .string g, .string y, .int .i64 a, .int .i64 d, .string t] 85 (0, 0))).cell? ⟨w.heap.size, 0, none⟩ = some (.int .i64 6) := by rw [cell_of_row _ _ _ _ _ _ HF2.out]; rfl
      have hc5 : (w.alloc (.cells #[.int .i64 6, .string i, .string f, .string g, .string y, .int .i64 a, .int .i64 d, .string t] 85 (0, 0))).cell? ⟨w.heap.size, 1, none⟩ = some (.string i) := by rw [cell_of_row _ _ _ _ _ _ HF2.out]; rfl
      have hc6 : (w.alloc (.cells #[.int .i64 6, .string i, .string f, .string g, .string y, .int .i64 a, .int .i64 d, .string t] 85 (0, 0))).cell? ⟨w.heap.size, 2, none⟩ = some (.string f) := by rw [cell_of_row _ _ _ _ _ _ HF2.out]; rfl
      have hc7 : (w.alloc (.cells #[.int .i64 6, .string i, .string f, .string g, .string y, .int .i64 a, .int .i64 d, .string t] 85 (0, 0))).cell? ⟨w.heap.size, 3, none⟩ = some (.string g) := by rw [cell_of_row _ _ _ _ _ _ HF2.out]; rfl
      have hc8 : (w.alloc (.cells #[.int .i64 6, .string i, .string f, .string g, .string y, .int .i64 a, .int .i64 d, .string t] 85 (0, 0))).cell? ⟨w.heap.size, 4, none⟩ = some (.string y) := by rw [cell_of_row _ _ _ _ _ _ HF2.out]; rfl
      have hc9 : (w.alloc (.cells #[.int .i64 6, .string i, .string f, .string g, .string y, .int .i64 a, .int .i64 d, .string t] 85 (0, 0))).cell? ⟨w.heap.size, 5, none⟩ = some (.int .i64 a) := by rw [cell_of_row _ _ _ _ _ _ HF2.out]; rfl
      have hc10 : (w.alloc (.cells #[.int .i64 6, .string i, .string f, .string g, .string y, .int .i64 a, .int .i64 d, .string t] 85 (0, 0))).cell? ⟨w.heap.size, 6, none⟩ = some (.int .i64 d) := by rw [cell_of_row _ _ _ _ _ _ HF2.out]; rfl
      have hc11 : (w.alloc (.cells #[.int .i64 6, .string i, .string f, .string g, .string y, .int .i64 a, .int .i64 d, .string t] 85 (0, 0))).cell? ⟨w.heap.size, 7, none⟩ = some (.string t) := by rw [cell_of_row _ _ _ _ _ _ HF2.out]; rfl
      go_wp2_with fail
      refine (Hi.out (w.alloc (.cells #[.int .i64 6, .string i, .string f, .string g, .string y, .int .i64 a, .int .i64 d, .string t] 85 (0, 0)))).mono ?_
      rintro e w' ⟨rfl, rfl⟩
      go_wp2_with fail
      refine (Hy.out (w.alloc (.cells #[.int .i64 6, .string i, .string f, .string g, .string y, .int .i64 a, .int .i64 d, .string t] 85 (0, 0)))).mono ?_
      rintro e w' ⟨rfl, rfl⟩
      go_wp2_with fail
      clear hc4 hc5 hc6 hc7 hc8 hc9 hc10 hc11
      go_ret
      exact ⟨retBo HR.out, HB3.out⟩
    | true =>
      rw [qy] at Hy
      have HR := Lib.hid (show true = rightB 6 i f g y a d t by unfold rightB; rw [qi]; rw [qy]; simp)
      have HB1 := Lib.hid (Below.refl w.heap.size w)
      go_enter Try.func47, Try.ntmps47
      have HF2 := Lib.hid (blk_new w (.cells #[.int .i64 6, .string i, .string f, .string g, .string y, .int .i64 a, .int .i64 d, .string t] 85 (0, 0)))
      have HB3 := Lib.hid (HB1.out.alloc HB1.out.size (.cells #[.int .i64 6, .string i, .string f, .string g, .string y, .int .i64 a, .int .i64 d, .string t] 85 (0, 0)))
      clear HB1
      have hc4 : (w.alloc (.cells #[.int .i64 6, .string i, .string f, .string g, .string y, .int .i64 a, .int .i64 d, .string t] 85 (0, 0))).cell? ⟨w.heap.size, 0, none⟩ = some (.int .i64 6) := by rw [cell_of_row _ _ _ _ _ _ HF2.out]; rfl
      have hc5 : (w.alloc (.cells #[.int .i64 6, .string i, .string f, .string g, .string y, .int .i64 a, .int .i64 d, .string t] 85 (0, 0))).cell? ⟨w.heap.size, 1, none⟩ = some (.string i) := by rw [cell_of_row _ _ _ _ _ _ HF2.out]; rfl
      have hc6 : (w.alloc (.cells #[.int .i64 6, .string i, .string f, .string g, .string y, .int .i64 a, .int .i64 d, .string t] 85 (0, 0))).cell? ⟨w.heap.size, 2, none⟩ = some (.string f) := by rw [cell_of_row _ _ _ _ _ _ HF2.out]; rfl
      have hc7 : (w.alloc (.cells #[.int .i64 6, .string i, .string f, .string g, .string y, .int .i64 a, .int .i64 d, .string t] 85 (0, 0))).cell? ⟨w.heap.size, 3, none⟩ = some (.string g) := by rw [cell_of_row _ _ _ _ _ _ HF2.out]; rfl
      have hc8 : (w.alloc (.cells #[.int .i64 6, .string i, .string f, .string g, .string y, .int .i64 a, .int .i64 d, .string t] 85 (0, 0))).cell? ⟨w.heap.size, 4, none⟩ = some (.string y) := by rw [cell_of_row _ _ _ _ _ _ HF2.out]; rfl
      have hc9 : (w.alloc (.cells #[.int .i64 6, .string i, .string f, .string g, .string y, .int .i64 a, .int .i64 d, .string t] 85 (0, 0))).cell? ⟨w.heap.size, 5, none⟩ = some (.int .i64 a) := by rw [cell_of_row _ _ _ _ _ _ HF2.out]; rfl
      have hc10 : (w.alloc (.cells #[.int .i64 6, .string i, .string f, .string g, .string y, .int .i64 a, .int .i64 d, .string t] 85 (0, 0))).cell? ⟨w.heap.size, 6, none⟩ = some (.int .i64 d) := by rw [cell_of_row _ _ _ _ _ _ HF2.out]; rfl
      have hc11 : (w.alloc (.cells #[.int .i64 6, .string i, .string f, .string g, .string y, .int .i64 a, .int .i64 d, .string t] 85 (0, 0))).cell? ⟨w.heap.size, 7, none⟩ = some (.string t) := by rw [cell_of_row _ _ _ _ _ _ HF2.out]; rfl
      go_wp2_with fail
      refine (Hi.out (w.alloc (.cells #[.int .i64 6, .string i, .string f, .string g, .string y, .int .i64 a, .int .i64 d, .string t] 85 (0, 0)))).mono ?_
      rintro e w' ⟨rfl, rfl⟩
      go_wp2_with fail
      refine (Hy.out (w.alloc (.cells #[.int .i64 6, .string i, .string f, .string g, .string y, .int .i64 a, .int .i64 d, .string t] 85 (0, 0)))).mono ?_
      rintro e w' ⟨rfl, rfl⟩
      go_wp2_with fail
      clear hc4 hc5 hc6 hc7 hc8 hc9 hc10 hc11
      go_ret
      exact ⟨retBo HR.out, HB3.out⟩
set_option maxRecDepth 100000 in
set_option maxHeartbeats 4000000 in
theorem rright_7 (i f g y : ByteArray) (a d : Int) (t : ByteArray) (w : World) (hi : i.size ≤ maxLen) (_hf : f.size ≤ maxLen) (_hg : g.size ≤ maxLen) (hy : y.size ≤ maxLen) :
    Calls Try.prog 47 #[.agg #[.int .i64 7, .string i, .string f, .string g, .string y, .int .i64 a, .int .i64 d, .string t]] w fun e w' => e = .returned (.bool (rightB 7 i f g y a d t)) ∧ Below w.heap.size w w' := by
  have Hi := Lib.hid (fun W : World => refIs_any i W hi)
  have Hy := Lib.hid (fun W : World => refIs_any y W hy)
  cases qi : nm i with
  | false =>
    have HR := Lib.hid (show false = rightB 7 i f g y a d t by unfold rightB; rw [qi]; simp)
    rw [qi] at Hi
    clear qi
    have HB1 := Lib.hid (Below.refl w.heap.size w)
    go_enter Try.func47, Try.ntmps47
    have HF2 := Lib.hid (blk_new w (.cells #[.int .i64 7, .string i, .string f, .string g, .string y, .int .i64 a, .int .i64 d, .string t] 85 (0, 0)))
    have HB3 := Lib.hid (HB1.out.alloc HB1.out.size (.cells #[.int .i64 7, .string i, .string f, .string g, .string y, .int .i64 a, .int .i64 d, .string t] 85 (0, 0)))
    clear HB1
    have hc4 : (w.alloc (.cells #[.int .i64 7, .string i, .string f, .string g, .string y, .int .i64 a, .int .i64 d, .string t] 85 (0, 0))).cell? ⟨w.heap.size, 0, none⟩ = some (.int .i64 7) := by rw [cell_of_row _ _ _ _ _ _ HF2.out]; rfl
    have hc5 : (w.alloc (.cells #[.int .i64 7, .string i, .string f, .string g, .string y, .int .i64 a, .int .i64 d, .string t] 85 (0, 0))).cell? ⟨w.heap.size, 1, none⟩ = some (.string i) := by rw [cell_of_row _ _ _ _ _ _ HF2.out]; rfl
    have hc6 : (w.alloc (.cells #[.int .i64 7, .string i, .string f, .string g, .string y, .int .i64 a, .int .i64 d, .string t] 85 (0, 0))).cell? ⟨w.heap.size, 2, none⟩ = some (.string f) := by rw [cell_of_row _ _ _ _ _ _ HF2.out]; rfl
    have hc7 : (w.alloc (.cells #[.int .i64 7, .string i, .string f, .string g, .string y, .int .i64 a, .int .i64 d, .string t] 85 (0, 0))).cell? ⟨w.heap.size, 3, none⟩ = some (.string g) := by rw [cell_of_row _ _ _ _ _ _ HF2.out]; rfl
    have hc8 : (w.alloc (.cells #[.int .i64 7, .string i, .string f, .string g, .string y, .int .i64 a, .int .i64 d, .string t] 85 (0, 0))).cell? ⟨w.heap.size, 4, none⟩ = some (.string y) := by rw [cell_of_row _ _ _ _ _ _ HF2.out]; rfl
    have hc9 : (w.alloc (.cells #[.int .i64 7, .string i, .string f, .string g, .string y, .int .i64 a, .int .i64 d, .string t] 85 (0, 0))).cell? ⟨w.heap.size, 5, none⟩ = some (.int .i64 a) := by rw [cell_of_row _ _ _ _ _ _ HF2.out]; rfl
    have hc10 : (w.alloc (.cells #[.int .i64 7, .string i, .string f, .string g, .string y, .int .i64 a, .int .i64 d, .string t] 85 (0, 0))).cell? ⟨w.heap.size, 6, none⟩ = some (.int .i64 d) := by rw [cell_of_row _ _ _ _ _ _ HF2.out]; rfl
    have hc11 : (w.alloc (.cells #[.int .i64 7, .string i, .string f, .string g, .string y, .int .i64 a, .int .i64 d, .string t] 85 (0, 0))).cell? ⟨w.heap.size, 7, none⟩ = some (.string t) := by rw [cell_of_row _ _ _ _ _ _ HF2.out]; rfl
    go_wp2_with fail
    refine (Hi.out (w.alloc (.cells #[.int .i64 7, .string i, .string f, .string g, .string y, .int .i64 a, .int .i64 d, .string t] 85 (0, 0)))).mono ?_
    rintro e w' ⟨rfl, rfl⟩
    go_wp2_with fail
    clear hc4 hc5 hc6 hc7 hc8 hc9 hc10 hc11
    go_ret
    exact ⟨retBo HR.out, HB3.out⟩
  | true =>
    rw [qi] at Hi
    cases qy : nm y with
    | false =>
      have HR := Lib.hid (show false = rightB 7 i f g y a d t by unfold rightB; rw [qi]; rw [qy]; simp)
      rw [qy] at Hy
      clear qy
      have HB1 := Lib.hid (Below.refl w.heap.size w)
      go_enter Try.func47, Try.ntmps47
      have HF2 := Lib.hid (blk_new w (.cells #[.int .i64 7, .string i, .string f, .string g, .string y, .int .i64 a, .int .i64 d, .string t] 85 (0, 0)))
      have HB3 := Lib.hid (HB1.out.alloc HB1.out.size (.cells #[.int .i64 7, .string i, .string f, .string g, .string y, .int .i64 a, .int .i64 d, .string t] 85 (0, 0)))
      clear HB1
      have hc4 : (w.alloc (.cells #[.int .i64 7, .string i, .string f, .string g, .string y, .int .i64 a, .int .i64 d, .string t] 85 (0, 0))).cell? ⟨w.heap.size, 0, none⟩ = some (.int .i64 7) := by rw [cell_of_row _ _ _ _ _ _ HF2.out]; rfl
      have hc5 : (w.alloc (.cells #[.int .i64 7, .string i, .string f, .string g, .string y, .int .i64 a, .int .i64 d, .string t] 85 (0, 0))).cell? ⟨w.heap.size, 1, none⟩ = some (.string i) := by rw [cell_of_row _ _ _ _ _ _ HF2.out]; rfl
      have hc6 : (w.alloc (.cells #[.int .i64 7, .string i, .string f, .string g, .string y, .int .i64 a, .int .i64 d, .string t] 85 (0, 0))).cell? ⟨w.heap.size, 2, none⟩ = some (.string f) := by rw [cell_of_row _ _ _ _ _ _ HF2.out]; rfl
      have hc7 : (w.alloc (.cells #[.int .i64 7, .string i, .string f, .string g, .string y, .int .i64 a, .int .i64 d, .string t] 85 (0, 0))).cell? ⟨w.heap.size, 3, none⟩ = some (.string g) := by rw [cell_of_row _ _ _ _ _ _ HF2.out]; rfl
      have hc8 : (w.alloc (.cells #[.int .i64 7, .string i, .string f, .string g, .string y, .int .i64 a, .int .i64 d, .string t] 85 (0, 0))).cell? ⟨w.heap.size, 4, none⟩ = some (.string y) := by rw [cell_of_row _ _ _ _ _ _ HF2.out]; rfl
      have hc9 : (w.alloc (.cells #[.int .i64 7, .string i, .string f, .string g, .string y, .int .i64 a, .int .i64 d, .string t] 85 (0, 0))).cell? ⟨w.heap.size, 5, none⟩ = some (.int .i64 a) := by rw [cell_of_row _ _ _ _ _ _ HF2.out]; rfl
      have hc10 : (w.alloc (.cells #[.int .i64 7, .string i, .string f, .string g, .string y, .int .i64 a, .int .i64 d, .string t] 85 (0, 0))).cell? ⟨w.heap.size, 6, none⟩ = some (.int .i64 d) := by rw [cell_of_row _ _ _ _ _ _ HF2.out]; rfl
      have hc11 : (w.alloc (.cells #[.int .i64 7, .string i, .string f, .string g, .string y, .int .i64 a, .int .i64 d, .string t] 85 (0, 0))).cell? ⟨w.heap.size, 7, none⟩ = some (.string t) := by rw [cell_of_row _ _ _ _ _ _ HF2.out]; rfl
      go_wp2_with fail
      refine (Hi.out (w.alloc (.cells #[.int .i64 7, .string i, .string f, .string g, .string y, .int .i64 a, .int .i64 d, .string t] 85 (0, 0)))).mono ?_
      rintro e w' ⟨rfl, rfl⟩
      go_wp2_with fail
      refine (Hy.out (w.alloc (.cells #[.int .i64 7, .string i, .string f, .string g, .string y, .int .i64 a, .int .i64 d, .string t] 85 (0, 0)))).mono ?_
      rintro e w' ⟨rfl, rfl⟩
      go_wp2_with fail
      clear hc4 hc5 hc6 hc7 hc8 hc9 hc10 hc11
      go_ret
      exact ⟨retBo HR.out, HB3.out⟩
    | true =>
      rw [qy] at Hy
      have HR := Lib.hid (show true = rightB 7 i f g y a d t by unfold rightB; rw [qi]; rw [qy]; simp)
      have HB1 := Lib.hid (Below.refl w.heap.size w)
      go_enter Try.func47, Try.ntmps47
      have HF2 := Lib.hid (blk_new w (.cells #[.int .i64 7, .string i, .string f, .string g, .string y, .int .i64 a, .int .i64 d, .string t] 85 (0, 0)))
      have HB3 := Lib.hid (HB1.out.alloc HB1.out.size (.cells #[.int .i64 7, .string i, .string f, .string g, .string y, .int .i64 a, .int .i64 d, .string t] 85 (0, 0)))
      clear HB1
      have hc4 : (w.alloc (.cells #[.int .i64 7, .string i, .string f, .string g, .string y, .int .i64 a, .int .i64 d, .string t] 85 (0, 0))).cell? ⟨w.heap.size, 0, none⟩ = some (.int .i64 7) := by rw [cell_of_row _ _ _ _ _ _ HF2.out]; rfl
      have hc5 : (w.alloc (.cells #[.int .i64 7, .string i, .string f, .string g, .string y, .int .i64 a, .int .i64 d, .string t] 85 (0, 0))).cell? ⟨w.heap.size, 1, none⟩ = some (.string i) := by rw [cell_of_row _ _ _ _ _ _ HF2.out]; rfl
      have hc6 : (w.alloc (.cells #[.int .i64 7, .string i, .string f, .string g, .string y, .int .i64 a, .int .i64 d, .string t] 85 (0, 0))).cell? ⟨w.heap.size, 2, none⟩ = some (.string f) := by rw [cell_of_row _ _ _ _ _ _ HF2.out]; rfl
      have hc7 : (w.alloc (.cells #[.int .i64 7, .string i, .string f, .string g, .string y, .int .i64 a, .int .i64 d, .string t] 85 (0, 0))).cell? ⟨w.heap.size, 3, none⟩ = some (.string g) := by rw [cell_of_row _ _ _ _ _ _ HF2.out]; rfl
      have hc8 : (w.alloc (.cells #[.int .i64 7, .string i, .string f, .string g, .string y, .int .i64 a, .int .i64 d, .string t] 85 (0, 0))).cell? ⟨w.heap.size, 4, none⟩ = some (.string y) := by rw [cell_of_row _ _ _ _ _ _ HF2.out]; rfl
      have hc9 : (w.alloc (.cells #[.int .i64 7, .string i, .string f, .string g, .string y, .int .i64 a, .int .i64 d, .string t] 85 (0, 0))).cell? ⟨w.heap.size, 5, none⟩ = some (.int .i64 a) := by rw [cell_of_row _ _ _ _ _ _ HF2.out]; rfl
      have hc10 : (w.alloc (.cells #[.int .i64 7, .string i, .string f, .string g, .string y, .int .i64 a, .int .i64 d, .string t] 85 (0, 0))).cell? ⟨w.heap.size, 6, none⟩ = some (.int .i64 d) := by rw [cell_of_row _ _ _ _ _ _ HF2.out]; rfl
      have hc11 : (w.alloc (.cells #[.int .i64 7, .string i, .string f, .string g, .string y, .int .i64 a, .int .i64 d, .string t] 85 (0, 0))).cell? ⟨w.heap.size, 7, none⟩ = some (.string t) := by rw [cell_of_row _ _ _ _ _ _ HF2.out]; rfl
      go_wp2_with fail
      refine (Hi.out (w.alloc (.cells #[.int .i64 7, .string i, .string f, .string g, .string y, .int .i64 a, .int .i64 d, .string t] 85 (0, 0)))).mono ?_
      rintro e w' ⟨rfl, rfl⟩
      go_wp2_with fail
      refine (Hy.out (w.alloc (.cells #[.int .i64 7, .string i, .string f, .string g, .string y, .int .i64 a, .int .i64 d, .string t] 85 (0, 0)))).mono ?_
      rintro e w' ⟨rfl, rfl⟩
      go_wp2_with fail
      clear hc4 hc5 hc6 hc7 hc8 hc9 hc10 hc11
      go_ret
      exact ⟨retBo HR.out, HB3.out⟩
set_option maxRecDepth 100000 in
set_option maxHeartbeats 4000000 in
theorem rright_8 (i f g y : ByteArray) (a d : Int) (t : ByteArray) (w : World) (hi : i.size ≤ maxLen) (_hf : f.size ≤ maxLen) (_hg : g.size ≤ maxLen) (hy : y.size ≤ maxLen) :
    Calls Try.prog 47 #[.agg #[.int .i64 8, .string i, .string f, .string g, .string y, .int .i64 a, .int .i64 d, .string t]] w fun e w' => e = .returned (.bool (rightB 8 i f g y a d t)) ∧ Below w.heap.size w w' := by
  have Hi := Lib.hid (fun W : World => refIs_any i W hi)
  have Hy := Lib.hid (fun W : World => refIs_any y W hy)
  cases qi : nm i with
  | false =>
    have HR := Lib.hid (show false = rightB 8 i f g y a d t by unfold rightB; rw [qi]; simp)
    rw [qi] at Hi
    clear qi
    have HB1 := Lib.hid (Below.refl w.heap.size w)
    go_enter Try.func47, Try.ntmps47
    have HF2 := Lib.hid (blk_new w (.cells #[.int .i64 8, .string i, .string f, .string g, .string y, .int .i64 a, .int .i64 d, .string t] 85 (0, 0)))
    have HB3 := Lib.hid (HB1.out.alloc HB1.out.size (.cells #[.int .i64 8, .string i, .string f, .string g, .string y, .int .i64 a, .int .i64 d, .string t] 85 (0, 0)))
    clear HB1
    have hc4 : (w.alloc (.cells #[.int .i64 8, .string i, .string f, .string g, .string y, .int .i64 a, .int .i64 d, .string t] 85 (0, 0))).cell? ⟨w.heap.size, 0, none⟩ = some (.int .i64 8) := by rw [cell_of_row _ _ _ _ _ _ HF2.out]; rfl
    have hc5 : (w.alloc (.cells #[.int .i64 8, .string i, .string f, .string g, .string y, .int .i64 a, .int .i64 d, .string t] 85 (0, 0))).cell? ⟨w.heap.size, 1, none⟩ = some (.string i) := by rw [cell_of_row _ _ _ _ _ _ HF2.out]; rfl
    have hc6 : (w.alloc (.cells #[.int .i64 8, .string i, .string f, .string g, .string y, .int .i64 a, .int .i64 d, .string t] 85 (0, 0))).cell? ⟨w.heap.size, 2, none⟩ = some (.string f) := by rw [cell_of_row _ _ _ _ _ _ HF2.out]; rfl
    have hc7 : (w.alloc (.cells #[.int .i64 8, .string i, .string f, .string g, .string y, .int .i64 a, .int .i64 d, .string t] 85 (0, 0))).cell? ⟨w.heap.size, 3, none⟩ = some (.string g) := by rw [cell_of_row _ _ _ _ _ _ HF2.out]; rfl
    have hc8 : (w.alloc (.cells #[.int .i64 8, .string i, .string f, .string g, .string y, .int .i64 a, .int .i64 d, .string t] 85 (0, 0))).cell? ⟨w.heap.size, 4, none⟩ = some (.string y) := by rw [cell_of_row _ _ _ _ _ _ HF2.out]; rfl
    have hc9 : (w.alloc (.cells #[.int .i64 8, .string i, .string f, .string g, .string y, .int .i64 a, .int .i64 d, .string t] 85 (0, 0))).cell? ⟨w.heap.size, 5, none⟩ = some (.int .i64 a) := by rw [cell_of_row _ _ _ _ _ _ HF2.out]; rfl
    have hc10 : (w.alloc (.cells #[.int .i64 8, .string i, .string f, .string g, .string y, .int .i64 a, .int .i64 d, .string t] 85 (0, 0))).cell? ⟨w.heap.size, 6, none⟩ = some (.int .i64 d) := by rw [cell_of_row _ _ _ _ _ _ HF2.out]; rfl
    have hc11 : (w.alloc (.cells #[.int .i64 8, .string i, .string f, .string g, .string y, .int .i64 a, .int .i64 d, .string t] 85 (0, 0))).cell? ⟨w.heap.size, 7, none⟩ = some (.string t) := by rw [cell_of_row _ _ _ _ _ _ HF2.out]; rfl
    go_wp2_with fail
    refine (Hi.out (w.alloc (.cells #[.int .i64 8, .string i, .string f, .string g, .string y, .int .i64 a, .int .i64 d, .string t] 85 (0, 0)))).mono ?_
    rintro e w' ⟨rfl, rfl⟩
    go_wp2_with fail
    clear hc4 hc5 hc6 hc7 hc8 hc9 hc10 hc11
    go_ret
    exact ⟨retBo HR.out, HB3.out⟩
  | true =>
    rw [qi] at Hi
    cases qy : nm y with
    | false =>
      have HR := Lib.hid (show false = rightB 8 i f g y a d t by unfold rightB; rw [qi]; rw [qy]; simp)
      rw [qy] at Hy
      clear qy
      have HB1 := Lib.hid (Below.refl w.heap.size w)
      go_enter Try.func47, Try.ntmps47
      have HF2 := Lib.hid (blk_new w (.cells #[.int .i64 8, .string i, .string f, .string g, .string y, .int .i64 a, .int .i64 d, .string t] 85 (0, 0)))
      have HB3 := Lib.hid (HB1.out.alloc HB1.out.size (.cells #[.int .i64 8, .string i, .string f, .string g, .string y, .int .i64 a, .int .i64 d, .string t] 85 (0, 0)))
      clear HB1
      have hc4 : (w.alloc (.cells #[.int .i64 8, .string i, .string f, .string g, .string y, .int .i64 a, .int .i64 d, .string t] 85 (0, 0))).cell? ⟨w.heap.size, 0, none⟩ = some (.int .i64 8) := by rw [cell_of_row _ _ _ _ _ _ HF2.out]; rfl
      have hc5 : (w.alloc (.cells #[.int .i64 8, .string i, .string f, .string g, .string y, .int .i64 a, .int .i64 d, .string t] 85 (0, 0))).cell? ⟨w.heap.size, 1, none⟩ = some (.string i) := by rw [cell_of_row _ _ _ _ _ _ HF2.out]; rfl
      have hc6 : (w.alloc (.cells #[.int .i64 8, .string i, .string f, .string g, .string y, .int .i64 a, .int .i64 d, .string t] 85 (0, 0))).cell? ⟨w.heap.size, 2, none⟩ = some (.string f) := by rw [cell_of_row _ _ _ _ _ _ HF2.out]; rfl
      have hc7 : (w.alloc (.cells #[.int .i64 8, .string i, .string f, .string g, .string y, .int .i64 a, .int .i64 d, .string t] 85 (0, 0))).cell? ⟨w.heap.size, 3, none⟩ = some (.string g) := by rw [cell_of_row _ _ _ _ _ _ HF2.out]; rfl
      have hc8 : (w.alloc (.cells #[.int .i64 8, .string i, .string f, .string g, .string y, .int .i64 a, .int .i64 d, .string t] 85 (0, 0))).cell? ⟨w.heap.size, 4, none⟩ = some (.string y) := by rw [cell_of_row _ _ _ _ _ _ HF2.out]; rfl
      have hc9 : (w.alloc (.cells #[.int .i64 8, .string i, .string f, .string g, .string y, .int .i64 a, .int .i64 d, .string t] 85 (0, 0))).cell? ⟨w.heap.size, 5, none⟩ = some (.int .i64 a) := by rw [cell_of_row _ _ _ _ _ _ HF2.out]; rfl
      have hc10 : (w.alloc (.cells #[.int .i64 8, .string i, .string f, .string g, .string y, .int .i64 a, .int .i64 d, .string t] 85 (0, 0))).cell? ⟨w.heap.size, 6, none⟩ = some (.int .i64 d) := by rw [cell_of_row _ _ _ _ _ _ HF2.out]; rfl
      have hc11 : (w.alloc (.cells #[.int .i64 8, .string i, .string f, .string g, .string y, .int .i64 a, .int .i64 d, .string t] 85 (0, 0))).cell? ⟨w.heap.size, 7, none⟩ = some (.string t) := by rw [cell_of_row _ _ _ _ _ _ HF2.out]; rfl
      go_wp2_with fail
      refine (Hi.out (w.alloc (.cells #[.int .i64 8, .string i, .string f, .string g, .string y, .int .i64 a, .int .i64 d, .string t] 85 (0, 0)))).mono ?_
      rintro e w' ⟨rfl, rfl⟩
      go_wp2_with fail
      refine (Hy.out (w.alloc (.cells #[.int .i64 8, .string i, .string f, .string g, .string y, .int .i64 a, .int .i64 d, .string t] 85 (0, 0)))).mono ?_
      rintro e w' ⟨rfl, rfl⟩
      go_wp2_with fail
      clear hc4 hc5 hc6 hc7 hc8 hc9 hc10 hc11
      go_ret
      exact ⟨retBo HR.out, HB3.out⟩
    | true =>
      rw [qy] at Hy
      have HR := Lib.hid (show true = rightB 8 i f g y a d t by unfold rightB; rw [qi]; rw [qy]; simp)
      have HB1 := Lib.hid (Below.refl w.heap.size w)
      go_enter Try.func47, Try.ntmps47
      have HF2 := Lib.hid (blk_new w (.cells #[.int .i64 8, .string i, .string f, .string g, .string y, .int .i64 a, .int .i64 d, .string t] 85 (0, 0)))
      have HB3 := Lib.hid (HB1.out.alloc HB1.out.size (.cells #[.int .i64 8, .string i, .string f, .string g, .string y, .int .i64 a, .int .i64 d, .string t] 85 (0, 0)))
      clear HB1
      have hc4 : (w.alloc (.cells #[.int .i64 8, .string i, .string f, .string g, .string y, .int .i64 a, .int .i64 d, .string t] 85 (0, 0))).cell? ⟨w.heap.size, 0, none⟩ = some (.int .i64 8) := by rw [cell_of_row _ _ _ _ _ _ HF2.out]; rfl
      have hc5 : (w.alloc (.cells #[.int .i64 8, .string i, .string f, .string g, .string y, .int .i64 a, .int .i64 d, .string t] 85 (0, 0))).cell? ⟨w.heap.size, 1, none⟩ = some (.string i) := by rw [cell_of_row _ _ _ _ _ _ HF2.out]; rfl
      have hc6 : (w.alloc (.cells #[.int .i64 8, .string i, .string f, .string g, .string y, .int .i64 a, .int .i64 d, .string t] 85 (0, 0))).cell? ⟨w.heap.size, 2, none⟩ = some (.string f) := by rw [cell_of_row _ _ _ _ _ _ HF2.out]; rfl
      have hc7 : (w.alloc (.cells #[.int .i64 8, .string i, .string f, .string g, .string y, .int .i64 a, .int .i64 d, .string t] 85 (0, 0))).cell? ⟨w.heap.size, 3, none⟩ = some (.string g) := by rw [cell_of_row _ _ _ _ _ _ HF2.out]; rfl
      have hc8 : (w.alloc (.cells #[.int .i64 8, .string i, .string f, .string g, .string y, .int .i64 a, .int .i64 d, .string t] 85 (0, 0))).cell? ⟨w.heap.size, 4, none⟩ = some (.string y) := by rw [cell_of_row _ _ _ _ _ _ HF2.out]; rfl
      have hc9 : (w.alloc (.cells #[.int .i64 8, .string i, .string f, .string g, .string y, .int .i64 a, .int .i64 d, .string t] 85 (0, 0))).cell? ⟨w.heap.size, 5, none⟩ = some (.int .i64 a) := by rw [cell_of_row _ _ _ _ _ _ HF2.out]; rfl
      have hc10 : (w.alloc (.cells #[.int .i64 8, .string i, .string f, .string g, .string y, .int .i64 a, .int .i64 d, .string t] 85 (0, 0))).cell? ⟨w.heap.size, 6, none⟩ = some (.int .i64 d) := by rw [cell_of_row _ _ _ _ _ _ HF2.out]; rfl
      have hc11 : (w.alloc (.cells #[.int .i64 8, .string i, .string f, .string g, .string y, .int .i64 a, .int .i64 d, .string t] 85 (0, 0))).cell? ⟨w.heap.size, 7, none⟩ = some (.string t) := by rw [cell_of_row _ _ _ _ _ _ HF2.out]; rfl
      go_wp2_with fail
      refine (Hi.out (w.alloc (.cells #[.int .i64 8, .string i, .string f, .string g, .string y, .int .i64 a, .int .i64 d, .string t] 85 (0, 0)))).mono ?_
      rintro e w' ⟨rfl, rfl⟩
      go_wp2_with fail
      refine (Hy.out (w.alloc (.cells #[.int .i64 8, .string i, .string f, .string g, .string y, .int .i64 a, .int .i64 d, .string t] 85 (0, 0)))).mono ?_
      rintro e w' ⟨rfl, rfl⟩
      go_wp2_with fail
      clear hc4 hc5 hc6 hc7 hc8 hc9 hc10 hc11
      go_ret
      exact ⟨retBo HR.out, HB3.out⟩
set_option maxRecDepth 100000 in
set_option maxHeartbeats 4000000 in
theorem rright_9 (i f g y : ByteArray) (a d : Int) (t : ByteArray) (w : World) (hi : i.size ≤ maxLen) (_hf : f.size ≤ maxLen) (_hg : g.size ≤ maxLen) (hy : y.size ≤ maxLen) :
    Calls Try.prog 47 #[.agg #[.int .i64 9, .string i, .string f, .string g, .string y, .int .i64 a, .int .i64 d, .string t]] w fun e w' => e = .returned (.bool (rightB 9 i f g y a d t)) ∧ Below w.heap.size w w' := by
  have Hi := Lib.hid (fun W : World => refIs_any i W hi)
  have Hy := Lib.hid (fun W : World => refIs_any y W hy)
  have HV := Lib.hid (fun W : World => vis_any a d t W)
  cases qi : nm i with
  | false =>
    have HR := Lib.hid (show false = rightB 9 i f g y a d t by unfold rightB; rw [qi]; simp)
    rw [qi] at Hi
    clear qi
    have HB1 := Lib.hid (Below.refl w.heap.size w)
    go_enter Try.func47, Try.ntmps47
    have HF2 := Lib.hid (blk_new w (.cells #[.int .i64 9, .string i, .string f, .string g, .string y, .int .i64 a, .int .i64 d, .string t] 85 (0, 0)))
    have HB3 := Lib.hid (HB1.out.alloc HB1.out.size (.cells #[.int .i64 9, .string i, .string f, .string g, .string y, .int .i64 a, .int .i64 d, .string t] 85 (0, 0)))
    clear HB1
    have hc4 : (w.alloc (.cells #[.int .i64 9, .string i, .string f, .string g, .string y, .int .i64 a, .int .i64 d, .string t] 85 (0, 0))).cell? ⟨w.heap.size, 0, none⟩ = some (.int .i64 9) := by rw [cell_of_row _ _ _ _ _ _ HF2.out]; rfl
    have hc5 : (w.alloc (.cells #[.int .i64 9, .string i, .string f, .string g, .string y, .int .i64 a, .int .i64 d, .string t] 85 (0, 0))).cell? ⟨w.heap.size, 1, none⟩ = some (.string i) := by rw [cell_of_row _ _ _ _ _ _ HF2.out]; rfl
    have hc6 : (w.alloc (.cells #[.int .i64 9, .string i, .string f, .string g, .string y, .int .i64 a, .int .i64 d, .string t] 85 (0, 0))).cell? ⟨w.heap.size, 2, none⟩ = some (.string f) := by rw [cell_of_row _ _ _ _ _ _ HF2.out]; rfl
    have hc7 : (w.alloc (.cells #[.int .i64 9, .string i, .string f, .string g, .string y, .int .i64 a, .int .i64 d, .string t] 85 (0, 0))).cell? ⟨w.heap.size, 3, none⟩ = some (.string g) := by rw [cell_of_row _ _ _ _ _ _ HF2.out]; rfl
    have hc8 : (w.alloc (.cells #[.int .i64 9, .string i, .string f, .string g, .string y, .int .i64 a, .int .i64 d, .string t] 85 (0, 0))).cell? ⟨w.heap.size, 4, none⟩ = some (.string y) := by rw [cell_of_row _ _ _ _ _ _ HF2.out]; rfl
    have hc9 : (w.alloc (.cells #[.int .i64 9, .string i, .string f, .string g, .string y, .int .i64 a, .int .i64 d, .string t] 85 (0, 0))).cell? ⟨w.heap.size, 5, none⟩ = some (.int .i64 a) := by rw [cell_of_row _ _ _ _ _ _ HF2.out]; rfl
    have hc10 : (w.alloc (.cells #[.int .i64 9, .string i, .string f, .string g, .string y, .int .i64 a, .int .i64 d, .string t] 85 (0, 0))).cell? ⟨w.heap.size, 6, none⟩ = some (.int .i64 d) := by rw [cell_of_row _ _ _ _ _ _ HF2.out]; rfl
    have hc11 : (w.alloc (.cells #[.int .i64 9, .string i, .string f, .string g, .string y, .int .i64 a, .int .i64 d, .string t] 85 (0, 0))).cell? ⟨w.heap.size, 7, none⟩ = some (.string t) := by rw [cell_of_row _ _ _ _ _ _ HF2.out]; rfl
    go_wp2_with fail
    refine (Hi.out (w.alloc (.cells #[.int .i64 9, .string i, .string f, .string g, .string y, .int .i64 a, .int .i64 d, .string t] 85 (0, 0)))).mono ?_
    rintro e w' ⟨rfl, rfl⟩
    go_wp2_with fail
    clear hc4 hc5 hc6 hc7 hc8 hc9 hc10 hc11
    go_ret
    exact ⟨retBo HR.out, HB3.out⟩
  | true =>
    rw [qi] at Hi
    cases qy : nm y with
    | false =>
      have HR := Lib.hid (show false = rightB 9 i f g y a d t by unfold rightB; rw [qi]; rw [qy]; simp)
      rw [qy] at Hy
      clear qy
      have HB1 := Lib.hid (Below.refl w.heap.size w)
      go_enter Try.func47, Try.ntmps47
      have HF2 := Lib.hid (blk_new w (.cells #[.int .i64 9, .string i, .string f, .string g, .string y, .int .i64 a, .int .i64 d, .string t] 85 (0, 0)))
      have HB3 := Lib.hid (HB1.out.alloc HB1.out.size (.cells #[.int .i64 9, .string i, .string f, .string g, .string y, .int .i64 a, .int .i64 d, .string t] 85 (0, 0)))
      clear HB1
      have hc4 : (w.alloc (.cells #[.int .i64 9, .string i, .string f, .string g, .string y, .int .i64 a, .int .i64 d, .string t] 85 (0, 0))).cell? ⟨w.heap.size, 0, none⟩ = some (.int .i64 9) := by rw [cell_of_row _ _ _ _ _ _ HF2.out]; rfl
      have hc5 : (w.alloc (.cells #[.int .i64 9, .string i, .string f, .string g, .string y, .int .i64 a, .int .i64 d, .string t] 85 (0, 0))).cell? ⟨w.heap.size, 1, none⟩ = some (.string i) := by rw [cell_of_row _ _ _ _ _ _ HF2.out]; rfl
      have hc6 : (w.alloc (.cells #[.int .i64 9, .string i, .string f, .string g, .string y, .int .i64 a, .int .i64 d, .string t] 85 (0, 0))).cell? ⟨w.heap.size, 2, none⟩ = some (.string f) := by rw [cell_of_row _ _ _ _ _ _ HF2.out]; rfl
      have hc7 : (w.alloc (.cells #[.int .i64 9, .string i, .string f, .string g, .string y, .int .i64 a, .int .i64 d, .string t] 85 (0, 0))).cell? ⟨w.heap.size, 3, none⟩ = some (.string g) := by rw [cell_of_row _ _ _ _ _ _ HF2.out]; rfl
      have hc8 : (w.alloc (.cells #[.int .i64 9, .string i, .string f, .string g, .string y, .int .i64 a, .int .i64 d, .string t] 85 (0, 0))).cell? ⟨w.heap.size, 4, none⟩ = some (.string y) := by rw [cell_of_row _ _ _ _ _ _ HF2.out]; rfl
      have hc9 : (w.alloc (.cells #[.int .i64 9, .string i, .string f, .string g, .string y, .int .i64 a, .int .i64 d, .string t] 85 (0, 0))).cell? ⟨w.heap.size, 5, none⟩ = some (.int .i64 a) := by rw [cell_of_row _ _ _ _ _ _ HF2.out]; rfl
      have hc10 : (w.alloc (.cells #[.int .i64 9, .string i, .string f, .string g, .string y, .int .i64 a, .int .i64 d, .string t] 85 (0, 0))).cell? ⟨w.heap.size, 6, none⟩ = some (.int .i64 d) := by rw [cell_of_row _ _ _ _ _ _ HF2.out]; rfl
      have hc11 : (w.alloc (.cells #[.int .i64 9, .string i, .string f, .string g, .string y, .int .i64 a, .int .i64 d, .string t] 85 (0, 0))).cell? ⟨w.heap.size, 7, none⟩ = some (.string t) := by rw [cell_of_row _ _ _ _ _ _ HF2.out]; rfl
      go_wp2_with fail
      refine (Hi.out (w.alloc (.cells #[.int .i64 9, .string i, .string f, .string g, .string y, .int .i64 a, .int .i64 d, .string t] 85 (0, 0)))).mono ?_
      rintro e w' ⟨rfl, rfl⟩
      go_wp2_with fail
      refine (Hy.out (w.alloc (.cells #[.int .i64 9, .string i, .string f, .string g, .string y, .int .i64 a, .int .i64 d, .string t] 85 (0, 0)))).mono ?_
      rintro e w' ⟨rfl, rfl⟩
      go_wp2_with fail
      clear hc4 hc5 hc6 hc7 hc8 hc9 hc10 hc11
      go_ret
      exact ⟨retBo HR.out, HB3.out⟩
    | true =>
      rw [qy] at Hy
      cases qV : vok a d t with
      | false =>
        have HR := Lib.hid (show false = rightB 9 i f g y a d t by unfold rightB; rw [qi]; rw [qy]; rw [qV]; simp)
        rw [qV] at HV
        clear qV
        have HB1 := Lib.hid (Below.refl w.heap.size w)
        go_enter Try.func47, Try.ntmps47
        have HF2 := Lib.hid (blk_new w (.cells #[.int .i64 9, .string i, .string f, .string g, .string y, .int .i64 a, .int .i64 d, .string t] 85 (0, 0)))
        have HB3 := Lib.hid (HB1.out.alloc HB1.out.size (.cells #[.int .i64 9, .string i, .string f, .string g, .string y, .int .i64 a, .int .i64 d, .string t] 85 (0, 0)))
        clear HB1
        have hc4 : (w.alloc (.cells #[.int .i64 9, .string i, .string f, .string g, .string y, .int .i64 a, .int .i64 d, .string t] 85 (0, 0))).cell? ⟨w.heap.size, 0, none⟩ = some (.int .i64 9) := by rw [cell_of_row _ _ _ _ _ _ HF2.out]; rfl
        have hc5 : (w.alloc (.cells #[.int .i64 9, .string i, .string f, .string g, .string y, .int .i64 a, .int .i64 d, .string t] 85 (0, 0))).cell? ⟨w.heap.size, 1, none⟩ = some (.string i) := by rw [cell_of_row _ _ _ _ _ _ HF2.out]; rfl
        have hc6 : (w.alloc (.cells #[.int .i64 9, .string i, .string f, .string g, .string y, .int .i64 a, .int .i64 d, .string t] 85 (0, 0))).cell? ⟨w.heap.size, 2, none⟩ = some (.string f) := by rw [cell_of_row _ _ _ _ _ _ HF2.out]; rfl
        have hc7 : (w.alloc (.cells #[.int .i64 9, .string i, .string f, .string g, .string y, .int .i64 a, .int .i64 d, .string t] 85 (0, 0))).cell? ⟨w.heap.size, 3, none⟩ = some (.string g) := by rw [cell_of_row _ _ _ _ _ _ HF2.out]; rfl
        have hc8 : (w.alloc (.cells #[.int .i64 9, .string i, .string f, .string g, .string y, .int .i64 a, .int .i64 d, .string t] 85 (0, 0))).cell? ⟨w.heap.size, 4, none⟩ = some (.string y) := by rw [cell_of_row _ _ _ _ _ _ HF2.out]; rfl
        have hc9 : (w.alloc (.cells #[.int .i64 9, .string i, .string f, .string g, .string y, .int .i64 a, .int .i64 d, .string t] 85 (0, 0))).cell? ⟨w.heap.size, 5, none⟩ = some (.int .i64 a) := by rw [cell_of_row _ _ _ _ _ _ HF2.out]; rfl
        have hc10 : (w.alloc (.cells #[.int .i64 9, .string i, .string f, .string g, .string y, .int .i64 a, .int .i64 d, .string t] 85 (0, 0))).cell? ⟨w.heap.size, 6, none⟩ = some (.int .i64 d) := by rw [cell_of_row _ _ _ _ _ _ HF2.out]; rfl
        have hc11 : (w.alloc (.cells #[.int .i64 9, .string i, .string f, .string g, .string y, .int .i64 a, .int .i64 d, .string t] 85 (0, 0))).cell? ⟨w.heap.size, 7, none⟩ = some (.string t) := by rw [cell_of_row _ _ _ _ _ _ HF2.out]; rfl
        go_wp2_with fail
        refine (Hi.out (w.alloc (.cells #[.int .i64 9, .string i, .string f, .string g, .string y, .int .i64 a, .int .i64 d, .string t] 85 (0, 0)))).mono ?_
        rintro e w' ⟨rfl, rfl⟩
        go_wp2_with fail
        refine (Hy.out (w.alloc (.cells #[.int .i64 9, .string i, .string f, .string g, .string y, .int .i64 a, .int .i64 d, .string t] 85 (0, 0)))).mono ?_
        rintro e w' ⟨rfl, rfl⟩
        go_wp2_with fail
        clear hc4 hc5 hc6 hc7 hc8 hc9 hc10 hc11
        refine (HV.out (w.alloc (.cells #[.int .i64 9, .string i, .string f, .string g, .string y, .int .i64 a, .int .i64 d, .string t] 85 (0, 0)))).mono ?_
        rintro e w1 ⟨rfl, hb1⟩
        have HF12 := Lib.hid (blk_below HF2.out hb1)
        have HB13 := Lib.hid (HB3.out.trans (hb1.mono HB3.out.size))
        clear hb1 HB3 HF2
        go_wp2_with fail
        go_ret
        exact ⟨retBo HR.out, HB13.out⟩
      | true =>
        rw [qV] at HV
        have HR := Lib.hid (show true = rightB 9 i f g y a d t by unfold rightB; rw [qi]; rw [qy]; rw [qV]; simp)
        have HB1 := Lib.hid (Below.refl w.heap.size w)
        go_enter Try.func47, Try.ntmps47
        have HF2 := Lib.hid (blk_new w (.cells #[.int .i64 9, .string i, .string f, .string g, .string y, .int .i64 a, .int .i64 d, .string t] 85 (0, 0)))
        have HB3 := Lib.hid (HB1.out.alloc HB1.out.size (.cells #[.int .i64 9, .string i, .string f, .string g, .string y, .int .i64 a, .int .i64 d, .string t] 85 (0, 0)))
        clear HB1
        have hc4 : (w.alloc (.cells #[.int .i64 9, .string i, .string f, .string g, .string y, .int .i64 a, .int .i64 d, .string t] 85 (0, 0))).cell? ⟨w.heap.size, 0, none⟩ = some (.int .i64 9) := by rw [cell_of_row _ _ _ _ _ _ HF2.out]; rfl
        have hc5 : (w.alloc (.cells #[.int .i64 9, .string i, .string f, .string g, .string y, .int .i64 a, .int .i64 d, .string t] 85 (0, 0))).cell? ⟨w.heap.size, 1, none⟩ = some (.string i) := by rw [cell_of_row _ _ _ _ _ _ HF2.out]; rfl
        have hc6 : (w.alloc (.cells #[.int .i64 9, .string i, .string f, .string g, .string y, .int .i64 a, .int .i64 d, .string t] 85 (0, 0))).cell? ⟨w.heap.size, 2, none⟩ = some (.string f) := by rw [cell_of_row _ _ _ _ _ _ HF2.out]; rfl
        have hc7 : (w.alloc (.cells #[.int .i64 9, .string i, .string f, .string g, .string y, .int .i64 a, .int .i64 d, .string t] 85 (0, 0))).cell? ⟨w.heap.size, 3, none⟩ = some (.string g) := by rw [cell_of_row _ _ _ _ _ _ HF2.out]; rfl
        have hc8 : (w.alloc (.cells #[.int .i64 9, .string i, .string f, .string g, .string y, .int .i64 a, .int .i64 d, .string t] 85 (0, 0))).cell? ⟨w.heap.size, 4, none⟩ = some (.string y) := by rw [cell_of_row _ _ _ _ _ _ HF2.out]; rfl
        have hc9 : (w.alloc (.cells #[.int .i64 9, .string i, .string f, .string g, .string y, .int .i64 a, .int .i64 d, .string t] 85 (0, 0))).cell? ⟨w.heap.size, 5, none⟩ = some (.int .i64 a) := by rw [cell_of_row _ _ _ _ _ _ HF2.out]; rfl
        have hc10 : (w.alloc (.cells #[.int .i64 9, .string i, .string f, .string g, .string y, .int .i64 a, .int .i64 d, .string t] 85 (0, 0))).cell? ⟨w.heap.size, 6, none⟩ = some (.int .i64 d) := by rw [cell_of_row _ _ _ _ _ _ HF2.out]; rfl
        have hc11 : (w.alloc (.cells #[.int .i64 9, .string i, .string f, .string g, .string y, .int .i64 a, .int .i64 d, .string t] 85 (0, 0))).cell? ⟨w.heap.size, 7, none⟩ = some (.string t) := by rw [cell_of_row _ _ _ _ _ _ HF2.out]; rfl
        go_wp2_with fail
        refine (Hi.out (w.alloc (.cells #[.int .i64 9, .string i, .string f, .string g, .string y, .int .i64 a, .int .i64 d, .string t] 85 (0, 0)))).mono ?_
        rintro e w' ⟨rfl, rfl⟩
        go_wp2_with fail
        refine (Hy.out (w.alloc (.cells #[.int .i64 9, .string i, .string f, .string g, .string y, .int .i64 a, .int .i64 d, .string t] 85 (0, 0)))).mono ?_
        rintro e w' ⟨rfl, rfl⟩
        go_wp2_with fail
        clear hc4 hc5 hc6 hc7 hc8 hc9 hc10 hc11
        refine (HV.out (w.alloc (.cells #[.int .i64 9, .string i, .string f, .string g, .string y, .int .i64 a, .int .i64 d, .string t] 85 (0, 0)))).mono ?_
        rintro e w1 ⟨rfl, hb1⟩
        have HF12 := Lib.hid (blk_below HF2.out hb1)
        have HB13 := Lib.hid (HB3.out.trans (hb1.mono HB3.out.size))
        clear hb1 HB3 HF2
        go_wp2_with fail
        go_ret
        exact ⟨retBo HR.out, HB13.out⟩
set_option maxRecDepth 100000 in
set_option maxHeartbeats 4000000 in
theorem rright_10 (i f g y : ByteArray) (a d : Int) (t : ByteArray) (w : World) (hi : i.size ≤ maxLen) (_hf : f.size ≤ maxLen) (_hg : g.size ≤ maxLen) (hy : y.size ≤ maxLen) :
    Calls Try.prog 47 #[.agg #[.int .i64 10, .string i, .string f, .string g, .string y, .int .i64 a, .int .i64 d, .string t]] w fun e w' => e = .returned (.bool (rightB 10 i f g y a d t)) ∧ Below w.heap.size w w' := by
  have Hi := Lib.hid (fun W : World => refIs_any i W hi)
  have Hy := Lib.hid (fun W : World => refIs_any y W hy)
  cases qi : nm i with
  | false =>
    have HR := Lib.hid (show false = rightB 10 i f g y a d t by unfold rightB; rw [qi]; simp)
    rw [qi] at Hi
    clear qi
    have HB1 := Lib.hid (Below.refl w.heap.size w)
    go_enter Try.func47, Try.ntmps47
    have HF2 := Lib.hid (blk_new w (.cells #[.int .i64 10, .string i, .string f, .string g, .string y, .int .i64 a, .int .i64 d, .string t] 85 (0, 0)))
    have HB3 := Lib.hid (HB1.out.alloc HB1.out.size (.cells #[.int .i64 10, .string i, .string f, .string g, .string y, .int .i64 a, .int .i64 d, .string t] 85 (0, 0)))
    clear HB1
    have hc4 : (w.alloc (.cells #[.int .i64 10, .string i, .string f, .string g, .string y, .int .i64 a, .int .i64 d, .string t] 85 (0, 0))).cell? ⟨w.heap.size, 0, none⟩ = some (.int .i64 10) := by rw [cell_of_row _ _ _ _ _ _ HF2.out]; rfl
    have hc5 : (w.alloc (.cells #[.int .i64 10, .string i, .string f, .string g, .string y, .int .i64 a, .int .i64 d, .string t] 85 (0, 0))).cell? ⟨w.heap.size, 1, none⟩ = some (.string i) := by rw [cell_of_row _ _ _ _ _ _ HF2.out]; rfl
    have hc6 : (w.alloc (.cells #[.int .i64 10, .string i, .string f, .string g, .string y, .int .i64 a, .int .i64 d, .string t] 85 (0, 0))).cell? ⟨w.heap.size, 2, none⟩ = some (.string f) := by rw [cell_of_row _ _ _ _ _ _ HF2.out]; rfl
    have hc7 : (w.alloc (.cells #[.int .i64 10, .string i, .string f, .string g, .string y, .int .i64 a, .int .i64 d, .string t] 85 (0, 0))).cell? ⟨w.heap.size, 3, none⟩ = some (.string g) := by rw [cell_of_row _ _ _ _ _ _ HF2.out]; rfl
    have hc8 : (w.alloc (.cells #[.int .i64 10, .string i, .string f, .string g, .string y, .int .i64 a, .int .i64 d, .string t] 85 (0, 0))).cell? ⟨w.heap.size, 4, none⟩ = some (.string y) := by rw [cell_of_row _ _ _ _ _ _ HF2.out]; rfl
    have hc9 : (w.alloc (.cells #[.int .i64 10, .string i, .string f, .string g, .string y, .int .i64 a, .int .i64 d, .string t] 85 (0, 0))).cell? ⟨w.heap.size, 5, none⟩ = some (.int .i64 a) := by rw [cell_of_row _ _ _ _ _ _ HF2.out]; rfl
    have hc10 : (w.alloc (.cells #[.int .i64 10, .string i, .string f, .string g, .string y, .int .i64 a, .int .i64 d, .string t] 85 (0, 0))).cell? ⟨w.heap.size, 6, none⟩ = some (.int .i64 d) := by rw [cell_of_row _ _ _ _ _ _ HF2.out]; rfl
    have hc11 : (w.alloc (.cells #[.int .i64 10, .string i, .string f, .string g, .string y, .int .i64 a, .int .i64 d, .string t] 85 (0, 0))).cell? ⟨w.heap.size, 7, none⟩ = some (.string t) := by rw [cell_of_row _ _ _ _ _ _ HF2.out]; rfl
    go_wp2_with fail
    refine (Hi.out (w.alloc (.cells #[.int .i64 10, .string i, .string f, .string g, .string y, .int .i64 a, .int .i64 d, .string t] 85 (0, 0)))).mono ?_
    rintro e w' ⟨rfl, rfl⟩
    go_wp2_with fail
    clear hc4 hc5 hc6 hc7 hc8 hc9 hc10 hc11
    go_ret
    exact ⟨retBo HR.out, HB3.out⟩
  | true =>
    rw [qi] at Hi
    cases qy : nm y with
    | false =>
      have HR := Lib.hid (show false = rightB 10 i f g y a d t by unfold rightB; rw [qi]; rw [qy]; simp)
      rw [qy] at Hy
      clear qy
      have HB1 := Lib.hid (Below.refl w.heap.size w)
      go_enter Try.func47, Try.ntmps47
      have HF2 := Lib.hid (blk_new w (.cells #[.int .i64 10, .string i, .string f, .string g, .string y, .int .i64 a, .int .i64 d, .string t] 85 (0, 0)))
      have HB3 := Lib.hid (HB1.out.alloc HB1.out.size (.cells #[.int .i64 10, .string i, .string f, .string g, .string y, .int .i64 a, .int .i64 d, .string t] 85 (0, 0)))
      clear HB1
      have hc4 : (w.alloc (.cells #[.int .i64 10, .string i, .string f, .string g, .string y, .int .i64 a, .int .i64 d, .string t] 85 (0, 0))).cell? ⟨w.heap.size, 0, none⟩ = some (.int .i64 10) := by rw [cell_of_row _ _ _ _ _ _ HF2.out]; rfl
      have hc5 : (w.alloc (.cells #[.int .i64 10, .string i, .string f, .string g, .string y, .int .i64 a, .int .i64 d, .string t] 85 (0, 0))).cell? ⟨w.heap.size, 1, none⟩ = some (.string i) := by rw [cell_of_row _ _ _ _ _ _ HF2.out]; rfl
      have hc6 : (w.alloc (.cells #[.int .i64 10, .string i, .string f, .string g, .string y, .int .i64 a, .int .i64 d, .string t] 85 (0, 0))).cell? ⟨w.heap.size, 2, none⟩ = some (.string f) := by rw [cell_of_row _ _ _ _ _ _ HF2.out]; rfl
      have hc7 : (w.alloc (.cells #[.int .i64 10, .string i, .string f, .string g, .string y, .int .i64 a, .int .i64 d, .string t] 85 (0, 0))).cell? ⟨w.heap.size, 3, none⟩ = some (.string g) := by rw [cell_of_row _ _ _ _ _ _ HF2.out]; rfl
      have hc8 : (w.alloc (.cells #[.int .i64 10, .string i, .string f, .string g, .string y, .int .i64 a, .int .i64 d, .string t] 85 (0, 0))).cell? ⟨w.heap.size, 4, none⟩ = some (.string y) := by rw [cell_of_row _ _ _ _ _ _ HF2.out]; rfl
      have hc9 : (w.alloc (.cells #[.int .i64 10, .string i, .string f, .string g, .string y, .int .i64 a, .int .i64 d, .string t] 85 (0, 0))).cell? ⟨w.heap.size, 5, none⟩ = some (.int .i64 a) := by rw [cell_of_row _ _ _ _ _ _ HF2.out]; rfl
      have hc10 : (w.alloc (.cells #[.int .i64 10, .string i, .string f, .string g, .string y, .int .i64 a, .int .i64 d, .string t] 85 (0, 0))).cell? ⟨w.heap.size, 6, none⟩ = some (.int .i64 d) := by rw [cell_of_row _ _ _ _ _ _ HF2.out]; rfl
      have hc11 : (w.alloc (.cells #[.int .i64 10, .string i, .string f, .string g, .string y, .int .i64 a, .int .i64 d, .string t] 85 (0, 0))).cell? ⟨w.heap.size, 7, none⟩ = some (.string t) := by rw [cell_of_row _ _ _ _ _ _ HF2.out]; rfl
      go_wp2_with fail
      refine (Hi.out (w.alloc (.cells #[.int .i64 10, .string i, .string f, .string g, .string y, .int .i64 a, .int .i64 d, .string t] 85 (0, 0)))).mono ?_
      rintro e w' ⟨rfl, rfl⟩
      go_wp2_with fail
      refine (Hy.out (w.alloc (.cells #[.int .i64 10, .string i, .string f, .string g, .string y, .int .i64 a, .int .i64 d, .string t] 85 (0, 0)))).mono ?_
      rintro e w' ⟨rfl, rfl⟩
      go_wp2_with fail
      clear hc4 hc5 hc6 hc7 hc8 hc9 hc10 hc11
      go_ret
      exact ⟨retBo HR.out, HB3.out⟩
    | true =>
      rw [qy] at Hy
      have HR := Lib.hid (show true = rightB 10 i f g y a d t by unfold rightB; rw [qi]; rw [qy]; simp)
      have HB1 := Lib.hid (Below.refl w.heap.size w)
      go_enter Try.func47, Try.ntmps47
      have HF2 := Lib.hid (blk_new w (.cells #[.int .i64 10, .string i, .string f, .string g, .string y, .int .i64 a, .int .i64 d, .string t] 85 (0, 0)))
      have HB3 := Lib.hid (HB1.out.alloc HB1.out.size (.cells #[.int .i64 10, .string i, .string f, .string g, .string y, .int .i64 a, .int .i64 d, .string t] 85 (0, 0)))
      clear HB1
      have hc4 : (w.alloc (.cells #[.int .i64 10, .string i, .string f, .string g, .string y, .int .i64 a, .int .i64 d, .string t] 85 (0, 0))).cell? ⟨w.heap.size, 0, none⟩ = some (.int .i64 10) := by rw [cell_of_row _ _ _ _ _ _ HF2.out]; rfl
      have hc5 : (w.alloc (.cells #[.int .i64 10, .string i, .string f, .string g, .string y, .int .i64 a, .int .i64 d, .string t] 85 (0, 0))).cell? ⟨w.heap.size, 1, none⟩ = some (.string i) := by rw [cell_of_row _ _ _ _ _ _ HF2.out]; rfl
      have hc6 : (w.alloc (.cells #[.int .i64 10, .string i, .string f, .string g, .string y, .int .i64 a, .int .i64 d, .string t] 85 (0, 0))).cell? ⟨w.heap.size, 2, none⟩ = some (.string f) := by rw [cell_of_row _ _ _ _ _ _ HF2.out]; rfl
      have hc7 : (w.alloc (.cells #[.int .i64 10, .string i, .string f, .string g, .string y, .int .i64 a, .int .i64 d, .string t] 85 (0, 0))).cell? ⟨w.heap.size, 3, none⟩ = some (.string g) := by rw [cell_of_row _ _ _ _ _ _ HF2.out]; rfl
      have hc8 : (w.alloc (.cells #[.int .i64 10, .string i, .string f, .string g, .string y, .int .i64 a, .int .i64 d, .string t] 85 (0, 0))).cell? ⟨w.heap.size, 4, none⟩ = some (.string y) := by rw [cell_of_row _ _ _ _ _ _ HF2.out]; rfl
      have hc9 : (w.alloc (.cells #[.int .i64 10, .string i, .string f, .string g, .string y, .int .i64 a, .int .i64 d, .string t] 85 (0, 0))).cell? ⟨w.heap.size, 5, none⟩ = some (.int .i64 a) := by rw [cell_of_row _ _ _ _ _ _ HF2.out]; rfl
      have hc10 : (w.alloc (.cells #[.int .i64 10, .string i, .string f, .string g, .string y, .int .i64 a, .int .i64 d, .string t] 85 (0, 0))).cell? ⟨w.heap.size, 6, none⟩ = some (.int .i64 d) := by rw [cell_of_row _ _ _ _ _ _ HF2.out]; rfl
      have hc11 : (w.alloc (.cells #[.int .i64 10, .string i, .string f, .string g, .string y, .int .i64 a, .int .i64 d, .string t] 85 (0, 0))).cell? ⟨w.heap.size, 7, none⟩ = some (.string t) := by rw [cell_of_row _ _ _ _ _ _ HF2.out]; rfl
      go_wp2_with fail
      refine (Hi.out (w.alloc (.cells #[.int .i64 10, .string i, .string f, .string g, .string y, .int .i64 a, .int .i64 d, .string t] 85 (0, 0)))).mono ?_
      rintro e w' ⟨rfl, rfl⟩
      go_wp2_with fail
      refine (Hy.out (w.alloc (.cells #[.int .i64 10, .string i, .string f, .string g, .string y, .int .i64 a, .int .i64 d, .string t] 85 (0, 0)))).mono ?_
      rintro e w' ⟨rfl, rfl⟩
      go_wp2_with fail
      clear hc4 hc5 hc6 hc7 hc8 hc9 hc10 hc11
      go_ret
      exact ⟨retBo HR.out, HB3.out⟩
set_option maxRecDepth 100000 in
set_option maxHeartbeats 4000000 in
theorem rright_11 (i f g y : ByteArray) (a d : Int) (t : ByteArray) (w : World) (hi : i.size ≤ maxLen) (_hf : f.size ≤ maxLen) (_hg : g.size ≤ maxLen) (hy : y.size ≤ maxLen) :
    Calls Try.prog 47 #[.agg #[.int .i64 11, .string i, .string f, .string g, .string y, .int .i64 a, .int .i64 d, .string t]] w fun e w' => e = .returned (.bool (rightB 11 i f g y a d t)) ∧ Below w.heap.size w w' := by
  have Hi := Lib.hid (fun W : World => refIs_any i W hi)
  have Hy := Lib.hid (fun W : World => refIs_any y W hy)
  have HV := Lib.hid (fun W : World => vis_any a d t W)
  cases qi : nm i with
  | false =>
    have HR := Lib.hid (show false = rightB 11 i f g y a d t by unfold rightB; rw [qi]; simp)
    rw [qi] at Hi
    clear qi
    have HB1 := Lib.hid (Below.refl w.heap.size w)
    go_enter Try.func47, Try.ntmps47
    have HF2 := Lib.hid (blk_new w (.cells #[.int .i64 11, .string i, .string f, .string g, .string y, .int .i64 a, .int .i64 d, .string t] 85 (0, 0)))
    have HB3 := Lib.hid (HB1.out.alloc HB1.out.size (.cells #[.int .i64 11, .string i, .string f, .string g, .string y, .int .i64 a, .int .i64 d, .string t] 85 (0, 0)))
    clear HB1
    have hc4 : (w.alloc (.cells #[.int .i64 11, .string i, .string f, .string g, .string y, .int .i64 a, .int .i64 d, .string t] 85 (0, 0))).cell? ⟨w.heap.size, 0, none⟩ = some (.int .i64 11) := by rw [cell_of_row _ _ _ _ _ _ HF2.out]; rfl
    have hc5 : (w.alloc (.cells #[.int .i64 11, .string i, .string f, .string g, .string y, .int .i64 a, .int .i64 d, .string t] 85 (0, 0))).cell? ⟨w.heap.size, 1, none⟩ = some (.string i) := by rw [cell_of_row _ _ _ _ _ _ HF2.out]; rfl
    have hc6 : (w.alloc (.cells #[.int .i64 11, .string i, .string f, .string g, .string y, .int .i64 a, .int .i64 d, .string t] 85 (0, 0))).cell? ⟨w.heap.size, 2, none⟩ = some (.string f) := by rw [cell_of_row _ _ _ _ _ _ HF2.out]; rfl
    have hc7 : (w.alloc (.cells #[.int .i64 11, .string i, .string f, .string g, .string y, .int .i64 a, .int .i64 d, .string t] 85 (0, 0))).cell? ⟨w.heap.size, 3, none⟩ = some (.string g) := by rw [cell_of_row _ _ _ _ _ _ HF2.out]; rfl
    have hc8 : (w.alloc (.cells #[.int .i64 11, .string i, .string f, .string g, .string y, .int .i64 a, .int .i64 d, .string t] 85 (0, 0))).cell? ⟨w.heap.size, 4, none⟩ = some (.string y) := by rw [cell_of_row _ _ _ _ _ _ HF2.out]; rfl
    have hc9 : (w.alloc (.cells #[.int .i64 11, .string i, .string f, .string g, .string y, .int .i64 a, .int .i64 d, .string t] 85 (0, 0))).cell? ⟨w.heap.size, 5, none⟩ = some (.int .i64 a) := by rw [cell_of_row _ _ _ _ _ _ HF2.out]; rfl
    have hc10 : (w.alloc (.cells #[.int .i64 11, .string i, .string f, .string g, .string y, .int .i64 a, .int .i64 d, .string t] 85 (0, 0))).cell? ⟨w.heap.size, 6, none⟩ = some (.int .i64 d) := by rw [cell_of_row _ _ _ _ _ _ HF2.out]; rfl
    have hc11 : (w.alloc (.cells #[.int .i64 11, .string i, .string f, .string g, .string y, .int .i64 a, .int .i64 d, .string t] 85 (0, 0))).cell? ⟨w.heap.size, 7, none⟩ = some (.string t) := by rw [cell_of_row _ _ _ _ _ _ HF2.out]; rfl
    go_wp2_with fail
    refine (Hi.out (w.alloc (.cells #[.int .i64 11, .string i, .string f, .string g, .string y, .int .i64 a, .int .i64 d, .string t] 85 (0, 0)))).mono ?_
    rintro e w' ⟨rfl, rfl⟩
    go_wp2_with fail
    clear hc4 hc5 hc6 hc7 hc8 hc9 hc10 hc11
    go_ret
    exact ⟨retBo HR.out, HB3.out⟩
  | true =>
    rw [qi] at Hi
    cases qy : nm y with
    | false =>
      have HR := Lib.hid (show false = rightB 11 i f g y a d t by unfold rightB; rw [qi]; rw [qy]; simp)
      rw [qy] at Hy
      clear qy
      have HB1 := Lib.hid (Below.refl w.heap.size w)
      go_enter Try.func47, Try.ntmps47
      have HF2 := Lib.hid (blk_new w (.cells #[.int .i64 11, .string i, .string f, .string g, .string y, .int .i64 a, .int .i64 d, .string t] 85 (0, 0)))
      have HB3 := Lib.hid (HB1.out.alloc HB1.out.size (.cells #[.int .i64 11, .string i, .string f, .string g, .string y, .int .i64 a, .int .i64 d, .string t] 85 (0, 0)))
      clear HB1
      have hc4 : (w.alloc (.cells #[.int .i64 11, .string i, .string f, .string g, .string y, .int .i64 a, .int .i64 d, .string t] 85 (0, 0))).cell? ⟨w.heap.size, 0, none⟩ = some (.int .i64 11) := by rw [cell_of_row _ _ _ _ _ _ HF2.out]; rfl
      have hc5 : (w.alloc (.cells #[.int .i64 11, .string i, .string f, .string g, .string y, .int .i64 a, .int .i64 d, .string t] 85 (0, 0))).cell? ⟨w.heap.size, 1, none⟩ = some (.string i) := by rw [cell_of_row _ _ _ _ _ _ HF2.out]; rfl
      have hc6 : (w.alloc (.cells #[.int .i64 11, .string i, .string f, .string g, .string y, .int .i64 a, .int .i64 d, .string t] 85 (0, 0))).cell? ⟨w.heap.size, 2, none⟩ = some (.string f) := by rw [cell_of_row _ _ _ _ _ _ HF2.out]; rfl
      have hc7 : (w.alloc (.cells #[.int .i64 11, .string i, .string f, .string g, .string y, .int .i64 a, .int .i64 d, .string t] 85 (0, 0))).cell? ⟨w.heap.size, 3, none⟩ = some (.string g) := by rw [cell_of_row _ _ _ _ _ _ HF2.out]; rfl
      have hc8 : (w.alloc (.cells #[.int .i64 11, .string i, .string f, .string g, .string y, .int .i64 a, .int .i64 d, .string t] 85 (0, 0))).cell? ⟨w.heap.size, 4, none⟩ = some (.string y) := by rw [cell_of_row _ _ _ _ _ _ HF2.out]; rfl
      have hc9 : (w.alloc (.cells #[.int .i64 11, .string i, .string f, .string g, .string y, .int .i64 a, .int .i64 d, .string t] 85 (0, 0))).cell? ⟨w.heap.size, 5, none⟩ = some (.int .i64 a) := by rw [cell_of_row _ _ _ _ _ _ HF2.out]; rfl
      have hc10 : (w.alloc (.cells #[.int .i64 11, .string i, .string f, .string g, .string y, .int .i64 a, .int .i64 d, .string t] 85 (0, 0))).cell? ⟨w.heap.size, 6, none⟩ = some (.int .i64 d) := by rw [cell_of_row _ _ _ _ _ _ HF2.out]; rfl
      have hc11 : (w.alloc (.cells #[.int .i64 11, .string i, .string f, .string g, .string y, .int .i64 a, .int .i64 d, .string t] 85 (0, 0))).cell? ⟨w.heap.size, 7, none⟩ = some (.string t) := by rw [cell_of_row _ _ _ _ _ _ HF2.out]; rfl
      go_wp2_with fail
      refine (Hi.out (w.alloc (.cells #[.int .i64 11, .string i, .string f, .string g, .string y, .int .i64 a, .int .i64 d, .string t] 85 (0, 0)))).mono ?_
      rintro e w' ⟨rfl, rfl⟩
      go_wp2_with fail
      refine (Hy.out (w.alloc (.cells #[.int .i64 11, .string i, .string f, .string g, .string y, .int .i64 a, .int .i64 d, .string t] 85 (0, 0)))).mono ?_
      rintro e w' ⟨rfl, rfl⟩
      go_wp2_with fail
      clear hc4 hc5 hc6 hc7 hc8 hc9 hc10 hc11
      go_ret
      exact ⟨retBo HR.out, HB3.out⟩
    | true =>
      rw [qy] at Hy
      cases qV : vok a d t with
      | false =>
        have HR := Lib.hid (show false = rightB 11 i f g y a d t by unfold rightB; rw [qi]; rw [qy]; rw [qV]; simp)
        rw [qV] at HV
        clear qV
        have HB1 := Lib.hid (Below.refl w.heap.size w)
        go_enter Try.func47, Try.ntmps47
        have HF2 := Lib.hid (blk_new w (.cells #[.int .i64 11, .string i, .string f, .string g, .string y, .int .i64 a, .int .i64 d, .string t] 85 (0, 0)))
        have HB3 := Lib.hid (HB1.out.alloc HB1.out.size (.cells #[.int .i64 11, .string i, .string f, .string g, .string y, .int .i64 a, .int .i64 d, .string t] 85 (0, 0)))
        clear HB1
        have hc4 : (w.alloc (.cells #[.int .i64 11, .string i, .string f, .string g, .string y, .int .i64 a, .int .i64 d, .string t] 85 (0, 0))).cell? ⟨w.heap.size, 0, none⟩ = some (.int .i64 11) := by rw [cell_of_row _ _ _ _ _ _ HF2.out]; rfl
        have hc5 : (w.alloc (.cells #[.int .i64 11, .string i, .string f, .string g, .string y, .int .i64 a, .int .i64 d, .string t] 85 (0, 0))).cell? ⟨w.heap.size, 1, none⟩ = some (.string i) := by rw [cell_of_row _ _ _ _ _ _ HF2.out]; rfl
        have hc6 : (w.alloc (.cells #[.int .i64 11, .string i, .string f, .string g, .string y, .int .i64 a, .int .i64 d, .string t] 85 (0, 0))).cell? ⟨w.heap.size, 2, none⟩ = some (.string f) := by rw [cell_of_row _ _ _ _ _ _ HF2.out]; rfl
        have hc7 : (w.alloc (.cells #[.int .i64 11, .string i, .string f, .string g, .string y, .int .i64 a, .int .i64 d, .string t] 85 (0, 0))).cell? ⟨w.heap.size, 3, none⟩ = some (.string g) := by rw [cell_of_row _ _ _ _ _ _ HF2.out]; rfl
        have hc8 : (w.alloc (.cells #[.int .i64 11, .string i, .string f, .string g, .string y, .int .i64 a, .int .i64 d, .string t] 85 (0, 0))).cell? ⟨w.heap.size, 4, none⟩ = some (.string y) := by rw [cell_of_row _ _ _ _ _ _ HF2.out]; rfl
        have hc9 : (w.alloc (.cells #[.int .i64 11, .string i, .string f, .string g, .string y, .int .i64 a, .int .i64 d, .string t] 85 (0, 0))).cell? ⟨w.heap.size, 5, none⟩ = some (.int .i64 a) := by rw [cell_of_row _ _ _ _ _ _ HF2.out]; rfl
        have hc10 : (w.alloc (.cells #[.int .i64 11, .string i, .string f, .string g, .string y, .int .i64 a, .int .i64 d, .string t] 85 (0, 0))).cell? ⟨w.heap.size, 6, none⟩ = some (.int .i64 d) := by rw [cell_of_row _ _ _ _ _ _ HF2.out]; rfl
        have hc11 : (w.alloc (.cells #[.int .i64 11, .string i, .string f, .string g, .string y, .int .i64 a, .int .i64 d, .string t] 85 (0, 0))).cell? ⟨w.heap.size, 7, none⟩ = some (.string t) := by rw [cell_of_row _ _ _ _ _ _ HF2.out]; rfl
        go_wp2_with fail
        refine (Hi.out (w.alloc (.cells #[.int .i64 11, .string i, .string f, .string g, .string y, .int .i64 a, .int .i64 d, .string t] 85 (0, 0)))).mono ?_
        rintro e w' ⟨rfl, rfl⟩
        go_wp2_with fail
        refine (Hy.out (w.alloc (.cells #[.int .i64 11, .string i, .string f, .string g, .string y, .int .i64 a, .int .i64 d, .string t] 85 (0, 0)))).mono ?_
        rintro e w' ⟨rfl, rfl⟩
        go_wp2_with fail
        clear hc4 hc5 hc6 hc7 hc8 hc9 hc10 hc11
        refine (HV.out (w.alloc (.cells #[.int .i64 11, .string i, .string f, .string g, .string y, .int .i64 a, .int .i64 d, .string t] 85 (0, 0)))).mono ?_
        rintro e w1 ⟨rfl, hb1⟩
        have HF12 := Lib.hid (blk_below HF2.out hb1)
        have HB13 := Lib.hid (HB3.out.trans (hb1.mono HB3.out.size))
        clear hb1 HB3 HF2
        go_wp2_with fail
        go_ret
        exact ⟨retBo HR.out, HB13.out⟩
      | true =>
        rw [qV] at HV
        have HR := Lib.hid (show true = rightB 11 i f g y a d t by unfold rightB; rw [qi]; rw [qy]; rw [qV]; simp)
        have HB1 := Lib.hid (Below.refl w.heap.size w)
        go_enter Try.func47, Try.ntmps47
        have HF2 := Lib.hid (blk_new w (.cells #[.int .i64 11, .string i, .string f, .string g, .string y, .int .i64 a, .int .i64 d, .string t] 85 (0, 0)))
        have HB3 := Lib.hid (HB1.out.alloc HB1.out.size (.cells #[.int .i64 11, .string i, .string f, .string g, .string y, .int .i64 a, .int .i64 d, .string t] 85 (0, 0)))
        clear HB1
        have hc4 : (w.alloc (.cells #[.int .i64 11, .string i, .string f, .string g, .string y, .int .i64 a, .int .i64 d, .string t] 85 (0, 0))).cell? ⟨w.heap.size, 0, none⟩ = some (.int .i64 11) := by rw [cell_of_row _ _ _ _ _ _ HF2.out]; rfl
        have hc5 : (w.alloc (.cells #[.int .i64 11, .string i, .string f, .string g, .string y, .int .i64 a, .int .i64 d, .string t] 85 (0, 0))).cell? ⟨w.heap.size, 1, none⟩ = some (.string i) := by rw [cell_of_row _ _ _ _ _ _ HF2.out]; rfl
        have hc6 : (w.alloc (.cells #[.int .i64 11, .string i, .string f, .string g, .string y, .int .i64 a, .int .i64 d, .string t] 85 (0, 0))).cell? ⟨w.heap.size, 2, none⟩ = some (.string f) := by rw [cell_of_row _ _ _ _ _ _ HF2.out]; rfl
        have hc7 : (w.alloc (.cells #[.int .i64 11, .string i, .string f, .string g, .string y, .int .i64 a, .int .i64 d, .string t] 85 (0, 0))).cell? ⟨w.heap.size, 3, none⟩ = some (.string g) := by rw [cell_of_row _ _ _ _ _ _ HF2.out]; rfl
        have hc8 : (w.alloc (.cells #[.int .i64 11, .string i, .string f, .string g, .string y, .int .i64 a, .int .i64 d, .string t] 85 (0, 0))).cell? ⟨w.heap.size, 4, none⟩ = some (.string y) := by rw [cell_of_row _ _ _ _ _ _ HF2.out]; rfl
        have hc9 : (w.alloc (.cells #[.int .i64 11, .string i, .string f, .string g, .string y, .int .i64 a, .int .i64 d, .string t] 85 (0, 0))).cell? ⟨w.heap.size, 5, none⟩ = some (.int .i64 a) := by rw [cell_of_row _ _ _ _ _ _ HF2.out]; rfl
        have hc10 : (w.alloc (.cells #[.int .i64 11, .string i, .string f, .string g, .string y, .int .i64 a, .int .i64 d, .string t] 85 (0, 0))).cell? ⟨w.heap.size, 6, none⟩ = some (.int .i64 d) := by rw [cell_of_row _ _ _ _ _ _ HF2.out]; rfl
        have hc11 : (w.alloc (.cells #[.int .i64 11, .string i, .string f, .string g, .string y, .int .i64 a, .int .i64 d, .string t] 85 (0, 0))).cell? ⟨w.heap.size, 7, none⟩ = some (.string t) := by rw [cell_of_row _ _ _ _ _ _ HF2.out]; rfl
        go_wp2_with fail
        refine (Hi.out (w.alloc (.cells #[.int .i64 11, .string i, .string f, .string g, .string y, .int .i64 a, .int .i64 d, .string t] 85 (0, 0)))).mono ?_
        rintro e w' ⟨rfl, rfl⟩
        go_wp2_with fail
        refine (Hy.out (w.alloc (.cells #[.int .i64 11, .string i, .string f, .string g, .string y, .int .i64 a, .int .i64 d, .string t] 85 (0, 0)))).mono ?_
        rintro e w' ⟨rfl, rfl⟩
        go_wp2_with fail
        clear hc4 hc5 hc6 hc7 hc8 hc9 hc10 hc11
        refine (HV.out (w.alloc (.cells #[.int .i64 11, .string i, .string f, .string g, .string y, .int .i64 a, .int .i64 d, .string t] 85 (0, 0)))).mono ?_
        rintro e w1 ⟨rfl, hb1⟩
        have HF12 := Lib.hid (blk_below HF2.out hb1)
        have HB13 := Lib.hid (HB3.out.trans (hb1.mono HB3.out.size))
        clear hb1 HB3 HF2
        go_wp2_with fail
        go_ret
        exact ⟨retBo HR.out, HB13.out⟩
set_option maxRecDepth 100000 in
set_option maxHeartbeats 4000000 in
theorem rright_12 (i f g y : ByteArray) (a d : Int) (t : ByteArray) (w : World) (hi : i.size ≤ maxLen) (_hf : f.size ≤ maxLen) (_hg : g.size ≤ maxLen) (hy : y.size ≤ maxLen) :
    Calls Try.prog 47 #[.agg #[.int .i64 12, .string i, .string f, .string g, .string y, .int .i64 a, .int .i64 d, .string t]] w fun e w' => e = .returned (.bool (rightB 12 i f g y a d t)) ∧ Below w.heap.size w w' := by
  have Hi := Lib.hid (fun W : World => refIs_any i W hi)
  have Hy := Lib.hid (fun W : World => refIs_any y W hy)
  cases qi : nm i with
  | false =>
    have HR := Lib.hid (show false = rightB 12 i f g y a d t by unfold rightB; rw [qi]; simp)
    rw [qi] at Hi
    clear qi
    have HB1 := Lib.hid (Below.refl w.heap.size w)
    go_enter Try.func47, Try.ntmps47
    have HF2 := Lib.hid (blk_new w (.cells #[.int .i64 12, .string i, .string f, .string g, .string y, .int .i64 a, .int .i64 d, .string t] 85 (0, 0)))
    have HB3 := Lib.hid (HB1.out.alloc HB1.out.size (.cells #[.int .i64 12, .string i, .string f, .string g, .string y, .int .i64 a, .int .i64 d, .string t] 85 (0, 0)))
    clear HB1
    have hc4 : (w.alloc (.cells #[.int .i64 12, .string i, .string f, .string g, .string y, .int .i64 a, .int .i64 d, .string t] 85 (0, 0))).cell? ⟨w.heap.size, 0, none⟩ = some (.int .i64 12) := by rw [cell_of_row _ _ _ _ _ _ HF2.out]; rfl
    have hc5 : (w.alloc (.cells #[.int .i64 12, .string i, .string f, .string g, .string y, .int .i64 a, .int .i64 d, .string t] 85 (0, 0))).cell? ⟨w.heap.size, 1, none⟩ = some (.string i) := by rw [cell_of_row _ _ _ _ _ _ HF2.out]; rfl
    have hc6 : (w.alloc (.cells #[.int .i64 12, .string i, .string f, .string g, .string y, .int .i64 a, .int .i64 d, .string t] 85 (0, 0))).cell? ⟨w.heap.size, 2, none⟩ = some (.string f) := by rw [cell_of_row _ _ _ _ _ _ HF2.out]; rfl
    have hc7 : (w.alloc (.cells #[.int .i64 12, .string i, .string f, .string g, .string y, .int .i64 a, .int .i64 d, .string t] 85 (0, 0))).cell? ⟨w.heap.size, 3, none⟩ = some (.string g) := by rw [cell_of_row _ _ _ _ _ _ HF2.out]; rfl
    have hc8 : (w.alloc (.cells #[.int .i64 12, .string i, .string f, .string g, .string y, .int .i64 a, .int .i64 d, .string t] 85 (0, 0))).cell? ⟨w.heap.size, 4, none⟩ = some (.string y) := by rw [cell_of_row _ _ _ _ _ _ HF2.out]; rfl
    have hc9 : (w.alloc (.cells #[.int .i64 12, .string i, .string f, .string g, .string y, .int .i64 a, .int .i64 d, .string t] 85 (0, 0))).cell? ⟨w.heap.size, 5, none⟩ = some (.int .i64 a) := by rw [cell_of_row _ _ _ _ _ _ HF2.out]; rfl
    have hc10 : (w.alloc (.cells #[.int .i64 12, .string i, .string f, .string g, .string y, .int .i64 a, .int .i64 d, .string t] 85 (0, 0))).cell? ⟨w.heap.size, 6, none⟩ = some (.int .i64 d) := by rw [cell_of_row _ _ _ _ _ _ HF2.out]; rfl
    have hc11 : (w.alloc (.cells #[.int .i64 12, .string i, .string f, .string g, .string y, .int .i64 a, .int .i64 d, .string t] 85 (0, 0))).cell? ⟨w.heap.size, 7, none⟩ = some (.string t) := by rw [cell_of_row _ _ _ _ _ _ HF2.out]; rfl
    go_wp2_with fail
    refine (Hi.out (w.alloc (.cells #[.int .i64 12, .string i, .string f, .string g, .string y, .int .i64 a, .int .i64 d, .string t] 85 (0, 0)))).mono ?_
    rintro e w' ⟨rfl, rfl⟩
    go_wp2_with fail
    clear hc4 hc5 hc6 hc7 hc8 hc9 hc10 hc11
    go_ret
    exact ⟨retBo HR.out, HB3.out⟩
  | true =>
    rw [qi] at Hi
    cases qy : nm y with
    | false =>
      have HR := Lib.hid (show false = rightB 12 i f g y a d t by unfold rightB; rw [qi]; rw [qy]; simp)
      rw [qy] at Hy
      clear qy
      have HB1 := Lib.hid (Below.refl w.heap.size w)
      go_enter Try.func47, Try.ntmps47
      have HF2 := Lib.hid (blk_new w (.cells #[.int .i64 12, .string i, .string f, .string g, .string y, .int .i64 a, .int .i64 d, .string t] 85 (0, 0)))
      have HB3 := Lib.hid (HB1.out.alloc HB1.out.size (.cells #[.int .i64 12, .string i, .string f, .string g, .string y, .int .i64 a, .int .i64 d, .string t] 85 (0, 0)))
      clear HB1
      have hc4 : (w.alloc (.cells #[.int .i64 12, .string i, .string f, .string g, .string y, .int .i64 a, .int .i64 d, .string t] 85 (0, 0))).cell? ⟨w.heap.size, 0, none⟩ = some (.int .i64 12) := by rw [cell_of_row _ _ _ _ _ _ HF2.out]; rfl
      have hc5 : (w.alloc (.cells #[.int .i64 12, .string i, .string f, .string g, .string y, .int .i64 a, .int .i64 d, .string t] 85 (0, 0))).cell? ⟨w.heap.size, 1, none⟩ = some (.string i) := by rw [cell_of_row _ _ _ _ _ _ HF2.out]; rfl
      have hc6 : (w.alloc (.cells #[.int .i64 12, .string i, .string f, .string g, .string y, .int .i64 a, .int .i64 d, .string t] 85 (0, 0))).cell? ⟨w.heap.size, 2, none⟩ = some (.string f) := by rw [cell_of_row _ _ _ _ _ _ HF2.out]; rfl
      have hc7 : (w.alloc (.cells #[.int .i64 12, .string i, .string f, .string g, .string y, .int .i64 a, .int .i64 d, .string t] 85 (0, 0))).cell? ⟨w.heap.size, 3, none⟩ = some (.string g) := by rw [cell_of_row _ _ _ _ _ _ HF2.out]; rfl
      have hc8 : (w.alloc (.cells #[.int .i64 12, .string i, .string f, .string g, .string y, .int .i64 a, .int .i64 d, .string t] 85 (0, 0))).cell? ⟨w.heap.size, 4, none⟩ = some (.string y) := by rw [cell_of_row _ _ _ _ _ _ HF2.out]; rfl
      have hc9 : (w.alloc (.cells #[.int .i64 12, .string i, .string f, .string g, .string y, .int .i64 a, .int .i64 d, .string t] 85 (0, 0))).cell? ⟨w.heap.size, 5, none⟩ = some (.int .i64 a) := by rw [cell_of_row _ _ _ _ _ _ HF2.out]; rfl
      have hc10 : (w.alloc (.cells #[.int .i64 12, .string i, .string f, .string g, .string y, .int .i64 a, .int .i64 d, .string t] 85 (0, 0))).cell? ⟨w.heap.size, 6, none⟩ = some (.int .i64 d) := by rw [cell_of_row _ _ _ _ _ _ HF2.out]; rfl
      have hc11 : (w.alloc (.cells #[.int .i64 12, .string i, .string f, .string g, .string y, .int .i64 a, .int .i64 d, .string t] 85 (0, 0))).cell? ⟨w.heap.size, 7, none⟩ = some (.string t) := by rw [cell_of_row _ _ _ _ _ _ HF2.out]; rfl
      go_wp2_with fail
      refine (Hi.out (w.alloc (.cells #[.int .i64 12, .string i, .string f, .string g, .string y, .int .i64 a, .int .i64 d, .string t] 85 (0, 0)))).mono ?_
      rintro e w' ⟨rfl, rfl⟩
      go_wp2_with fail
      refine (Hy.out (w.alloc (.cells #[.int .i64 12, .string i, .string f, .string g, .string y, .int .i64 a, .int .i64 d, .string t] 85 (0, 0)))).mono ?_
      rintro e w' ⟨rfl, rfl⟩
      go_wp2_with fail
      clear hc4 hc5 hc6 hc7 hc8 hc9 hc10 hc11
      go_ret
      exact ⟨retBo HR.out, HB3.out⟩
    | true =>
      rw [qy] at Hy
      have HR := Lib.hid (show true = rightB 12 i f g y a d t by unfold rightB; rw [qi]; rw [qy]; simp)
      have HB1 := Lib.hid (Below.refl w.heap.size w)
      go_enter Try.func47, Try.ntmps47
      have HF2 := Lib.hid (blk_new w (.cells #[.int .i64 12, .string i, .string f, .string g, .string y, .int .i64 a, .int .i64 d, .string t] 85 (0, 0)))
      have HB3 := Lib.hid (HB1.out.alloc HB1.out.size (.cells #[.int .i64 12, .string i, .string f, .string g, .string y, .int .i64 a, .int .i64 d, .string t] 85 (0, 0)))
      clear HB1
      have hc4 : (w.alloc (.cells #[.int .i64 12, .string i, .string f, .string g, .string y, .int .i64 a, .int .i64 d, .string t] 85 (0, 0))).cell? ⟨w.heap.size, 0, none⟩ = some (.int .i64 12) := by rw [cell_of_row _ _ _ _ _ _ HF2.out]; rfl
      have hc5 : (w.alloc (.cells #[.int .i64 12, .string i, .string f, .string g, .string y, .int .i64 a, .int .i64 d, .string t] 85 (0, 0))).cell? ⟨w.heap.size, 1, none⟩ = some (.string i) := by rw [cell_of_row _ _ _ _ _ _ HF2.out]; rfl
      have hc6 : (w.alloc (.cells #[.int .i64 12, .string i, .string f, .string g, .string y, .int .i64 a, .int .i64 d, .string t] 85 (0, 0))).cell? ⟨w.heap.size, 2, none⟩ = some (.string f) := by rw [cell_of_row _ _ _ _ _ _ HF2.out]; rfl
      have hc7 : (w.alloc (.cells #[.int .i64 12, .string i, .string f, .string g, .string y, .int .i64 a, .int .i64 d, .string t] 85 (0, 0))).cell? ⟨w.heap.size, 3, none⟩ = some (.string g) := by rw [cell_of_row _ _ _ _ _ _ HF2.out]; rfl
      have hc8 : (w.alloc (.cells #[.int .i64 12, .string i, .string f, .string g, .string y, .int .i64 a, .int .i64 d, .string t] 85 (0, 0))).cell? ⟨w.heap.size, 4, none⟩ = some (.string y) := by rw [cell_of_row _ _ _ _ _ _ HF2.out]; rfl
      have hc9 : (w.alloc (.cells #[.int .i64 12, .string i, .string f, .string g, .string y, .int .i64 a, .int .i64 d, .string t] 85 (0, 0))).cell? ⟨w.heap.size, 5, none⟩ = some (.int .i64 a) := by rw [cell_of_row _ _ _ _ _ _ HF2.out]; rfl
      have hc10 : (w.alloc (.cells #[.int .i64 12, .string i, .string f, .string g, .string y, .int .i64 a, .int .i64 d, .string t] 85 (0, 0))).cell? ⟨w.heap.size, 6, none⟩ = some (.int .i64 d) := by rw [cell_of_row _ _ _ _ _ _ HF2.out]; rfl
      have hc11 : (w.alloc (.cells #[.int .i64 12, .string i, .string f, .string g, .string y, .int .i64 a, .int .i64 d, .string t] 85 (0, 0))).cell? ⟨w.heap.size, 7, none⟩ = some (.string t) := by rw [cell_of_row _ _ _ _ _ _ HF2.out]; rfl
      go_wp2_with fail
      refine (Hi.out (w.alloc (.cells #[.int .i64 12, .string i, .string f, .string g, .string y, .int .i64 a, .int .i64 d, .string t] 85 (0, 0)))).mono ?_
      rintro e w' ⟨rfl, rfl⟩
      go_wp2_with fail
      refine (Hy.out (w.alloc (.cells #[.int .i64 12, .string i, .string f, .string g, .string y, .int .i64 a, .int .i64 d, .string t] 85 (0, 0)))).mono ?_
      rintro e w' ⟨rfl, rfl⟩
      go_wp2_with fail
      clear hc4 hc5 hc6 hc7 hc8 hc9 hc10 hc11
      go_ret
      exact ⟨retBo HR.out, HB3.out⟩
set_option maxRecDepth 100000 in
theorem rright_no (k : Int) (i f g y : ByteArray) (a d : Int) (t : ByteArray) (w : World) (hi : i.size ≤ maxLen) (hk : k < 1 ∨ 12 < k) :
    Calls Try.prog 47 #[.agg #[.int .i64 k, .string i, .string f, .string g, .string y, .int .i64 a, .int .i64 d, .string t]] w fun e w' => e = .returned (.bool (rightB k i f g y a d t)) ∧ Below w.heap.size w w' := by
  have Hi := Lib.hid (fun W : World => refIs_any i W hi)
  have HR := Lib.hid (show false = rightB k i f g y a d t by
    unfold rightB
    rcases hk with h | h
    · rw [decide_eq_false (show ¬ 1 ≤ k by omega)]; simp
    · rw [decide_eq_false (show ¬ k ≤ 12 by omega)]; simp)
  generalize nm i = b at Hi
  rcases hk with h | h
  · have d1 : decide (k < 1) = true := decide_eq_true h
    clear h
    cases b
    all_goals
      have HB1 := Lib.hid (Below.refl w.heap.size w)
      go_enter Try.func47, Try.ntmps47
      have HF2 := Lib.hid (blk_new w (.cells #[.int .i64 k, .string i, .string f, .string g, .string y, .int .i64 a, .int .i64 d, .string t] 85 (0, 0)))
      have HB3 := Lib.hid (HB1.out.alloc HB1.out.size (.cells #[.int .i64 k, .string i, .string f, .string g, .string y, .int .i64 a, .int .i64 d, .string t] 85 (0, 0)))
      clear HB1
      have hc4 : (w.alloc (.cells #[.int .i64 k, .string i, .string f, .string g, .string y, .int .i64 a, .int .i64 d, .string t] 85 (0, 0))).cell? ⟨w.heap.size, 0, none⟩ = some (.int .i64 k) := by rw [cell_of_row _ _ _ _ _ _ HF2.out]; rfl
      have hc5 : (w.alloc (.cells #[.int .i64 k, .string i, .string f, .string g, .string y, .int .i64 a, .int .i64 d, .string t] 85 (0, 0))).cell? ⟨w.heap.size, 1, none⟩ = some (.string i) := by rw [cell_of_row _ _ _ _ _ _ HF2.out]; rfl
      have hc6 : (w.alloc (.cells #[.int .i64 k, .string i, .string f, .string g, .string y, .int .i64 a, .int .i64 d, .string t] 85 (0, 0))).cell? ⟨w.heap.size, 2, none⟩ = some (.string f) := by rw [cell_of_row _ _ _ _ _ _ HF2.out]; rfl
      have hc7 : (w.alloc (.cells #[.int .i64 k, .string i, .string f, .string g, .string y, .int .i64 a, .int .i64 d, .string t] 85 (0, 0))).cell? ⟨w.heap.size, 3, none⟩ = some (.string g) := by rw [cell_of_row _ _ _ _ _ _ HF2.out]; rfl
      have hc8 : (w.alloc (.cells #[.int .i64 k, .string i, .string f, .string g, .string y, .int .i64 a, .int .i64 d, .string t] 85 (0, 0))).cell? ⟨w.heap.size, 4, none⟩ = some (.string y) := by rw [cell_of_row _ _ _ _ _ _ HF2.out]; rfl
      have hc9 : (w.alloc (.cells #[.int .i64 k, .string i, .string f, .string g, .string y, .int .i64 a, .int .i64 d, .string t] 85 (0, 0))).cell? ⟨w.heap.size, 5, none⟩ = some (.int .i64 a) := by rw [cell_of_row _ _ _ _ _ _ HF2.out]; rfl
      have hc10 : (w.alloc (.cells #[.int .i64 k, .string i, .string f, .string g, .string y, .int .i64 a, .int .i64 d, .string t] 85 (0, 0))).cell? ⟨w.heap.size, 6, none⟩ = some (.int .i64 d) := by rw [cell_of_row _ _ _ _ _ _ HF2.out]; rfl
      have hc11 : (w.alloc (.cells #[.int .i64 k, .string i, .string f, .string g, .string y, .int .i64 a, .int .i64 d, .string t] 85 (0, 0))).cell? ⟨w.heap.size, 7, none⟩ = some (.string t) := by rw [cell_of_row _ _ _ _ _ _ HF2.out]; rfl
      go_wp2_with fail
      refine (Hi.out (w.alloc (.cells #[.int .i64 k, .string i, .string f, .string g, .string y, .int .i64 a, .int .i64 d, .string t] 85 (0, 0)))).mono ?_
      rintro e w' ⟨rfl, rfl⟩
      go_wp2_with fail
      clear hc4 hc5 hc6 hc7 hc8 hc9 hc10 hc11
      go_ret
      exact ⟨retBo HR.out, HB3.out⟩
  · have d1 : decide (k < 1) = false := decide_eq_false (by omega)
    have d2 : decide (12 < k) = true := decide_eq_true h
    clear h
    cases b
    all_goals
      have HB1 := Lib.hid (Below.refl w.heap.size w)
      go_enter Try.func47, Try.ntmps47
      have HF2 := Lib.hid (blk_new w (.cells #[.int .i64 k, .string i, .string f, .string g, .string y, .int .i64 a, .int .i64 d, .string t] 85 (0, 0)))
      have HB3 := Lib.hid (HB1.out.alloc HB1.out.size (.cells #[.int .i64 k, .string i, .string f, .string g, .string y, .int .i64 a, .int .i64 d, .string t] 85 (0, 0)))
      clear HB1
      have hc4 : (w.alloc (.cells #[.int .i64 k, .string i, .string f, .string g, .string y, .int .i64 a, .int .i64 d, .string t] 85 (0, 0))).cell? ⟨w.heap.size, 0, none⟩ = some (.int .i64 k) := by rw [cell_of_row _ _ _ _ _ _ HF2.out]; rfl
      have hc5 : (w.alloc (.cells #[.int .i64 k, .string i, .string f, .string g, .string y, .int .i64 a, .int .i64 d, .string t] 85 (0, 0))).cell? ⟨w.heap.size, 1, none⟩ = some (.string i) := by rw [cell_of_row _ _ _ _ _ _ HF2.out]; rfl
      have hc6 : (w.alloc (.cells #[.int .i64 k, .string i, .string f, .string g, .string y, .int .i64 a, .int .i64 d, .string t] 85 (0, 0))).cell? ⟨w.heap.size, 2, none⟩ = some (.string f) := by rw [cell_of_row _ _ _ _ _ _ HF2.out]; rfl
      have hc7 : (w.alloc (.cells #[.int .i64 k, .string i, .string f, .string g, .string y, .int .i64 a, .int .i64 d, .string t] 85 (0, 0))).cell? ⟨w.heap.size, 3, none⟩ = some (.string g) := by rw [cell_of_row _ _ _ _ _ _ HF2.out]; rfl
      have hc8 : (w.alloc (.cells #[.int .i64 k, .string i, .string f, .string g, .string y, .int .i64 a, .int .i64 d, .string t] 85 (0, 0))).cell? ⟨w.heap.size, 4, none⟩ = some (.string y) := by rw [cell_of_row _ _ _ _ _ _ HF2.out]; rfl
      have hc9 : (w.alloc (.cells #[.int .i64 k, .string i, .string f, .string g, .string y, .int .i64 a, .int .i64 d, .string t] 85 (0, 0))).cell? ⟨w.heap.size, 5, none⟩ = some (.int .i64 a) := by rw [cell_of_row _ _ _ _ _ _ HF2.out]; rfl
      have hc10 : (w.alloc (.cells #[.int .i64 k, .string i, .string f, .string g, .string y, .int .i64 a, .int .i64 d, .string t] 85 (0, 0))).cell? ⟨w.heap.size, 6, none⟩ = some (.int .i64 d) := by rw [cell_of_row _ _ _ _ _ _ HF2.out]; rfl
      have hc11 : (w.alloc (.cells #[.int .i64 k, .string i, .string f, .string g, .string y, .int .i64 a, .int .i64 d, .string t] 85 (0, 0))).cell? ⟨w.heap.size, 7, none⟩ = some (.string t) := by rw [cell_of_row _ _ _ _ _ _ HF2.out]; rfl
      go_wp2_with fail
      refine (Hi.out (w.alloc (.cells #[.int .i64 k, .string i, .string f, .string g, .string y, .int .i64 a, .int .i64 d, .string t] 85 (0, 0)))).mono ?_
      rintro e w' ⟨rfl, rfl⟩
      go_wp2_with fail
      clear hc4 hc5 hc6 hc7 hc8 hc9 hc10 hc11
      go_ret
      exact ⟨retBo HR.out, HB3.out⟩
end Go.Proofs.Ytjnichiblljmjaa
