/- The contract of the document's Take of layer 8 over this translation. Condition: texts of at most a thousand bytes. -/
import Derived.Test.YtpiafgdbjpfcaaaDoorYh
namespace Go.Proofs.YtpiafgdbjpfcaaaDoor
open Go.RowKit Vi Cm

/-- a Scan of the document's in memory -/
def scv (S : ByteArray) (q : Nat) (er : Int) : Array Value := #[.string S, .int .i64 (q : Int), .int .i64 er]
theorem info_scv (S : ByteArray) (q : Nat) (er : Int) : (Tryd.prog.info? 70).map (·.size) = some (scv S q er).size := by kernel_rfl
theorem one_scv (S : ByteArray) (q : Nat) (er : Int) : (scv S q er).all (·.oneCell') = true := by simp [scv, Value.oneCell']
theorem sv_scv (S : ByteArray) (q : Nat) (er : Int) : sv S q er = .agg (scv S q er) := rfl
theorem rnum_scv (S : ByteArray) (q : Nat) (er n v : Int) (q' : Nat) (er' : Int) (w : World) (hS : S.size ≤ 1000000) (hq : q ≤ S.size) (hn0 : -9223372036854775808 ≤ n) (hn1 : n ≤ 9223372036854775807) (h : Rd.num S q er n = (v, q', er')) :
    Calls Tryd.prog 58 #[.agg (scv S q er), .int .i64 n] w fun e w' => e = .returned (.tuple #[.agg (scv S q' er'), .int .i64 v]) ∧ Below w.heap.size w w' := by
  have h1 := rNum_any S q er n w hS hq hn0 hn1
  rw [h] at h1
  exact h1
theorem blk_oth {W W' : World} {b g : Nat} {o : Obj} (h : W.heap[b]? = some o) (ho : ∀ k, k ≠ g → W'.heap[k]? = W.heap[k]?) (hne : b ≠ g) : W'.heap[b]? = some o := (ho b hne).trans h
theorem blk_alloc {W : World} {b : Nat} {o : Obj} (h : W.heap[b]? = some o) (p : Obj) : (W.alloc p).heap[b]? = some o := (Below.heap_alloc W p b (lt_of_block h)).trans h
end Go.Proofs.YtpiafgdbjpfcaaaDoor
