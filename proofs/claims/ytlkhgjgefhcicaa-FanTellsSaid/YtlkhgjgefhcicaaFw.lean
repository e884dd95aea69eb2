/- Contracts of fan.Of on what are no sums that rise, of (fan.Fan).Put and Span beyond the parts, of the document's Upto. -/
import Derived.Test.YtlkhgjgefhcicaaFs
import Derived.Test.YtlkhgjgefhcicaaSput
namespace Go.Proofs.Ytlkhgjgefhcicaa
open Go.RowKit Vi

theorem run_index_row (C : Array Value) (k : Nat) (n : Int) (hk : k < 16) (hC : C[k]? = some (.int .i64 n)) (W : World) : (Instr.index 38 (.agg C) (.int .i64 (k : Int))).run Try.prog W = .ok (.int .i64 n) W := by
  have h0 : 0 ≤ (k : Int) ∧ (k : Int) < 16 := by omega
  have hs : ∀ W, (sizeOf 3).run Try.prog W = .ok 1 W := fun W => by
    obtain ⟨i0, hi, _, hz1, _⟩ := info_parts info_int
    simp [sizeOf, typeInfo, hi, hz1]
  simp [Instr.index, run_underlying Try.underlying38, asIntOf, h0, hs, go_sem, hC]
  exact fun h => absurd h (by omega)
theorem wpList_load_rowG {ops : Array Oper} {rest : List Oper} {o : Oper} {a : Act} {w : World} {Q : Exit → Act → World → Prop} (hw : Region.wanted o (yielded ops a.tmps) = true) (ty : TypeId) (x : Operand) (ho : o.op = .load ty x)
    (g : Nat) (hx : a.eval x = .pointer (some ⟨g, 0, none⟩)) (t : TypeId) (cs : Array Value) (fr : Nat × Nat) (d : TypeDesc) (hg : w.heap[g]? = some (.cells cs t fr))
    (hu : Try.prog.underlying ty = some d) (hd : d.isRow = true) (hi : (Try.prog.info? ty).map (·.size) = some cs.size)
    (h : wpList Try.prog ops Q rest (a.put o.dst (.agg cs)) w) : wpList Try.prog ops Q (o :: rest) a w := by
  unfold wpList
  rw [if_pos hw]
  refine Or.inl ?_
  cases d with
  | array n e => exact wp_load_row ty x ho g hx t cs fr (.array n e) hg hu rfl hi h
  | struct fs => exact wp_load_row ty x ho g hx t cs fr (.struct fs) hg hu rfl hi h
  | _ => cases hd
/-- numbers' bytes, one behind the other -/
def catN (l : List Nat) : List UInt8 := l.flatMap put
theorem catN_take (l : List Nat) (k : Nat) (h : k < l.length) : catN (l.take (k + 1)) = catN (l.take k) ++ put (l.getD k 0) := by
  unfold catN
  rw [List.take_succ_eq_append_getElem h, List.flatMap_append, List.getD_eq_getElem?_getD, List.getElem?_eq_getElem h]
  simp
theorem catN_len : ∀ l : List Nat, (catN l).length ≤ 10 * l.length
  | [] => by simp [catN]
  | a :: l => by
    have h1 := catN_len l
    have h2 := put_len a
    simp only [catN, List.flatMap_cons, List.length_append, List.length_cons] at h1 ⊢
    omega
theorem str_app (a b : List UInt8) : (ByteArray.mk a.toArray ++ ByteArray.mk b.toArray) = ByteArray.mk (a ++ b).toArray := by
  apply ByteArray.ext
  simp
/-- how many stand up to a number -/
def uptoI (ss : List ByteArray) (j : Int) : Nat := (ss.filter fun s => decide ((prt s : Int) ≤ j)).length
theorem uptoI_nat (ss : List ByteArray) (j : Nat) : uptoI ss (j : Int) = upto ss j := by
  unfold uptoI upto
  congr 1
  apply List.filter_congr
  intro s _
  simp
theorem uptoI_neg (ss : List ByteArray) : uptoI ss (-1) = 0 := by
  unfold uptoI
  rw [List.filter_eq_nil_iff.2 (fun s _ => by simp; omega)]
  rfl
theorem uptoI_yes (ss : List ByteArray) (j : Int) (k : Nat) (h : k < ss.length) (hl : (prt ss[k] : Int) ≤ j) : uptoI (ss.take (k + 1)) j = uptoI (ss.take k) j + 1 := by
  unfold uptoI
  rw [List.take_succ_eq_append_getElem h, List.filter_append]
  simp [hl]
theorem uptoI_no (ss : List ByteArray) (j : Int) (k : Nat) (h : k < ss.length) (hl : ¬ (prt ss[k] : Int) ≤ j) : uptoI (ss.take (k + 1)) j = uptoI (ss.take k) j := by
  unfold uptoI
  rw [List.take_succ_eq_append_getElem h, List.filter_append]
  simp [hl]

set_option maxHeartbeats 1600000 in
set_option maxRecDepth 100000 in
theorem refUpto_any (a : Option Addr) (len cap : Nat) (ss : List ByteArray) (j : Int) (w : World) (hsl : SlN w a len ss) (hlm : len ≤ 100000) (hs : ∀ s ∈ ss, s.size = 32) :
    Calls Try.prog 31 #[.slice a len cap, .int .i64 j] w fun e w' => e = .returned (.int .i64 (uptoI ss j : Int)) ∧ w' = w := by
  have HSL := Lib.hid hsl.2
  have HL := Lib.hid hsl.1
  have HS := Lib.hid hs
  clear hsl hs
  go_enter Try.func31, Try.ntmps31
  go_wp2
  go_loop [5, 6] (fun v i => ∃ (k n : Nat), k ≤ len ∧ i = .int .i64 (k : Int) ∧ v = .int .i64 (n : Int) ∧ n ≤ k ∧ uptoI (ss.take k) j = n) (fun _ i => len - (intOf i).toNat)
  case atStart => exact ⟨0, 0, Nat.zero_le _, rfl, rfl, Nat.le_refl _, rfl⟩
  case round =>
    obtain ⟨k, n, hk, rfl, rfl, hnk, heq⟩ := hrel
    have HE := Lib.hid heq
    clear heq
    by_cases hlt : k < len
    · obtain ⟨b, off, rfl, hcell⟩ := HSL.out (by omega)
      have hkn : k < ss.length := by rw [HL.out]; exact hlt
      have hc := hcell k hkn
      have hsz : ss[k].size = 32 := HS.out _ (List.getElem_mem hkn)
      have HY := Lib.hid (uptoI_yes ss j k hkn)
      have HN := Lib.hid (uptoI_no ss j k hkn)
      clear hcell
      generalize ss[k] = s at hc hsz HY HN
      have h0 : 0 < s.size := by omega
      have h0i : (0 : Int) < (s.size : Int) := by omega
      have hp := prt_head s h0
      have hb := s[0].toNat_lt
      have HSZ := Lib.hid hsz
      clear hsz
      by_cases hq : (prt s : Int) ≤ j
      · have q1 : decide ((s[0].toNat : Int) / 16 ≤ j) = true := decide_eq_true (by rw [hp]; exact hq)
        have HR := Lib.hid ((HY.out hq).trans (by rw [HE.out]))
        clear hp hq
        go_wp2
        go_round
        case rel => exact ⟨k + 1, n + 1, by omega, by go_num, by go_num, by omega, HR.out⟩
        case measure => simp [intOf]; omega
      · have q1 : decide ((s[0].toNat : Int) / 16 ≤ j) = false := decide_eq_false (by rw [hp]; exact hq)
        have HR := Lib.hid ((HN.out hq).trans HE.out)
        clear hp hq
        go_wp2
        go_round
        case rel => exact ⟨k + 1, n, by omega, by go_num, rfl, by omega, HR.out⟩
        case measure => simp [intOf]; omega
    · have HR := Lib.hid (show uptoI ss j = n by rw [← HE.out, List.take_of_length_le (by rw [HL.out]; omega)])
      go_wp2
      go_ret
      exact ⟨ret_n (by rw [HR.out]), rfl⟩

set_option maxRecDepth 100000 in
set_option maxHeartbeats 400000 in
theorem span_out (cs : Array Value) (p : Int) (w : World) (hp : p < 0 ∨ 15 < p) :
    Calls Try.prog 33 #[.agg cs, .int .i64 p] w fun e w' => e = .returned (.tuple #[.int .i64 0, .int .i64 0]) ∧ Below w.heap.size w w' := by
  by_cases h : p < 0
  · go_enter Try.func33, Try.ntmps33
    go_wp2
    go_ret2
    exact ⟨rfl, (Below.refl _ w).alloc (Nat.le_refl _) _⟩
  · have h2 : 16 ≤ p := by omega
    clear hp
    go_enter Try.func33, Try.ntmps33
    go_wp2
    go_ret2
    exact ⟨rfl, (Below.refl _ w).alloc (Nat.le_refl _) _⟩

set_option maxRecDepth 100000 in
set_option maxHeartbeats 1600000 in
theorem fput_any (fs : List Nat) (C : Array Value) (hC : C = (fs.map i64v).toArray) (hl : fs.length = 16) (hb : ∀ j, j < 16 → fs.getD j 0 ≤ 100000) (w : World) :
    Calls Try.prog 34 #[.agg C] w fun e w' => e = .returned (.string ⟨(catN fs).toArray⟩) ∧ Below w.heap.size w w' := by
  have HC := Lib.hid hC
  have HL := Lib.hid hl
  have HB := Lib.hid hb
  have HI := Lib.hid (show (Try.prog.info? 38).map (·.size) = some C.size by
    rw [hC]
    simp only [List.size_toArray, List.length_map, hl]
    kernel_rfl)
  clear hC hl hb
  go_enter Try.func34, Try.ntmps34
  go_wp2_with (refine wpList_load_row rfl 38 (.tmp 1) rfl w.heap.size rfl 38 C (0, 0) _ (MapKept.heap_alloc w (.cells C 38)).1 Try.underlying38 rfl HI.out ?_)
  go_loopw [3, 5, 7] (fun v _ i wr => ∃ (k : Nat) (S : ByteArray), k ≤ 16 ∧ i = .int .i64 (k : Int) ∧ v = .string S ∧ S = ⟨(catN (fs.take k)).toArray⟩ ∧ Below w.heap.size w wr) (fun _ _ i _ => 16 - (intOf i).toNat)
  case atStart => exact ⟨0, ⟨#[]⟩, Nat.zero_le _, rfl, rfl, rfl, (Below.refl _ w).alloc (Nat.le_refl _) _⟩
  case round =>
    obtain ⟨k, S, hk, rfl, rfl, hS, hbw⟩ := hrel
    have HBW := Lib.hid hbw
    clear hbw
    by_cases hlt : k < 16
    · have hsz : (S.size : Int) ≤ 160 := by
        have h1 := catN_len (fs.take k)
        rw [List.length_take, HL.out] at h1
        have h2 : S.size = (catN (fs.take k)).length := by rw [hS]; simp [ByteArray.size]
        omega
      obtain ⟨y, hy⟩ : ∃ y, y = fs.getD k 0 := ⟨_, rfl⟩
      have hyb := HB.out k hlt
      rw [← hy] at hyb
      have hidx := run_index_row C k (y : Int) hlt (by rw [HC.out, getD_map fs k (by rw [HL.out]; exact hlt), hy])
      have HN := Lib.hid (show S ++ ⟨(put y).toArray⟩ = (⟨(catN (fs.take (k + 1))).toArray⟩ : ByteArray) by
        rw [hS, str_app, catN_take fs k (by rw [HL.out]; exact hlt), hy])
      have hpl := put_len y
      clear hS hy
      go_wp2_with fail
      refine (putNum_any (y : Int) _ (by omega)).mono ?_
      rintro e w1 ⟨rfl, hb1⟩
      rw [Int.toNat_natCast]
      have HB1 := Lib.hid (HBW.out.trans (hb1.mono HBW.out.size))
      have hps : (ByteArray.size ⟨(put y).toArray⟩ : Int) ≤ 10 := by simp [ByteArray.size]; omega
      obtain ⟨P, hP⟩ : ∃ P : ByteArray, P = ⟨(put y).toArray⟩ := ⟨_, rfl⟩
      rw [← hP] at HN hps ⊢
      clear hb1 hP hpl hidx
      go_wp2_with fail
      go_roundw
      case rel => exact ⟨k + 1, _, by omega, by go_num, rfl, HN.out, HB1.out⟩
      case measure => simp [intOf]; omega
    · obtain rfl : k = 16 := by omega
      have HN := Lib.hid (show S = ⟨(catN fs).toArray⟩ by rw [hS, List.take_of_length_le (by rw [HL.out]; exact Nat.le_refl _)])
      clear hS
      go_wp2
      go_ret
      exact ⟨by rw [HN.out]; rfl, HBW.out⟩

/-- a fan of noughts -/
theorem fan_zero : ∃ Z : Array Value, Hid (Z = Array.replicate 16 (.int .i64 0)) ∧ Hid (Z.size = 16) ∧ Hid ((Try.prog.info? 38).map (·.size) = some Z.size) ∧ Hid (Z.all (·.oneCell') = true) ∧
    Hid (∀ W, (Instr.build 38 #[]).run Try.prog W = .ok (.agg Z) W) ∧ Hid (∀ W, (binOp .eql 38 (.agg Z) (.agg #[.int .i64 0, .int .i64 0, .int .i64 0, .int .i64 0, .int .i64 0, .int .i64 0, .int .i64 0, .int .i64 0, .int .i64 0, .int .i64 0, .int .i64 0, .int .i64 0, .int .i64 0, .int .i64 0, .int .i64 0, .int .i64 0])).run Try.prog W = .ok (.bool true) W) :=
  ⟨Array.replicate 16 (.int .i64 0), rfl, show (Array.replicate 16 (Value.int .i64 0)).size = 16 by simp, show _ = _ by kernel_rfl, show _ = _ by kernel_rfl, fun _ => by kernel_rfl, fun _ => by kernel_rfl⟩
end Go.Proofs.Ytlkhgjgefhcicaa
