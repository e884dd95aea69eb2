/- The contracts of value's Check, putRest, Put, isPlain, Compare and of the document's Less over this translation. Conditions: texts of at most a million bytes. -/
import Derived.Test.YtagenkofoacajaaGreatSput
import Derived.Test.YtagenkofoacajaaGreatWh
import Derived.Handy
import Derived.LoopTactic
import Derived.Deep.RegionWith
namespace Go.Proofs.YtagenkofoacajaaGreat
open Go.RowKit Vi Hm

/-- may a value be? -/
def vok (k n : Int) (t : ByteArray) : Bool := if k = 1 then (n == 0 || n == 1) && t.toList.isEmpty else if k = 2 then t.toList.isEmpty else k == 3 && n == 0 && decide (t.size ≤ 64)
def errV (k n : Int) (t : ByteArray) : Int := if vok k n t = true then 0 else 2
theorem errV_is {k n : Int} {t : ByteArray} {b : Bool} (h : vok k n t = b) (z : Int) (hz : z = if b = true then 0 else 2) : Ending.returned (.int .i64 z) = .returned (.int .i64 (errV k n t)) := by
  unfold errV
  rw [h, hz]
set_option maxRecDepth 100000 in
set_option maxHeartbeats 1000000 in
theorem vcheck_any (k n : Int) (t : ByteArray) (w : World) :
    Calls Tryz.prog 118 #[.agg #[.int .i64 k, .int .i64 n, .string t]] w fun e w' => e = .returned (.int .i64 (errV k n t)) ∧ Below w.heap.size w w' := by
  cases he : t.toList.isEmpty <;> by_cases h1 : k = 1
  all_goals first
    | (subst h1
       by_cases n0 : n = 0
       · subst n0
         have HV := Lib.hid (show vok 1 0 t = t.toList.isEmpty by simp [vok])
         rw [he] at HV
         go_enter Tryz.func118, Tryz.ntmps118
         go_wp2_with fail
         go_ret
         exact ⟨errV_is HV.out _ rfl, (Below.refl _ w).alloc (Nat.le_refl _) _⟩
       · have q0 : (n == 0) = false := by rw [beq_eq_false_iff_ne]; exact n0
         by_cases n1 : n = 1
         · subst n1
           have HV := Lib.hid (show vok 1 1 t = t.toList.isEmpty by simp [vok])
           rw [he] at HV
           clear n0 q0
           go_enter Tryz.func118, Tryz.ntmps118
           go_wp2_with fail
           go_ret
           exact ⟨errV_is HV.out _ rfl, (Below.refl _ w).alloc (Nat.le_refl _) _⟩
         · have q1 : (n == 1) = false := by rw [beq_eq_false_iff_ne]; exact n1
           have HV := Lib.hid (show vok 1 n t = false by simp [vok, n0, n1])
           clear n0 n1
           go_enter Tryz.func118, Tryz.ntmps118
           go_wp2_with fail
           go_ret
           exact ⟨errV_is HV.out _ rfl, (Below.refl _ w).alloc (Nat.le_refl _) _⟩)
    | (have q1 : (k == 1) = false := by rw [beq_eq_false_iff_ne]; exact h1
       by_cases h2 : k = 2
       · subst h2
         have HV := Lib.hid (show vok 2 n t = t.toList.isEmpty by simp [vok])
         rw [he] at HV
         clear h1 q1
         go_enter Tryz.func118, Tryz.ntmps118
         go_wp2_with fail
         go_ret
         exact ⟨errV_is HV.out _ rfl, (Below.refl _ w).alloc (Nat.le_refl _) _⟩
       · have q2 : (k == 2) = false := by rw [beq_eq_false_iff_ne]; exact h2
         by_cases h3 : k = 3
         · subst h3
           clear h1 h2 q1 q2 he
           by_cases n0 : n = 0
           · subst n0
             by_cases hs : t.size ≤ 64
             · have HV := Lib.hid (show vok 3 0 t = true by simp [vok, hs])
               have d1 : decide ((t.size : Int) ≤ 64) = true := decide_eq_true (by omega)
               clear hs
               go_enter Tryz.func118, Tryz.ntmps118
               go_wp2_with fail
               go_ret
               exact ⟨errV_is HV.out _ rfl, (Below.refl _ w).alloc (Nat.le_refl _) _⟩
             · have HV := Lib.hid (show vok 3 0 t = false by simp [vok, hs])
               have d1 : decide ((t.size : Int) ≤ 64) = false := decide_eq_false (by omega)
               clear hs
               go_enter Tryz.func118, Tryz.ntmps118
               go_wp2_with fail
               go_ret
               exact ⟨errV_is HV.out _ rfl, (Below.refl _ w).alloc (Nat.le_refl _) _⟩
           · have q0 : (n == 0) = false := by rw [beq_eq_false_iff_ne]; exact n0
             have HV := Lib.hid (show vok 3 n t = false by simp [vok, n0])
             clear n0
             go_enter Tryz.func118, Tryz.ntmps118
             go_wp2_with fail
             go_ret
             exact ⟨errV_is HV.out _ rfl, (Below.refl _ w).alloc (Nat.le_refl _) _⟩
         · have q3 : (k == 3) = false := by rw [beq_eq_false_iff_ne]; exact h3
           have HV := Lib.hid (show vok k n t = false by simp [vok, h1, h2, h3])
           clear h1 h2 h3 he
           go_enter Tryz.func118, Tryz.ntmps118
           go_wp2_with fail
           go_ret
           exact ⟨errV_is HV.out _ rfl, (Below.refl _ w).alloc (Nat.le_refl _) _⟩)
/-- what stands behind the kind -/
def vrest (k n : Int) (t : ByteArray) : ByteArray := if k = 1 then ⟨#[UInt8.ofNat (n % 256).toNat]⟩ else if k = 2 then ⟨(put (zig n)).toArray⟩ else ⟨(put t.size).toArray⟩ ++ t
theorem retS {a b : ByteArray} (h : a = b) : Ending.returned (.string a) = .returned (.string b) := by rw [h]
theorem conv_oneW (w : World) (x : Int) (b : UInt8) (hx : x = (b.toNat : Int)) :
    (convert 151 9 (.slice (some ⟨w.heap.size, 0, none⟩) 1 1)).run Tryz.prog (w.alloc (.cells #[.int .u8 x] 5)) = .ok (.string ⟨#[b]⟩) (w.alloc (.cells #[.int .u8 x] 5)) := by
  subst hx
  refine run_convert_bytes_back _ 151 9 5 ⟨w.heap.size, 0, none⟩ 1 [b] Tryz.underlying151 Tryz.underlying5 Tryz.underlying9 ?_
  intro j hj
  have : j = 0 := by simpa using hj
  subst this
  rw [Addr.add_lit, Nat.zero_add, cell_of_row _ _ _ _ _ _ (heap_alloc_new w (.cells #[.int .u8 (b.toNat : Int)] 5))]
  rfl
theorem conv_atW (w : World) (b : Nat) (c : UInt8) (h : w.cell? ⟨b, 0, none⟩ = some (.int .u8 (c.toNat : Int))) :
    (convert 151 9 (.slice (some ⟨b, 0, none⟩) 1 1)).run Tryz.prog w = .ok (.string ⟨#[c]⟩) w := by
  refine run_convert_bytes_back _ 151 9 5 ⟨b, 0, none⟩ 1 [c] Tryz.underlying151 Tryz.underlying5 Tryz.underlying9 ?_
  intro j hj
  have : j = 0 := by simpa using hj
  subst this
  rw [Addr.add_lit, Nat.zero_add, h]
  rfl
theorem low_natW (x : Int) : ((UInt8.ofNat (x % 256).toNat).toNat : Int) = x % 256 := by
  rw [UInt8.toNat_ofNat']
  have : (x % 256).toNat < 256 := by omega
  rw [Nat.mod_eq_of_lt (by simpa using this)]
  omega
set_option maxRecDepth 100000 in
set_option maxHeartbeats 1000000 in
theorem vrest_any (k n : Int) (t : ByteArray) (w : World) (h0 : -9223372036854775808 ≤ n) (h1 : n ≤ 9223372036854775807) (ht : t.size ≤ 1000000) :
    Calls Tryz.prog 119 #[.agg #[.int .i64 k, .int .i64 n, .string t]] w fun e w' => e = .returned (.string (vrest k n t)) ∧ Below w.heap.size w w' := by
  by_cases k1 : k = 1
  · subst k1
    have HL := Lib.hid (low_natW n)
    have HR := Lib.hid (show vrest 1 n t = ⟨#[UInt8.ofNat (n % 256).toNat]⟩ by simp [vrest])
    generalize UInt8.ofNat (n % 256).toNat = c at HL HR
    have hw : n % 256 = (c.toNat : Int) := HL.out.symm
    have hw2 : IntKind.u8.wrap n = (c.toNat : Int) := by rw [HL.out]; simp [IntKind.wrap, IntKind.bits, IntKind.signed]
    have hcv := conv_oneW (w.alloc (.cells #[.int .i64 1, .int .i64 n, .string t] 61)) (c.toNat : Int) c rfl
    rw [show (w.alloc (.cells #[.int .i64 1, .int .i64 n, .string t] 61)).heap.size = w.heap.size + 1 by simp] at hcv
    clear HL ht
    go_enter Tryz.func119, Tryz.ntmps119
    go_wp2_with fail
    go_ret
    exact ⟨retS HR.out.symm, ((Below.refl _ w).alloc (Nat.le_refl _) _).alloc (by simp) _⟩
  · have q1 : (k == 1) = false := by rw [beq_eq_false_iff_ne]; exact k1
    by_cases k2 : k = 2
    · subst k2
      have HR := Lib.hid (show vrest 2 n t = ⟨(put (zig n)).toArray⟩ by simp [vrest])
      have HC := Lib.hid (fun W : World => putInt_any n W h0 h1)
      clear k1 q1 ht
      go_enter Tryz.func119, Tryz.ntmps119
      go_wp2_with fail
      refine (HC.out _).mono ?_
      rintro e w1 ⟨rfl, hb⟩
      have HB := Lib.hid (((Below.refl _ w).alloc (Nat.le_refl _) _).trans (hb.mono (by simp)))
      clear hb
      go_wp2_with fail
      go_ret
      exact ⟨retS HR.out.symm, HB.out⟩
    · have q2 : (k == 2) = false := by rw [beq_eq_false_iff_ne]; exact k2
      have HR := Lib.hid (show vrest k n t = ⟨(put t.size).toArray⟩ ++ t by simp [vrest, k1, k2])
      have HC := Lib.hid (fun W : World => putText_any t W ht)
      clear k1 k2 ht
      go_enter Tryz.func119, Tryz.ntmps119
      go_wp2_with fail
      refine (HC.out _).mono ?_
      rintro e w1 ⟨rfl, hb⟩
      have HB := Lib.hid (((Below.refl _ w).alloc (Nat.le_refl _) _).trans (hb.mono (by simp)))
      clear hb
      go_wp2_with fail
      go_ret
      exact ⟨retS HR.out.symm, HB.out⟩
theorem vrest_size (k n : Int) (t : ByteArray) (ht : t.size ≤ 1000000) : (vrest k n t).size ≤ 1000010 := by
  have h1 := put_len (zig n)
  have h2 := put_len t.size
  unfold vrest
  split
  · show 1 ≤ 1000010
    omega
  · split
    · show (put (zig n)).toArray.size ≤ 1000010
      rw [List.size_toArray]
      omega
    · rw [ByteArray.size_append]
      show (put t.size).toArray.size + t.size ≤ 1000010
      rw [List.size_toArray]
      omega
section
variable {w1 w2 : World} {o : Obj} {b n : Nat} {u : Value}
theorem cellD (hb : Below w1.drew.heap.size w1.drew w2) (h : w1.cell? ⟨b, 0, none⟩ = some u) : w2.cell? ⟨b, 0, none⟩ = some u := (hb.cell (p := ⟨b, 0, none⟩) (World.block_lt_of_cell? w1 _ h)).trans h
theorem cellE (hb : Below (w1.alloc o).drew.heap.size (w1.alloc o).drew w2) (h : (w1.alloc o).cell? ⟨b, 0, none⟩ = some u) : w2.cell? ⟨b, 0, none⟩ = some u := (hb.cell (p := ⟨b, 0, none⟩) (World.block_lt_of_cell? (w1.alloc o) _ h)).trans h
theorem belD {w : World} (h : Below n w w1) (hb : Below w1.drew.heap.size w1.drew w2) (hn : n ≤ w1.heap.size) : Below n w w2 := h.drew.trans (hb.mono hn)
theorem belE {w : World} (h : Below n w w1) (hb : Below (w1.alloc o).drew.heap.size (w1.alloc o).drew w2) (hn : n ≤ w1.heap.size) : Below n w w2 := (h.alloc hn o).drew.trans (hb.mono (by show n ≤ (w1.alloc o).heap.size; simp; omega))
theorem convE {c : UInt8} (hb : Below (w1.alloc (.cells #[.int .u8 (c.toNat : Int)] 5)).drew.heap.size (w1.alloc (.cells #[.int .u8 (c.toNat : Int)] 5)).drew w2) :
    (convert 151 9 (.slice (some ⟨w1.heap.size, 0, none⟩) 1 1)).run Tryz.prog w2 = .ok (.string ⟨#[c]⟩) w2 :=
  conv_atW w2 w1.heap.size c (cellE hb (by simp))
end
/-- a value's bytes -/
def vput (k n : Int) (t : ByteArray) : ByteArray := if vok k n t = true then ⟨#[UInt8.ofNat (k % 256).toNat]⟩ ++ vrest k n t else ⟨#[]⟩
def VPut (k n : Int) (t : ByteArray) : Value := .tuple #[.string (vput k n t), .int .i64 (errV k n t)]
theorem ret_vput {k n : Int} {t a : ByteArray} {z : Int} (ha : a = vput k n t) (hz : z = errV k n t) : Ending.returned (.tuple #[.string a, .int .i64 z]) = .returned (VPut k n t) := by subst ha hz; rfl
set_option maxRecDepth 100000 in
set_option maxHeartbeats 2000000 in
theorem vput_any (k n : Int) (t : ByteArray) (w : World) (h0 : -9223372036854775808 ≤ n) (h1 : n ≤ 9223372036854775807) (ht : t.size ≤ 1000000) :
    Calls Tryz.prog 95 #[.agg #[.int .i64 k, .int .i64 n, .string t]] w fun e w' => e = .returned (VPut k n t) ∧ Below w.heap.size w w' := by
  have HCK := Lib.hid (fun W : World => vcheck_any k n t W)
  cases hv : vok k n t with
  | false =>
    have HP := Lib.hid (show (⟨#[]⟩ : ByteArray) = vput k n t by unfold vput; rw [hv]; simp)
    have he : errV k n t = 2 := by unfold errV; rw [hv]; rfl
    have HE := Lib.hid he
    rw [he] at HCK
    clear hv he ht h0 h1
    go_enter Tryz.func95, Tryz.ntmps95
    go_wp2_with fail
    refine (HCK.out _).mono ?_
    rintro e w1 ⟨rfl, hb⟩
    have HB := Lib.hid (((Below.refl _ w).alloc (Nat.le_refl _) _).trans (hb.mono (by simp)))
    clear hb
    go_wp2_with fail
    go_ret2
    exact ⟨ret_vput HP.out HE.out.symm, HB.out⟩
  | true =>
    have HP := Lib.hid (show (⟨#[UInt8.ofNat (k % 256).toNat]⟩ ++ vrest k n t : ByteArray) = vput k n t by unfold vput; rw [hv]; simp)
    have he : errV k n t = 0 := by unfold errV; rw [hv]; rfl
    have HE := Lib.hid he
    rw [he] at HCK
    have HL := Lib.hid (low_natW k)
    have HR := Lib.hid (fun W : World => vrest_any k n t W h0 h1 ht)
    have hRs := vrest_size k n t ht
    generalize vrest k n t = R at HP HR hRs
    have hRi : (R.size : Int) ≤ 1000010 := by omega
    generalize UInt8.ofNat (k % 256).toNat = c at HL HP
    have hw : k % 256 = (c.toNat : Int) := HL.out.symm
    have hw2 : IntKind.u8.wrap k = (c.toNat : Int) := by rw [HL.out]; simp [IntKind.wrap, IntKind.bits, IntKind.signed]
    clear hv he ht h0 h1 HL hRs
    go_enter Tryz.func95, Tryz.ntmps95
    go_wp2_with fail
    refine (HCK.out _).mono ?_
    rintro e w1 ⟨rfl, hb⟩
    have c0 := hb.cell (p := ⟨w.heap.size, 0, none⟩) (by simp)
    have c1 := hb.cell (p := ⟨w.heap.size, 1, none⟩) (by simp)
    have c2 := hb.cell (p := ⟨w.heap.size, 2, none⟩) (by simp)
    simp at c0 c1 c2
    have HB := Lib.hid (((Below.refl _ w).alloc (Nat.le_refl _) _).trans (hb.mono (by simp)))
    have hs1 : w.heap.size < w1.heap.size := by have := hb.size; simp at this; omega
    clear hb HCK
    have e0 : (w1.alloc (.cells #[.int .u8 (c.toNat : Int)] 5)).cell? ⟨w.heap.size, 0, none⟩ = some (.int .i64 k) := (((Below.refl w1.heap.size w1).alloc (Nat.le_refl _) (.cells #[.int .u8 (c.toNat : Int)] 5)).cell (p := ⟨w.heap.size, 0, none⟩) hs1).trans c0
    have e1 : (w1.alloc (.cells #[.int .u8 (c.toNat : Int)] 5)).drew.cell? ⟨w.heap.size, 0, none⟩ = some (.int .i64 k) := e0
    have v1 := conv_atW (w1.alloc (.cells #[.int .u8 (c.toNat : Int)] 5)).drew w1.heap.size c (by simp)
    go_wp2_with fail
    have HN := Lib.hid (show w.heap.size ≤ w1.heap.size by omega)
    go_region_with (go_at_call 119; refine (HR.out _).mono ?_; rintro e w2 ⟨rfl, hb⟩; (have v2 := conv_oneW w2 (c.toNat : Int) c rfl); (first | (have v3 := convE hb) | skip); (first | (have d0 := cellD hb c0) | (have d0 := cellE hb e0)); (first | (have HB2 := Lib.hid (belD HB.out hb HN.out)) | (have HB2 := Lib.hid (belE HB.out hb HN.out))); (clear hb))
    all_goals
      go_wp2_with fail
      go_ret2
      refine ⟨ret_vput HP.out HE.out.symm, ?_⟩
      first | exact HB2.out | exact HB2.out.alloc HB2.out.size _ | exact (HB2.out.alloc HB2.out.size _).drew | exact HB2.out.drew
end Go.Proofs.YtagenkofoacajaaGreat
