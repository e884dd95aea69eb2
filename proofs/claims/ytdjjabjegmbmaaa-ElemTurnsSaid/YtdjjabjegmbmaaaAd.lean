/- elem.putParts, PutNode, PutEdge over this translation. Conditions: texts that are no longer than a text may be; numbers that are ones. -/
import Derived.Test.YtdjjabjegmbmaaaAb
import Derived.Test.YtdjjabjegmbmaaaSput
import Derived.Test.YtdjjabjegmbmaaaNp
import Derived.Laws.Concat
namespace Go.Proofs.Ytdjjabjegmbmaaa
open Go.RowKit Vi

def tS (s : ByteArray) : ByteArray := ⟨(put s.size).toArray⟩ ++ s
def nS (n : Nat) : ByteArray := ⟨(put n).toArray⟩
def pS (p : Pr) : ByteArray := tS p.1 ++ vput p.2.1 p.2.2.1 p.2.2.2
def accL (a : ByteArray) (ss : List ByteArray) : ByteArray := ss.foldl (fun x s => x ++ tS s) a
def accP (a : ByteArray) (ps : List Pr) : ByteArray := ps.foldl (fun x p => x ++ pS p) a
/-- the bytes of labels and properties -/
def ptS (ss : List ByteArray) (ps : List Pr) : ByteArray := accP (accL (nS ss.length) ss ++ nS ps.length) ps
theorem accL_take (a : ByteArray) (ss : List ByteArray) (k : Nat) (h : k < ss.length) : accL a (ss.take (k + 1)) = accL a (ss.take k) ++ tS ss[k] := by
  rw [List.take_succ_eq_append_getElem h]; unfold accL; rw [List.foldl_append]; rfl
theorem accP_take (a : ByteArray) (ps : List Pr) (k : Nat) (h : k < ps.length) : accP a (ps.take (k + 1)) = accP a (ps.take k) ++ pS ps[k] := by
  rw [List.take_succ_eq_append_getElem h]; unfold accP; rw [List.foldl_append]; rfl
theorem nS_size (n : Nat) : (nS n).size ≤ 10 := by
  show (put n).toArray.size ≤ 10
  rw [List.size_toArray]; exact put_len n
theorem tS_size (s : ByteArray) : (tS s).size ≤ s.size + 10 := by
  unfold tS
  rw [ByteArray.size_append]
  have := nS_size s.size
  unfold nS at this
  omega
theorem vput_small (k n : Int) (t : ByteArray) (h : t.size ≤ 64) : (vput k n t).size ≤ 80 := by
  unfold vput
  split
  · rw [ByteArray.size_append]
    have h1 : (⟨#[UInt8.ofNat (k % 256).toNat]⟩ : ByteArray).size = 1 := rfl
    have h2 : (vrest k n t).size ≤ 75 := by
      unfold vrest
      split
      · show 1 ≤ 75; omega
      · split
        · have := nS_size (zig n); unfold nS at this; omega
        · have := tS_size t; unfold tS at this; omega
    omega
  · show 0 ≤ 80; omega
/-- labels and properties that may be are small -/
structure Sm (ss : List ByteArray) (ps : List Pr) : Prop where
  l : ss.length ≤ 8
  s : ∀ s ∈ ss, s.size ≤ 12
  pl : ps.length ≤ 8
  p : ∀ p ∈ ps, p.1.size ≤ 12 ∧ p.2.2.2.size ≤ 64 ∧ -9223372036854775808 ≤ p.2.2.1 ∧ p.2.2.1 ≤ 9223372036854775807
theorem nm_small {s : ByteArray} (h : nm s = true) : s.size ≤ 12 := by
  by_cases k : s.size ≤ 12
  · exact k
  · rw [nm_long s (Or.inr (by omega))] at h; cases h
theorem vok_small {k n : Int} {t : ByteArray} (h : vok k n t = true) : t.size ≤ 64 := by
  have em : t.toList.isEmpty = true → t.size ≤ 64 := fun e => by
    have : t.toList = [] := by simpa using e
    have hl : t.toList.length = t.size := by rw [Lib.toList_data]; simp
    rw [this] at hl
    simp at hl
    omega
  unfold vok at h
  split at h
  · rw [Bool.and_eq_true] at h; exact em h.2
  · split at h
    · exact em h
    · rw [Bool.and_eq_true] at h; exact of_decide_eq_true h.2
theorem prE_zero : ∀ (p : ByteArray) (ps : List Pr), prE p ps = 0 → ∀ x ∈ ps, okP x = true
  | _, [], _, x, hx => by cases hx
  | p, y :: r, h, x, hx => by
    unfold prE at h
    split at h
    · cases h
    · next h1 =>
      split at h
      · cases h
      · rcases List.mem_cons.1 hx with rfl | hx
        · simpa using h1
        · exact prE_zero _ r h x hx
def IntsOk (ps : List Pr) : Prop := ∀ p ∈ ps, -9223372036854775808 ≤ p.2.2.1 ∧ p.2.2.1 ≤ 9223372036854775807
theorem rs_zero {ss : List ByteArray} {ps : List Pr} (h : rsW ss ps = 0) : ss.length ≤ 8 ∧ rowE ⟨#[]⟩ ss = 0 ∧ ps.length ≤ 8 ∧ prE ⟨#[]⟩ ps = 0 := by
  unfold rsW at h
  split at h
  · cases h
  · next h1 =>
    split at h
    · next h2 => exact absurd h h2
    · next h2 =>
      unfold prW at h
      split at h
      · cases h
      · next h3 => exact ⟨by omega, by simpa using h2, by omega, h⟩
theorem rs_sm {ss : List ByteArray} {ps : List Pr} (h : rsW ss ps = 0) (hi : IntsOk ps) : Sm ss ps := by
  obtain ⟨h1, h2, h3, h4⟩ := rs_zero h
  refine ⟨h1, fun s hs => nm_small ((row0_ok ss h2).1 s hs), h3, fun p hp => ?_⟩
  have k := prE_zero _ ps h4 p hp
  unfold okP at k
  rw [Bool.and_eq_true] at k
  exact ⟨nm_small k.1, vok_small k.2, hi p hp⟩
theorem nd_zero {i : ByteArray} {ss : List ByteArray} {ps : List Pr} (h : ndW i ss ps = 0) : nm i = true ∧ rsW ss ps = 0 := by
  unfold ndW at h
  split at h
  · cases h
  · next h1 => exact ⟨by simpa using h1, h⟩
theorem ed_zero {i f g : ByteArray} {ss : List ByteArray} {ps : List Pr} (h : edW i f g ss ps = 0) : nm i = true ∧ nm f = true ∧ nm g = true ∧ rsW ss ps = 0 := by
  unfold edW at h
  split at h
  · cases h
  · next h1 =>
    split at h
    · cases h
    · next h2 =>
      split at h
      · cases h
      · next h3 => exact ⟨by simpa using h1, by simpa using h2, by simpa using h3, h⟩
set_option maxRecDepth 100000 in
set_option maxHeartbeats 4000000 in
theorem pparts_any (A A2 : Option Addr) (n c n2 c2 : Nat) (ss : List ByteArray) (ps : List Pr) (w : World) (h : LP w A n ss A2 n2 ps) (k : Sm ss ps) :
    Calls Try.prog 87 #[.slice A n c, .slice A2 n2 c2] w fun e w' => e = .returned (.string (ptS ss ps)) ∧ Below w.heap.size w w' := by
  have H := Lib.hid h
  have L := Lib.hid h.l.1
  have L2 := Lib.hid h.p.1
  have hn8 : n ≤ 8 := by rw [← L.out]; exact k.l
  have hm8 : n2 ≤ 8 := by rw [← L2.out]; exact k.pl
  have KS := Lib.hid k.s
  have KP := Lib.hid k.p
  clear h k
  obtain ⟨a0, ha0⟩ : ∃ a, a = nS n := ⟨_, rfl⟩
  obtain ⟨a1, ha1⟩ : ∃ a, a = nS n2 := ⟨_, rfl⟩
  have hz0 : a0.size ≤ 10 := by rw [ha0]; exact nS_size n
  have hz1 : a1.size ≤ 10 := by rw [ha1]; exact nS_size n2
  have N1 := Lib.hid (fun W : World => show Calls Try.prog 134 #[.int .i64 (n : Int)] W fun e w' => e = .returned (.string a0) ∧ Below W.heap.size W w' by
    have q := putNum_any (n : Int) W (by omega)
    rw [Int.toNat_natCast] at q
    rw [ha0]; exact q)
  have N2 := Lib.hid (fun W : World => show Calls Try.prog 134 #[.int .i64 (n2 : Int)] W fun e w' => e = .returned (.string a1) ∧ Below W.heap.size W w' by
    have q := putNum_any (n2 : Int) W (by omega)
    rw [Int.toNat_natCast] at q
    rw [ha1]; exact q)
  have HPT := Lib.hid (show accP (accL a0 ss ++ a1) ps = ptS ss ps by unfold ptS; rw [ha0, ha1, L.out, L2.out])
  clear ha0 ha1
  have HB1 := Lib.hid (Below.refl w.heap.size w)
  go_enter Try.func87, Try.ntmps87
  go_wp2_with fail
  refine (N1.out w).mono ?_
  rintro e w1 ⟨rfl, hb1⟩
  have HB2 := Lib.hid (HB1.out.trans (hb1.mono HB1.out.size))
  clear hb1 HB1 
  go_wp2_with fail
  go_loopw [5, 17] (fun s i wr => ∃ (k : Nat) (acc : ByteArray), s = .string acc ∧ i = .int .i64 (k : Int) ∧ k ≤ n ∧ acc = accL a0 (ss.take k) ∧ acc.size ≤ 10 + 22 * k ∧ Below w.heap.size w wr) (fun _ i _ => n - (intOf i).toNat)
  case atStart => exact ⟨0, a0, rfl, rfl, Nat.zero_le _, rfl, by omega, HB2.out⟩
  case round =>
    obtain ⟨k, acc, rfl, rfl, hk, hac, hz, hb⟩ := hrel
    have HAC := Lib.hid hac
    have HB := Lib.hid hb
    clear hac hb
    by_cases hlt : k < n
    · have hd1 : decide ((k : Int) < (n : Int)) = true := decide_eq_true (by omega)
      obtain ⟨b, off, rfl, hc⟩ := (H.out.l.later HB.out).2 (by omega)
      have hl : k < ss.length := by rw [L.out]; exact hlt
      have hsm := KS.out _ (List.getElem_mem hl)
      have hca := hc k hl
      have HAT := Lib.hid (accL_take a0 ss k hl)
      obtain ⟨s, hs⟩ : ∃ s, s = ss[k] := ⟨_, rfl⟩
      rw [← hs] at hsm hca HAT
      obtain ⟨t, ht⟩ : ∃ t, t = tS s := ⟨_, rfl⟩
      have htz : t.size ≤ 22 := by rw [ht]; have := tS_size s; omega
      have HP := Lib.hid (fun W : World => show Calls Try.prog 96 #[.string s] W fun e w' => e = .returned (.string t) ∧ Below W.heap.size W w' by
        rw [ht]; exact putText_any s W (by omega))
      have HR := Lib.hid (show acc ++ t = accL a0 (ss.take (k + 1)) by rw [HAT.out, ← HAC.out, ht])
      have hi0 : (0 : Int) ≤ (k : Int) := by omega
      have hzz : (acc ++ t).size ≤ 10 + 22 * (k + 1) := by rw [ByteArray.size_append]; omega
      have HZZ := Lib.hid hzz
      clear hc hs ht hzz
      go_wp2_with fail
      clear hca
      refine (HP.out wr).mono ?_
      rintro e w11 ⟨rfl, hb11⟩
      have HB101 := Lib.hid (HB.out.trans (hb11.mono HB.out.size))
      clear hb11 HB 
      go_wp2_with fail
      go_roundw
      case rel => exact ⟨k + 1, acc ++ t, rfl, by go_num, by omega, HR.out, HZZ.out, HB101.out⟩
      case measure => simp [intOf] <;> omega
    · have hd1 : decide ((k : Int) < (n : Int)) = false := decide_eq_false (by omega)
      have HE := Lib.hid (show acc = accL a0 ss by rw [HAC.out, List.take_of_length_le (by rw [L.out]; omega)])
      have hzz : acc.size ≤ 190 := by omega
      have hz2 : (acc ++ a1).size ≤ 200 := by rw [ByteArray.size_append]; omega
      have HZ2 := Lib.hid hz2
      clear hz2
      go_wp2_with fail
      refine (N2.out wr).mono ?_
      rintro e w11 ⟨rfl, hb11⟩
      have HB101 := Lib.hid (HB.out.trans (hb11.mono HB.out.size))
      clear hb11 HB 
      go_wp2_with fail
      clear hd1
      go_loopw [5, 33] (fun s i wr => ∃ (j : Nat) (ac2 : ByteArray), s = .string ac2 ∧ i = .int .i64 (j : Int) ∧ j ≤ n2 ∧ ac2 = accP (acc ++ a1) (ps.take j) ∧ ac2.size ≤ 200 + 110 * j ∧ Below w.heap.size w wr) (fun _ i _ => n2 - (intOf i).toNat)
      case atStart => exact ⟨0, acc ++ a1, rfl, rfl, Nat.zero_le _, rfl, HZ2.out, HB101.out⟩
      case round =>
        obtain ⟨j, ac2, rfl, rfl, hj, hac2, hy, hb2⟩ := hrel
        have HAC2 := Lib.hid hac2
        have HB2 := Lib.hid hb2
        clear hac2 hb2
        by_cases hlt2 : j < n2
        · have hd1 : decide ((j : Int) < (n2 : Int)) = true := decide_eq_true (by omega)
          obtain ⟨b, off, hl, rfl, hbb, _⟩ := (H.out.p.below HB2.out).at hlt2
          have HAT := Lib.hid (accP_take (acc ++ a1) ps j hl)
          have hsz := KP.out _ (List.getElem_mem hl)
          obtain ⟨x, hx⟩ : ∃ x, ps[j] = x := ⟨_, rfl⟩
          have HX := Lib.hid (show ps[j]? = some x by rw [List.getElem?_eq_getElem hl, hx])
          rw [hx] at HAT hsz
          obtain ⟨s, a, d, t⟩ := x
          obtain ⟨z1, z2, z3, z4⟩ := hsz
          have z1 : s.size ≤ 12 := z1
          have z2 : t.size ≤ 64 := z2
          have z3 : -9223372036854775808 ≤ d := z3
          have z4 : d ≤ 9223372036854775807 := z4
          have hi0 : (0 : Int) ≤ (j : Int) := by omega
          obtain ⟨u, hu⟩ : ∃ u, u = tS s := ⟨_, rfl⟩
          obtain ⟨v, hv⟩ : ∃ v, v = vput a d t := ⟨_, rfl⟩
          have huz : u.size ≤ 22 := by rw [hu]; have := tS_size s; omega
          have hvz : v.size ≤ 80 := by rw [hv]; exact vput_small a d t z2
          have HP := Lib.hid (fun W : World => show Calls Try.prog 96 #[.string s] W fun e w' => e = .returned (.string u) ∧ Below W.heap.size W w' by
            rw [hu]; exact putText_any s W (by omega))
          obtain ⟨z, hz0'⟩ : ∃ z, z = errV a d t := ⟨_, rfl⟩
          have HV := Lib.hid (fun W : World => show Calls Try.prog 142 #[.agg #[.int .i64 a, .int .i64 d, .string t]] W fun e w' => e = .returned (.tuple #[.string v, .int .i64 z]) ∧ Below W.heap.size W w' by
            rw [hv, hz0']; exact vput_any a d t W z3 z4 (by omega))
          have HR := Lib.hid (show ac2 ++ (u ++ v) = accP (acc ++ a1) (ps.take (j + 1)) by rw [HAT.out, ← HAC2.out]; unfold pS; rw [hu, hv])
          have hzz2 : (ac2 ++ (u ++ v)).size ≤ 200 + 110 * (j + 1) := by rw [ByteArray.size_append, ByteArray.size_append]; omega
          have HZZ2 := Lib.hid hzz2
          have huv : (u ++ v).size ≤ 102 := by rw [ByteArray.size_append]; omega
          have HUV := Lib.hid huv
          clear hx hu hv hz0' hzz2 z3 z4 huv
          have hc201 : wr.cell? ⟨b, off + j * 4, none⟩ = some (.string s) := (H.out.p.below HB2.out).cellAt HX.out hlt2 0 _ rfl
          have hc202 : wr.cell? ⟨b, off + j * 4 + 1, none⟩ = some (.int .i64 a) := (H.out.p.below HB2.out).cellAt HX.out hlt2 1 _ rfl
          have hc203 : wr.cell? ⟨b, off + j * 4 + 2, none⟩ = some (.int .i64 d) := (H.out.p.below HB2.out).cellAt HX.out hlt2 2 _ rfl
          have hc204 : wr.cell? ⟨b, off + j * 4 + 3, none⟩ = some (.string t) := (H.out.p.below HB2.out).cellAt HX.out hlt2 3 _ rfl
          have HF205 := Lib.hid (blk_new wr (.cells #[.string s, .int .i64 a, .int .i64 d, .string t] 140 (0, 0)))
          have HB206 := Lib.hid (HB2.out.alloc HB2.out.size (.cells #[.string s, .int .i64 a, .int .i64 d, .string t] 140 (0, 0)))
          clear HB2
          have hc207 : (wr.alloc (.cells #[.string s, .int .i64 a, .int .i64 d, .string t] 140 (0, 0))).cell? ⟨wr.heap.size, 0, none⟩ = some (.string s) := by rw [cell_of_row _ _ _ _ _ _ HF205.out]; rfl
          have hc208 : (wr.alloc (.cells #[.string s, .int .i64 a, .int .i64 d, .string t] 140 (0, 0))).cell? ⟨wr.heap.size, 1, none⟩ = some (.int .i64 a) := by rw [cell_of_row _ _ _ _ _ _ HF205.out]; rfl
          have hc209 : (wr.alloc (.cells #[.string s, .int .i64 a, .int .i64 d, .string t] 140 (0, 0))).cell? ⟨wr.heap.size, 2, none⟩ = some (.int .i64 d) := by rw [cell_of_row _ _ _ _ _ _ HF205.out]; rfl
          have hc210 : (wr.alloc (.cells #[.string s, .int .i64 a, .int .i64 d, .string t] 140 (0, 0))).cell? ⟨wr.heap.size, 3, none⟩ = some (.string t) := by rw [cell_of_row _ _ _ _ _ _ HF205.out]; rfl
          go_wp2_with fail
          clear hc201 hc202 hc203 hc204 hc207 hc208 hc209 hc210
          refine (HV.out (wr.alloc (.cells #[.string s, .int .i64 a, .int .i64 d, .string t] 140 (0, 0)))).mono ?_
          rintro e w21 ⟨rfl, hb21⟩
          have HF211 := Lib.hid (blk_below HF205.out hb21)
          have HB212 := Lib.hid (HB206.out.trans (hb21.mono HB206.out.size))
          clear hb21 HB206 HF205
          have hc213 : w21.cell? ⟨wr.heap.size, 0, none⟩ = some (.string s) := by rw [cell_of_row _ _ _ _ _ _ HF211.out]; rfl
          have hc214 : w21.cell? ⟨wr.heap.size, 1, none⟩ = some (.int .i64 a) := by rw [cell_of_row _ _ _ _ _ _ HF211.out]; rfl
          have hc215 : w21.cell? ⟨wr.heap.size, 2, none⟩ = some (.int .i64 d) := by rw [cell_of_row _ _ _ _ _ _ HF211.out]; rfl
          have hc216 : w21.cell? ⟨wr.heap.size, 3, none⟩ = some (.string t) := by rw [cell_of_row _ _ _ _ _ _ HF211.out]; rfl
          go_wp2_with fail
          clear hc213 hc214 hc215 hc216
          refine (HP.out w21).mono ?_
          rintro e w22 ⟨rfl, hb22⟩
          have HF217 := Lib.hid (blk_below HF211.out hb22)
          have HB218 := Lib.hid (HB212.out.trans (hb22.mono HB212.out.size))
          clear hb22 HB212 HF211
          go_wp2_with fail
          go_roundw
          case rel => exact ⟨j + 1, ac2 ++ (u ++ v), rfl, by go_num, by omega, HR.out, HZZ2.out, HB218.out⟩
          case measure => simp [intOf] <;> omega
        · have hd1 : decide ((j : Int) < (n2 : Int)) = false := decide_eq_false (by omega)
          have HE2 := Lib.hid (show ac2 = ptS ss ps by rw [HAC2.out, List.take_of_length_le (by rw [L2.out]; omega), HE.out, HPT.out])
          go_wp2_with fail
          go_ret
          exact ⟨retS HE2.out, HB2.out⟩
theorem accP_size (a : ByteArray) : ∀ (ps : List Pr), (∀ p ∈ ps, p.1.size ≤ 12 ∧ p.2.2.2.size ≤ 64 ∧ -9223372036854775808 ≤ p.2.2.1 ∧ p.2.2.1 ≤ 9223372036854775807) → (accP a ps).size ≤ a.size + 110 * ps.length := by
  intro ps
  induction ps generalizing a with
  | nil => intro _; show a.size ≤ _; omega
  | cons p r ih =>
    intro h
    have h1 := ih (a ++ pS p) (fun x hx => h x (List.mem_cons_of_mem _ hx))
    obtain ⟨k1, k2, _⟩ := h p (by simp)
    have h2 : (pS p).size ≤ 102 := by
      unfold pS
      rw [ByteArray.size_append]
      have := tS_size p.1
      have := vput_small p.2.1 p.2.2.1 p.2.2.2 k2
      omega
    rw [ByteArray.size_append] at h1
    show (accP (a ++ pS p) r).size ≤ _
    rw [List.length_cons]
    omega
theorem accL_size (a : ByteArray) : ∀ (ss : List ByteArray), (∀ s ∈ ss, s.size ≤ 12) → (accL a ss).size ≤ a.size + 22 * ss.length := by
  intro ss
  induction ss generalizing a with
  | nil => intro _; show a.size ≤ _; omega
  | cons p r ih =>
    intro h
    have h1 := ih (a ++ tS p) (fun x hx => h x (List.mem_cons_of_mem _ hx))
    have k1 := h p (by simp)
    have := tS_size p
    rw [ByteArray.size_append] at h1
    show (accL (a ++ tS p) r).size ≤ _
    rw [List.length_cons]
    omega
theorem ptS_size {ss : List ByteArray} {ps : List Pr} (k : Sm ss ps) : (ptS ss ps).size ≤ 2000 := by
  have h1 := accP_size (accL (nS ss.length) ss ++ nS ps.length) ps k.p
  have h2 := accL_size (nS ss.length) ss k.s
  have h3 := nS_size ss.length
  have h4 := nS_size ps.length
  have h5 := k.l
  have h6 := k.pl
  rw [ByteArray.size_append] at h1
  unfold ptS
  omega
set_option maxRecDepth 100000 in
set_option maxHeartbeats 2000000 in
theorem pnode_yes (i : ByteArray) (A A2 : Option Addr) (n c n2 c2 : Nat) (ss : List ByteArray) (ps : List Pr) (w : World) (h : LP w A n ss A2 n2 ps) (k : LOk n ss n2 ps) (hi : i.size ≤ maxLen) (hz : ndW i ss ps = 0) (ki : IntsOk ps) :
    Calls Try.prog 26 #[.agg #[.string i, .slice A n c, .slice A2 n2 c2]] w fun e w' => e = .returned (.tuple #[.string (ptS ss ps), .int .i64 0]) ∧ Below w.heap.size w w' := by
  have H := Lib.hid h
  have HCK := Lib.hid (fun (W : World) (q : LP W A n ss A2 n2 ps) => cnode_any i A A2 n c n2 c2 ss ps W q k hi)
  have hsm := rs_sm (nd_zero hz).2 ki
  have HPP := Lib.hid (fun (W : World) (q : LP W A n ss A2 n2 ps) => pparts_any A A2 n c n2 c2 ss ps W q hsm)
  rw [hz] at HCK
  clear h k hz ki hsm
  have HB1 := Lib.hid (Below.refl w.heap.size w)
  go_enter Try.func26, Try.ntmps26
  have HF2 := Lib.hid (blk_new w (.cells #[.string i, .slice A n c, .slice A2 n2 c2] 48 (0, 0)))
  have HB3 := Lib.hid (HB1.out.alloc HB1.out.size (.cells #[.string i, .slice A n c, .slice A2 n2 c2] 48 (0, 0)))
  clear HB1
  have hc4 : (w.alloc (.cells #[.string i, .slice A n c, .slice A2 n2 c2] 48 (0, 0))).cell? ⟨w.heap.size, 0, none⟩ = some (.string i) := by rw [cell_of_row _ _ _ _ _ _ HF2.out]; rfl
  have hc5 : (w.alloc (.cells #[.string i, .slice A n c, .slice A2 n2 c2] 48 (0, 0))).cell? ⟨w.heap.size, 1, none⟩ = some (.slice A n c) := by rw [cell_of_row _ _ _ _ _ _ HF2.out]; rfl
  have hc6 : (w.alloc (.cells #[.string i, .slice A n c, .slice A2 n2 c2] 48 (0, 0))).cell? ⟨w.heap.size, 2, none⟩ = some (.slice A2 n2 c2) := by rw [cell_of_row _ _ _ _ _ _ HF2.out]; rfl
  go_wp2_with fail
  clear hc4 hc5 hc6
  refine (HCK.out (w.alloc (.cells #[.string i, .slice A n c, .slice A2 n2 c2] 48 (0, 0))) (H.out.below HB3.out)).mono ?_
  rintro e w1 ⟨rfl, hb1⟩
  have HF7 := Lib.hid (blk_below HF2.out hb1)
  have HB8 := Lib.hid (HB3.out.trans (hb1.mono HB3.out.size))
  clear hb1 HB3 HF2
  have hc9 : w1.cell? ⟨w.heap.size, 0, none⟩ = some (.string i) := by rw [cell_of_row _ _ _ _ _ _ HF7.out]; rfl
  have hc10 : w1.cell? ⟨w.heap.size, 1, none⟩ = some (.slice A n c) := by rw [cell_of_row _ _ _ _ _ _ HF7.out]; rfl
  have hc11 : w1.cell? ⟨w.heap.size, 2, none⟩ = some (.slice A2 n2 c2) := by rw [cell_of_row _ _ _ _ _ _ HF7.out]; rfl
  go_wp2_with fail
  clear hc9 hc10 hc11
  refine (HPP.out w1 (H.out.below HB8.out)).mono ?_
  rintro e w2 ⟨rfl, hb2⟩
  have HF12 := Lib.hid (blk_below HF7.out hb2)
  have HB13 := Lib.hid (HB8.out.trans (hb2.mono HB8.out.size))
  clear hb2 HB8 HF7
  go_wp2_with fail
  go_ret2
  exact ⟨rfl, HB13.out⟩
set_option maxRecDepth 100000 in
set_option maxHeartbeats 2000000 in
theorem pnode_no (i : ByteArray) (A A2 : Option Addr) (n c n2 c2 : Nat) (ss : List ByteArray) (ps : List Pr) (w : World) (h : LP w A n ss A2 n2 ps) (k : LOk n ss n2 ps) (hi : i.size ≤ maxLen) (hz : ndW i ss ps ≠ 0) :
    Calls Try.prog 26 #[.agg #[.string i, .slice A n c, .slice A2 n2 c2]] w fun e w' => e = .returned (.tuple #[.string ⟨#[]⟩, .int .i64 (ndW i ss ps)]) ∧ Below w.heap.size w w' := by
  have H := Lib.hid h
  have HCK := Lib.hid (fun (W : World) (q : LP W A n ss A2 n2 ps) => cnode_any i A A2 n c n2 c2 ss ps W q k hi)
  obtain ⟨z, hzz⟩ : ∃ z, z = ndW i ss ps := ⟨_, rfl⟩
  rw [← hzz] at HCK hz ⊢
  have hz1 : (z != 0) = true := by simpa using hz
  clear h k hzz hz
  have HB1 := Lib.hid (Below.refl w.heap.size w)
  go_enter Try.func26, Try.ntmps26
  have HF2 := Lib.hid (blk_new w (.cells #[.string i, .slice A n c, .slice A2 n2 c2] 48 (0, 0)))
  have HB3 := Lib.hid (HB1.out.alloc HB1.out.size (.cells #[.string i, .slice A n c, .slice A2 n2 c2] 48 (0, 0)))
  clear HB1
  have hc4 : (w.alloc (.cells #[.string i, .slice A n c, .slice A2 n2 c2] 48 (0, 0))).cell? ⟨w.heap.size, 0, none⟩ = some (.string i) := by rw [cell_of_row _ _ _ _ _ _ HF2.out]; rfl
  have hc5 : (w.alloc (.cells #[.string i, .slice A n c, .slice A2 n2 c2] 48 (0, 0))).cell? ⟨w.heap.size, 1, none⟩ = some (.slice A n c) := by rw [cell_of_row _ _ _ _ _ _ HF2.out]; rfl
  have hc6 : (w.alloc (.cells #[.string i, .slice A n c, .slice A2 n2 c2] 48 (0, 0))).cell? ⟨w.heap.size, 2, none⟩ = some (.slice A2 n2 c2) := by rw [cell_of_row _ _ _ _ _ _ HF2.out]; rfl
  go_wp2_with fail
  clear hc4 hc5 hc6
  refine (HCK.out (w.alloc (.cells #[.string i, .slice A n c, .slice A2 n2 c2] 48 (0, 0))) (H.out.below HB3.out)).mono ?_
  rintro e w1 ⟨rfl, hb1⟩
  have HF7 := Lib.hid (blk_below HF2.out hb1)
  have HB8 := Lib.hid (HB3.out.trans (hb1.mono HB3.out.size))
  clear hb1 HB3 HF2
  have hc9 : w1.cell? ⟨w.heap.size, 0, none⟩ = some (.string i) := by rw [cell_of_row _ _ _ _ _ _ HF7.out]; rfl
  have hc10 : w1.cell? ⟨w.heap.size, 1, none⟩ = some (.slice A n c) := by rw [cell_of_row _ _ _ _ _ _ HF7.out]; rfl
  have hc11 : w1.cell? ⟨w.heap.size, 2, none⟩ = some (.slice A2 n2 c2) := by rw [cell_of_row _ _ _ _ _ _ HF7.out]; rfl
  go_wp2_with fail
  go_ret2
  exact ⟨rfl, HB8.out⟩
set_option maxRecDepth 100000 in
set_option maxHeartbeats 2000000 in
theorem pedge_yes (i f g : ByteArray) (A A2 : Option Addr) (n c n2 c2 : Nat) (ss : List ByteArray) (ps : List Pr) (w : World) (h : LP w A n ss A2 n2 ps) (k : LOk n ss n2 ps) (hi : i.size ≤ maxLen) (hf : f.size ≤ maxLen) (hg : g.size ≤ maxLen) (hz : edW i f g ss ps = 0) (ki : IntsOk ps) :
    Calls Try.prog 32 #[.agg #[.string i, .string f, .string g, .slice A n c, .slice A2 n2 c2]] w fun e w' => e = .returned (.tuple #[.string ((tS f ++ tS g) ++ ptS ss ps), .int .i64 0]) ∧ Below w.heap.size w w' := by
  have H := Lib.hid h
  have HCK := Lib.hid (fun (W : World) (q : LP W A n ss A2 n2 ps) => cedge_any i f g A A2 n c n2 c2 ss ps W q k hi hf hg)
  have hsm := rs_sm (ed_zero hz).2.2.2 ki
  have HPP := Lib.hid (fun (W : World) (q : LP W A n ss A2 n2 ps) => pparts_any A A2 n c n2 c2 ss ps W q hsm)
  rw [hz] at HCK
  have hpt : (ptS ss ps).size ≤ 2000 := ptS_size hsm
  have hf12 := nm_small (ed_zero hz).2.1
  have hg12 := nm_small (ed_zero hz).2.2.1
  obtain ⟨u, hu⟩ : ∃ u, u = tS f := ⟨_, rfl⟩
  obtain ⟨v, hv⟩ : ∃ v, v = tS g := ⟨_, rfl⟩
  obtain ⟨x, hx⟩ : ∃ x, x = ptS ss ps := ⟨_, rfl⟩
  have huz : u.size ≤ 22 := by rw [hu]; have := tS_size f; omega
  have hvz : v.size ≤ 22 := by rw [hv]; have := tS_size g; omega
  have hxz : x.size ≤ 2000 := by rw [hx]; exact hpt
  have HP1 := Lib.hid (fun W : World => show Calls Try.prog 96 #[.string f] W fun e w' => e = .returned (.string u) ∧ Below W.heap.size W w' by rw [hu]; exact putText_any f W (by omega))
  have HP2 := Lib.hid (fun W : World => show Calls Try.prog 96 #[.string g] W fun e w' => e = .returned (.string v) ∧ Below W.heap.size W w' by rw [hv]; exact putText_any g W (by omega))
  rw [← hx] at HPP
  obtain ⟨s1, hs1⟩ : ∃ s1 : ByteArray, s1 = u ++ v := ⟨_, rfl⟩
  obtain ⟨s2, hs2⟩ : ∃ s2 : ByteArray, s2 = s1 ++ x := ⟨_, rfl⟩
  have y1 : s1.size = u.size + v.size := by rw [hs1, ByteArray.size_append]
  have q1 : ∀ W, (Op.stringOp .add u v).run Try.prog W = .ok (.string s1) W := fun W => by rw [hs1]; exact run_string_add_sum W _ _ (by omega)
  have q2 : ∀ W, (Op.stringOp .add s1 x).run Try.prog W = .ok (.string s2) W := fun W => by rw [hs2]; exact run_string_add_sum W _ _ (by omega)
  have HVV := Lib.hid (show s2 = (tS f ++ tS g) ++ ptS ss ps by rw [hs2, hs1, hu, hv, hx])
  clear hpt hf12 hg12 hu hv hx hs1 hs2 y1
  clear h k hz ki hsm
  have HB1 := Lib.hid (Below.refl w.heap.size w)
  go_enter Try.func32, Try.ntmps32
  have HF2 := Lib.hid (blk_new w (.cells #[.string i, .string f, .string g, .slice A n c, .slice A2 n2 c2] 59 (0, 0)))
  have HB3 := Lib.hid (HB1.out.alloc HB1.out.size (.cells #[.string i, .string f, .string g, .slice A n c, .slice A2 n2 c2] 59 (0, 0)))
  clear HB1
  have hc4 : (w.alloc (.cells #[.string i, .string f, .string g, .slice A n c, .slice A2 n2 c2] 59 (0, 0))).cell? ⟨w.heap.size, 0, none⟩ = some (.string i) := by rw [cell_of_row _ _ _ _ _ _ HF2.out]; rfl
  have hc5 : (w.alloc (.cells #[.string i, .string f, .string g, .slice A n c, .slice A2 n2 c2] 59 (0, 0))).cell? ⟨w.heap.size, 1, none⟩ = some (.string f) := by rw [cell_of_row _ _ _ _ _ _ HF2.out]; rfl
  have hc6 : (w.alloc (.cells #[.string i, .string f, .string g, .slice A n c, .slice A2 n2 c2] 59 (0, 0))).cell? ⟨w.heap.size, 2, none⟩ = some (.string g) := by rw [cell_of_row _ _ _ _ _ _ HF2.out]; rfl
  have hc7 : (w.alloc (.cells #[.string i, .string f, .string g, .slice A n c, .slice A2 n2 c2] 59 (0, 0))).cell? ⟨w.heap.size, 3, none⟩ = some (.slice A n c) := by rw [cell_of_row _ _ _ _ _ _ HF2.out]; rfl
  have hc8 : (w.alloc (.cells #[.string i, .string f, .string g, .slice A n c, .slice A2 n2 c2] 59 (0, 0))).cell? ⟨w.heap.size, 4, none⟩ = some (.slice A2 n2 c2) := by rw [cell_of_row _ _ _ _ _ _ HF2.out]; rfl
  go_wp2_with fail
  clear hc4 hc5 hc6 hc7 hc8
  refine (HCK.out (w.alloc (.cells #[.string i, .string f, .string g, .slice A n c, .slice A2 n2 c2] 59 (0, 0))) (H.out.below HB3.out)).mono ?_
  rintro e w1 ⟨rfl, hb1⟩
  have HF9 := Lib.hid (blk_below HF2.out hb1)
  have HB10 := Lib.hid (HB3.out.trans (hb1.mono HB3.out.size))
  clear hb1 HB3 HF2
  have hc11 : w1.cell? ⟨w.heap.size, 0, none⟩ = some (.string i) := by rw [cell_of_row _ _ _ _ _ _ HF9.out]; rfl
  have hc12 : w1.cell? ⟨w.heap.size, 1, none⟩ = some (.string f) := by rw [cell_of_row _ _ _ _ _ _ HF9.out]; rfl
  have hc13 : w1.cell? ⟨w.heap.size, 2, none⟩ = some (.string g) := by rw [cell_of_row _ _ _ _ _ _ HF9.out]; rfl
  have hc14 : w1.cell? ⟨w.heap.size, 3, none⟩ = some (.slice A n c) := by rw [cell_of_row _ _ _ _ _ _ HF9.out]; rfl
  have hc15 : w1.cell? ⟨w.heap.size, 4, none⟩ = some (.slice A2 n2 c2) := by rw [cell_of_row _ _ _ _ _ _ HF9.out]; rfl
  go_wp2_with fail
  have hr16 := fun d os => cell_regrown hc11 d os
  have hr17 := fun d os => cell_regrown hc12 d os
  have hr18 := fun d os => cell_regrown hc13 d os
  have hr19 := fun d os => cell_regrown hc14 d os
  have hr20 := fun d os => cell_regrown hc15 d os
  refine wp_region_quiet_below (by kernel_rfl) (by kernel_rfl) ?_
  repeat (any_goals (first | go_big_quiet_step ((first | (go_at_call 96; with_reducible exact Calls.regrown_of (HP1.out _)) | (go_at_call 96; with_reducible exact Calls.regrown_of (HP2.out _)) | (go_at_call 87; with_reducible exact Calls.regrown_of (HPP.out _ (H.out.below (HB10.out.trans ((below_regrown _ _ _).mono HB10.out.size))))))) | quiet_step ((first | (go_at_call 96; with_reducible exact Calls.regrown_of (HP1.out _)) | (go_at_call 96; with_reducible exact Calls.regrown_of (HP2.out _)) | (go_at_call 87; with_reducible exact Calls.regrown_of (HPP.out _ (H.out.below (HB10.out.trans ((below_regrown _ _ _).mono HB10.out.size)))))))))
  refine wpQuiet_nil ?_
  intro w2 hw2
  have hb2 := below_anyY hw2
  clear hw2 hr16 hr17 hr18 hr19 hr20
  clear hc11 hc12 hc13 hc14 hc15
  have HF21 := Lib.hid (blk_below HF9.out hb2)
  have HB22 := Lib.hid (HB10.out.trans (hb2.mono HB10.out.size))
  clear hb2 HB10 HF9
  go_wp2_with fail
  go_ret2
  exact ⟨by first | (rw [← HVV.out]; done) | (rw [← HVV.out]; rfl), HB22.out⟩
set_option maxRecDepth 100000 in
set_option maxHeartbeats 2000000 in
theorem pedge_no (i f g : ByteArray) (A A2 : Option Addr) (n c n2 c2 : Nat) (ss : List ByteArray) (ps : List Pr) (w : World) (h : LP w A n ss A2 n2 ps) (k : LOk n ss n2 ps) (hi : i.size ≤ maxLen) (hf : f.size ≤ maxLen) (hg : g.size ≤ maxLen) (hz : edW i f g ss ps ≠ 0) :
    Calls Try.prog 32 #[.agg #[.string i, .string f, .string g, .slice A n c, .slice A2 n2 c2]] w fun e w' => e = .returned (.tuple #[.string ⟨#[]⟩, .int .i64 (edW i f g ss ps)]) ∧ Below w.heap.size w w' := by
  have H := Lib.hid h
  have HCK := Lib.hid (fun (W : World) (q : LP W A n ss A2 n2 ps) => cedge_any i f g A A2 n c n2 c2 ss ps W q k hi hf hg)
  obtain ⟨z, hzz⟩ : ∃ z, z = edW i f g ss ps := ⟨_, rfl⟩
  rw [← hzz] at HCK hz ⊢
  have hz1 : (z != 0) = true := by simpa using hz
  clear h k hzz hz
  have HB1 := Lib.hid (Below.refl w.heap.size w)
  go_enter Try.func32, Try.ntmps32
  have HF2 := Lib.hid (blk_new w (.cells #[.string i, .string f, .string g, .slice A n c, .slice A2 n2 c2] 59 (0, 0)))
  have HB3 := Lib.hid (HB1.out.alloc HB1.out.size (.cells #[.string i, .string f, .string g, .slice A n c, .slice A2 n2 c2] 59 (0, 0)))
  clear HB1
  have hc4 : (w.alloc (.cells #[.string i, .string f, .string g, .slice A n c, .slice A2 n2 c2] 59 (0, 0))).cell? ⟨w.heap.size, 0, none⟩ = some (.string i) := by rw [cell_of_row _ _ _ _ _ _ HF2.out]; rfl
  have hc5 : (w.alloc (.cells #[.string i, .string f, .string g, .slice A n c, .slice A2 n2 c2] 59 (0, 0))).cell? ⟨w.heap.size, 1, none⟩ = some (.string f) := by rw [cell_of_row _ _ _ _ _ _ HF2.out]; rfl
  have hc6 : (w.alloc (.cells #[.string i, .string f, .string g, .slice A n c, .slice A2 n2 c2] 59 (0, 0))).cell? ⟨w.heap.size, 2, none⟩ = some (.string g) := by rw [cell_of_row _ _ _ _ _ _ HF2.out]; rfl
  have hc7 : (w.alloc (.cells #[.string i, .string f, .string g, .slice A n c, .slice A2 n2 c2] 59 (0, 0))).cell? ⟨w.heap.size, 3, none⟩ = some (.slice A n c) := by rw [cell_of_row _ _ _ _ _ _ HF2.out]; rfl
  have hc8 : (w.alloc (.cells #[.string i, .string f, .string g, .slice A n c, .slice A2 n2 c2] 59 (0, 0))).cell? ⟨w.heap.size, 4, none⟩ = some (.slice A2 n2 c2) := by rw [cell_of_row _ _ _ _ _ _ HF2.out]; rfl
  go_wp2_with fail
  clear hc4 hc5 hc6 hc7 hc8
  refine (HCK.out (w.alloc (.cells #[.string i, .string f, .string g, .slice A n c, .slice A2 n2 c2] 59 (0, 0))) (H.out.below HB3.out)).mono ?_
  rintro e w1 ⟨rfl, hb1⟩
  have HF9 := Lib.hid (blk_below HF2.out hb1)
  have HB10 := Lib.hid (HB3.out.trans (hb1.mono HB3.out.size))
  clear hb1 HB3 HF2
  have hc11 : w1.cell? ⟨w.heap.size, 0, none⟩ = some (.string i) := by rw [cell_of_row _ _ _ _ _ _ HF9.out]; rfl
  have hc12 : w1.cell? ⟨w.heap.size, 1, none⟩ = some (.string f) := by rw [cell_of_row _ _ _ _ _ _ HF9.out]; rfl
  have hc13 : w1.cell? ⟨w.heap.size, 2, none⟩ = some (.string g) := by rw [cell_of_row _ _ _ _ _ _ HF9.out]; rfl
  have hc14 : w1.cell? ⟨w.heap.size, 3, none⟩ = some (.slice A n c) := by rw [cell_of_row _ _ _ _ _ _ HF9.out]; rfl
  have hc15 : w1.cell? ⟨w.heap.size, 4, none⟩ = some (.slice A2 n2 c2) := by rw [cell_of_row _ _ _ _ _ _ HF9.out]; rfl
  go_wp2_with fail
  go_ret2
  exact ⟨rfl, HB10.out⟩
end Go.Proofs.Ytdjjabjegmbmaaa
