/- Whether an image may be, and Load, over this translation. Condition: slices of at most 100000. -/
import Derived.Test.YtagenkofoacajaaDoorDLq
namespace Go.Proofs.YtagenkofoacajaaDoor
open Go.RowKit Vi

/-- an index, or one below 0: is there one? -/
def IdxP (b : Bool) (w : World) (e : Ending) (w' : World) : Prop := ∃ r : Int, e = .returned (.int .i64 r) ∧ decide (0 ≤ r) = b ∧ Below w.heap.size w w'
def RetBl (b : Bool) (w : World) (e : Ending) (w' : World) : Prop := e = .returned (.bool b) ∧ Below w.heap.size w w'
/-- a text is no sector -/
def badS (s : ByteArray) : Bool := !decide (s.size = 128)
/-- a write may not be -/
def badW (n : Nat) (x : Wr) : Bool := dckE n x.1 x.2 != 0
theorem any_snocF {α : Type} (p : α → Bool) (l : List α) (k : Nat) (hk : k < l.length) : (l.take (k + 1)).any p = ((l.take k).any p || p l[k]) := by
  rw [List.take_succ_eq_append_getElem hk, List.any_append]
  simp
theorem any_at {α : Type} (p : α → Bool) (l : List α) (k : Nat) (hk : k < l.length) (h : p l[k] = true) : l.any p = true := List.any_eq_true.2 ⟨_, List.getElem_mem hk, h⟩
set_option maxRecDepth 100000 in
theorem mb1_any (s : ByteArray) (w : World) : Calls Tryd.prog 118 #[.string s] w fun e w' => e = .returned (.bool (badS s)) ∧ w = w' := by
  have H := dsec_any s w
  have HR := Lib.hid (show (!decide (s.size = 128)) = badS s from rfl)
  obtain ⟨b, hb⟩ : ∃ b, b = decide (s.size = 128) := ⟨_, rfl⟩
  rw [← hb] at H HR
  have H := Lib.hid H
  clear hb
  cases b
  all_goals
    go_enter Tryd.func118, Tryd.ntmps118
    go_wp2_with fail
    refine H.out.mono ?_
    rintro e w' ⟨rfl, rfl⟩
    go_wp2_with fail
    go_ret
    exact ⟨dk_retB HR.out, rfl⟩
set_option maxRecDepth 100000 in
theorem mb2_any (X Q : Nat) (sa : Option Addr) (sn sc : Nat) (x : Wr) (w : World) (hq : w.cell? ⟨Q, 0, none⟩ = some (.pointer (some ⟨X, 0, none⟩))) (hx : w.cell? ⟨X, 0, none⟩ = some (.slice sa sn sc)) :
    Calls Tryd.prog 120 #[.agg #[.int .i64 x.1, .string x.2], .pointer (some ⟨Q, 0, none⟩)] w (RetBl (badW sn x) w) := by
  obtain ⟨at0, s⟩ := x
  obtain ⟨o1, ho1⟩ : ∃ o : Obj, o = .cells #[.int .i64 at0, .string s] 112 (0, 0) := ⟨_, rfl⟩
  have HB0 := Lib.hid ((Below.refl w.heap.size w).alloc (Nat.le_refl _) o1)
  have q0 : (w.alloc o1).cell? ⟨Q, 0, none⟩ = some (.pointer (some ⟨X, 0, none⟩)) := (HB0.out.cell (p := ⟨Q, 0, none⟩) (World.block_lt_of_cell? w _ hq)).trans hq
  have x0 : (w.alloc o1).cell? ⟨X, 0, none⟩ = some (.slice sa sn sc) := (HB0.out.cell (p := ⟨X, 0, none⟩) (World.block_lt_of_cell? w _ hx)).trans hx
  have H := dcheck_any X sa sn sc at0 s _ x0
  have HR := Lib.hid (show (dckE sn at0 s != 0) = badW sn (at0, s) from rfl)
  obtain ⟨z, hz⟩ : ∃ z, z = dckE sn at0 s := ⟨_, rfl⟩
  rw [← hz] at H HR
  have H := Lib.hid H
  clear hz x0 hx
  subst ho1
  go_enter Tryd.func120, Tryd.ntmps120
  go_wp2_with fail
  refine H.out.mono ?_
  rintro e w' ⟨rfl, rfl⟩
  go_wp2_with fail
  go_ret
  exact ⟨dk_retB HR.out, HB0.out⟩
set_option maxRecDepth 100000 in
set_option maxHeartbeats 1000000 in
theorem dix_st (A : Option Addr) (n c : Nat) (l : List ByteArray) (w : World) (h : RdX stC 1 w A n l) (hn : n ≤ 100000) :
    Calls Tryd.prog 84 #[.slice A n c, .func (.func 118) #[] #[]] w (IdxP (l.any badS) w) := by
  have H := Lib.hid h
  clear h
  go_enter Tryd.func84, Tryd.ntmps84
  go_wp2_with fail
  go_loopw [5, 8] (fun _ i wr => ∃ k : Nat, i = .int .i64 (k : Int) ∧ k ≤ n ∧ Hid ((l.take k).any badS = false) ∧ Below w.heap.size w wr) (fun _ i _ => n - (intOf i).toNat)
  case atStart => exact ⟨0, rfl, Nat.zero_le _, Lib.hid rfl, Below.refl _ _⟩
  case round =>
    obtain ⟨k, rfl, hk, HN, hb⟩ := hrel
    have HB := Lib.hid hb
    clear hb
    by_cases hlt : k < n
    · have hd1 : decide ((k : Int) < (n : Int)) = true := decide_eq_true (by omega)
      have hi0 : (0 : Int) ≤ (k : Int) := by omega
      obtain ⟨b, off, hl2, rfl, hbb, hcell⟩ := (H.out.below HB.out).at hlt
      have HT := Lib.hid (any_snocF badS l k hl2)
      have HA := Lib.hid (any_at badS l k hl2)
      obtain ⟨x, hx⟩ : ∃ x, x = l[k] := ⟨_, rfl⟩
      rw [← hx] at HT HA
      have c0 := hcell 0 (.string l[k]) rfl
      rw [← hx, Nat.mul_one, Nat.add_zero] at c0
      clear hcell hx
      obtain ⟨z, hz⟩ : ∃ z, z = badS x := ⟨_, rfl⟩
      rw [← hz] at HT HA
      have HC := of_same (mb1_any x wr)
      rw [← hz] at HC
      have HC := Lib.hid HC
      clear hz
      go_wp2_with fail
      refine HC.out.mono ?_
      rintro e w1 ⟨rfl, hb1⟩
      have HB1 := Lib.hid (HB.out.trans (hb1.mono HB.out.size))
      clear hb1
      cases z with
      | true =>
        go_wp2_with fail
        go_ret
        exact ⟨(k : Int), rfl, by rw [HA.out (by first | rfl | trivial)]; exact decide_eq_true (by omega), HB1.out⟩
      | false =>
        go_wp2_with fail
        go_roundw
        case rel => exact ⟨k + 1, by go_num, by omega, Lib.hid (by rw [HT.out, HN.out]; rfl), HB1.out⟩
        case measure => simp [intOf] <;> omega
    · have hd1 : decide ((k : Int) < (n : Int)) = false := decide_eq_false (by omega)
      have HE := Lib.hid (show l.take k = l from List.take_of_length_le (by have := H.out.1; omega))
      go_wp2_with fail
      go_ret
      exact ⟨-1, rfl, by rw [← HE.out, HN.out]; rfl, HB.out⟩
set_option maxRecDepth 100000 in
theorem dix_stC (A : Option Addr) (n c : Nat) (l : List ByteArray) (w : World) (h : RdX stC 1 w A n l) (hn : n ≤ 100000) :
    Calls Tryd.prog 52 #[.slice A n c, .func (.func 118) #[] #[]] w (RetBl (l.any badS) w) := by
  have HC := Lib.hid (dix_st A n c l w h hn)
  clear h
  go_enter Tryd.func52, Tryd.ntmps52
  go_wp2_with fail
  refine HC.out.mono ?_
  rintro e w1 ⟨r, rfl, hr, hb1⟩
  have HB1 := Lib.hid hb1
  have HR := Lib.hid hr
  clear hb1 hr
  go_wp2_with fail
  go_ret
  exact ⟨dk_retB HR.out, HB1.out⟩
set_option maxRecDepth 100000 in
set_option maxHeartbeats 1000000 in
theorem dix_wr (X Q : Nat) (sa : Option Addr) (sn sc : Nat) (A : Option Addr) (n c : Nat) (l : List Wr) (w : World) (h : RdX wrC 2 w A n l) (hn : n ≤ 100000) (hq : w.cell? ⟨Q, 0, none⟩ = some (.pointer (some ⟨X, 0, none⟩))) (hx : w.cell? ⟨X, 0, none⟩ = some (.slice sa sn sc)) :
    Calls Tryd.prog 133 #[.slice A n c, .func (.func 120) #[] #[.pointer (some ⟨Q, 0, none⟩)]] w (IdxP (l.any (badW sn)) w) := by
  have H := Lib.hid h
  have HQ := Lib.hid hq
  have HX := Lib.hid hx
  have hql := World.block_lt_of_cell? w _ hq
  have hxl := World.block_lt_of_cell? w _ hx
  clear hq hx
  clear h
  go_enter Tryd.func133, Tryd.ntmps133
  go_wp2_with fail
  go_loopw [5, 8] (fun _ i wr => ∃ k : Nat, i = .int .i64 (k : Int) ∧ k ≤ n ∧ Hid ((l.take k).any (badW sn) = false) ∧ Below w.heap.size w wr) (fun _ i _ => n - (intOf i).toNat)
  case atStart => exact ⟨0, rfl, Nat.zero_le _, Lib.hid rfl, Below.refl _ _⟩
  case round =>
    obtain ⟨k, rfl, hk, HN, hb⟩ := hrel
    have HB := Lib.hid hb
    clear hb
    by_cases hlt : k < n
    · have hd1 : decide ((k : Int) < (n : Int)) = true := decide_eq_true (by omega)
      have hi0 : (0 : Int) ≤ (k : Int) := by omega
      obtain ⟨b, off, hl2, rfl, hbb, hcell⟩ := (H.out.below HB.out).at hlt
      have HT := Lib.hid (any_snocF (badW sn) l k hl2)
      have HA := Lib.hid (any_at (badW sn) l k hl2)
      obtain ⟨x, hx⟩ : ∃ x, x = l[k] := ⟨_, rfl⟩
      rw [← hx] at HT HA
      have c0 := hcell 0 (.int .i64 l[k].1) rfl
      have c1 := hcell 1 (.string l[k].2) rfl
      rw [← hx] at c0 c1
      rw [Nat.add_zero] at c0
      clear hcell hx
      obtain ⟨z, hz⟩ : ∃ z, z = (badW sn) x := ⟨_, rfl⟩
      rw [← hz] at HT HA
      have HC := mb2_any X Q sa sn sc x wr ((HB.out.cell (p := ⟨Q, 0, none⟩) hql).trans HQ.out) ((HB.out.cell (p := ⟨X, 0, none⟩) hxl).trans HX.out)
      rw [← hz] at HC
      have HC := Lib.hid HC
      clear hz
      go_wp2_with fail
      refine HC.out.mono ?_
      rintro e w1 ⟨rfl, hb1⟩
      have HB1 := Lib.hid (HB.out.trans (hb1.mono HB.out.size))
      clear hb1
      cases z with
      | true =>
        go_wp2_with fail
        go_ret
        exact ⟨(k : Int), rfl, by rw [HA.out (by first | rfl | trivial)]; exact decide_eq_true (by omega), HB1.out⟩
      | false =>
        go_wp2_with fail
        go_roundw
        case rel => exact ⟨k + 1, by go_num, by omega, Lib.hid (by rw [HT.out, HN.out]; rfl), HB1.out⟩
        case measure => simp [intOf] <;> omega
    · have hd1 : decide ((k : Int) < (n : Int)) = false := decide_eq_false (by omega)
      have HE := Lib.hid (show l.take k = l from List.take_of_length_le (by have := H.out.1; omega))
      go_wp2_with fail
      go_ret
      exact ⟨-1, rfl, by rw [← HE.out, HN.out]; rfl, HB.out⟩
set_option maxRecDepth 100000 in
theorem dix_wrC (X Q : Nat) (sa : Option Addr) (sn sc : Nat) (A : Option Addr) (n c : Nat) (l : List Wr) (w : World) (h : RdX wrC 2 w A n l) (hn : n ≤ 100000) (hq : w.cell? ⟨Q, 0, none⟩ = some (.pointer (some ⟨X, 0, none⟩))) (hx : w.cell? ⟨X, 0, none⟩ = some (.slice sa sn sc)) :
    Calls Tryd.prog 119 #[.slice A n c, .func (.func 120) #[] #[.pointer (some ⟨Q, 0, none⟩)]] w (RetBl (l.any (badW sn)) w) := by
  have HC := Lib.hid (dix_wr X Q sa sn sc A n c l w h hn hq hx)
  clear h
  go_enter Tryd.func119, Tryd.ntmps119
  go_wp2_with fail
  refine HC.out.mono ?_
  rintro e w1 ⟨r, rfl, hr, hb1⟩
  have HB1 := Lib.hid hb1
  have HR := Lib.hid hr
  clear hb1 hr
  go_wp2_with fail
  go_ret
  exact ⟨dk_retB HR.out, HB1.out⟩
/-- may an image be? -/
def mayI (SS : List ByteArray) (CC : List Wr) : Bool := decide (16 ≤ (SS.length : Int) ∧ (SS.length : Int) ≤ 4096) && (!SS.any badS && (decide (CC.length ≤ 4096) && !CC.any (badW SS.length)))
set_option maxRecDepth 100000 in
set_option maxHeartbeats 1000000 in
theorem dmay_any (X : Nat) (sa : Option Addr) (sc : Nat) (ca : Option Addr) (cc : Nat) (SS : List ByteArray) (CC : List Wr) (w : World) (d0 : w.cell? ⟨X, 0, none⟩ = some (.slice sa SS.length sc)) (d1 : w.cell? ⟨X, 1, none⟩ = some (.slice ca CC.length cc)) (h2 : RdX stC 1 w sa SS.length SS) (h3 : RdX wrC 2 w ca CC.length CC) (hs : SS.length ≤ 100000) (hc : CC.length ≤ 100000) :
    Calls Tryd.prog 95 #[.pointer (some ⟨X, 0, none⟩)] w (RetBl (mayI SS CC) w) := by
  have hXl : X < w.heap.size := World.block_lt_of_cell? w _ d0
  have HB0 := Lib.hid ((Below.refl w.heap.size w).alloc (Nat.le_refl _) (.cells #[.pointer (some ⟨X, 0, none⟩)] 132 (0, 0)))
  have HQ0 := Lib.hid (blk_new w (.cells #[.pointer (some ⟨X, 0, none⟩)] 132 (0, 0)))
  have HD0 := Lib.hid d0
  have HD1 := Lib.hid d1
  have H2 := Lib.hid h2
  have H3 := Lib.hid h3
  obtain ⟨v, hv⟩ : ∃ v, v = w.alloc (.cells #[.pointer (some ⟨X, 0, none⟩)] 132 (0, 0)) := ⟨_, rfl⟩
  have HV := Lib.hid hv
  rw [← hv] at HB0 HQ0
  have HZ := Lib.hid (fun W : World => dsize_any (SS.length : Int) W)
  clear d0 d1 h2 h3 hv
  go_enter Tryd.func95, Tryd.ntmps95
  go_upto_region 1 with (fail)
  rw [← HV.out]
  have q0 : v.cell? ⟨w.heap.size, 0, none⟩ = some (.pointer (some ⟨X, 0, none⟩)) := (cell_of_row _ _ 0 _ _ _ HQ0.out).trans rfl
  have x0 : v.cell? ⟨X, 0, none⟩ = some (.slice sa SS.length sc) := (HB0.out.cell (p := ⟨X, 0, none⟩) hXl).trans HD0.out
  have x1 : v.cell? ⟨X, 1, none⟩ = some (.slice ca CC.length cc) := (HB0.out.cell (p := ⟨X, 1, none⟩) hXl).trans HD1.out
  cases hA : decide (16 ≤ (SS.length : Int) ∧ (SS.length : Int) ≤ 4096) with
  | false =>
    have HR := Lib.hid (show false = mayI SS CC by unfold mayI; rw [hA]; rfl)
    rw [hA] at HZ
    clear hA
    go_wp2_with fail
    refine (HZ.out _).mono ?_
    rintro e w' ⟨rfl, rfl⟩
    go_wp2_with fail
    go_ret
    exact ⟨dk_retB HR.out, HB0.out⟩
  | true =>
    rw [hA] at HZ
    have HA := Lib.hid hA
    have HC := Lib.hid (dix_stC sa SS.length sc SS v (H2.out.below HB0.out) hs)
    clear hA
    go_wp2_with fail
    refine (HZ.out _).mono ?_
    rintro e w' ⟨rfl, rfl⟩
    go_wp2_with fail
    refine HC.out.mono ?_
    rintro e w1 ⟨rfl, hb1⟩
    have HB1 := Lib.hid (HB0.out.trans (hb1.mono HB0.out.size))
    have HQ1 := Lib.hid (blk_below HQ0.out hb1)
    clear hb1 q0 x0 x1
    have q0 : w1.cell? ⟨w.heap.size, 0, none⟩ = some (.pointer (some ⟨X, 0, none⟩)) := (cell_of_row _ _ 0 _ _ _ HQ1.out).trans rfl
    have x0 : w1.cell? ⟨X, 0, none⟩ = some (.slice sa SS.length sc) := (HB1.out.cell (p := ⟨X, 0, none⟩) hXl).trans HD0.out
    have x1 : w1.cell? ⟨X, 1, none⟩ = some (.slice ca CC.length cc) := (HB1.out.cell (p := ⟨X, 1, none⟩) hXl).trans HD1.out
    obtain ⟨b, hb⟩ : ∃ b, b = SS.any badS := ⟨_, rfl⟩
    rw [← hb]
    cases b with
    | true =>
      have HR := Lib.hid (show false = mayI SS CC by unfold mayI; rw [HA.out, ← hb]; rfl)
      clear hb
      go_wp2_with fail
      go_ret
      exact ⟨dk_retB HR.out, HB1.out⟩
    | false =>
      by_cases hl : CC.length ≤ 4096
      rotate_left
      · have d5 : decide ((CC.length : Int) > 4096) = true := decide_eq_true (by omega)
        have d6 : decide ((4096 : Int) < (CC.length : Int)) = true := decide_eq_true (by omega)
        have HR := Lib.hid (show false = mayI SS CC by unfold mayI; rw [HA.out, ← hb, decide_eq_false hl]; rfl)
        clear hb hl
        go_wp2_with fail
        go_ret
        exact ⟨dk_retB HR.out, HB1.out⟩
      · have d5 : decide ((CC.length : Int) > 4096) = false := decide_eq_false (by omega)
        have d6 : decide ((4096 : Int) < (CC.length : Int)) = false := decide_eq_false (by omega)
        have HR := Lib.hid (show (!CC.any (badW SS.length)) = mayI SS CC by unfold mayI; rw [HA.out, ← hb, decide_eq_true hl]; rfl)
        have HC2 := Lib.hid (dix_wrC X w.heap.size sa SS.length sc ca CC.length cc CC w1 (H3.out.below HB1.out) hc q0 x0)
        clear hb hl
        go_wp2_with fail
        refine HC2.out.mono ?_
        rintro e w2 ⟨rfl, hb2⟩
        have HB2 := Lib.hid (HB1.out.trans (hb2.mono HB1.out.size))
        clear hb2
        obtain ⟨b, hb⟩ : ∃ b, b = CC.any (badW SS.length) := ⟨_, rfl⟩
        rw [← hb] at HR ⊢
        clear hb
        cases b
        all_goals
          go_wp2_with fail
          go_ret
          exact ⟨dk_retB HR.out, HB2.out⟩
end Go.Proofs.YtagenkofoacajaaDoor
