/- The contract of (*sha.Hash).mix over this translation: a block is mixed in. Conditions: a sum that lies in a block of its own; the table that the program's text lays. -/
import Derived.Test.YtiflieaemgamkaaDoorHj
import Derived.Handy
import Derived.OwnWalk
namespace Go.Proofs.YtiflieaemgamkaaDoor
open Go.RowKit Hm

/-- words of 32 bits -/
structure StOk (s : St) : Prop where
  a : s.a < 4294967296
  b : s.b < 4294967296
  c : s.c < 4294967296
  d : s.d < 4294967296
  e : s.e < 4294967296
  f : s.f < 4294967296
  g : s.g < 4294967296
  h : s.h < 4294967296
/-- what the rounds carry -/
def MixR (W : List Nat) (s0 : St) (w w1 : World) (M : Nat) (va vb vc vd ve vf vg vh i : Value) (wr : World) : Prop :=
  ∃ (k : Nat) (s : St), i = .int .i64 (k : Int) ∧ k ≤ 64 ∧ va = .int .u32 (s.a : Int) ∧ vb = .int .u32 (s.b : Int) ∧ vc = .int .u32 (s.c : Int) ∧ vd = .int .u32 (s.d : Int) ∧ ve = .int .u32 (s.e : Int) ∧ vf = .int .u32 (s.f : Int) ∧ vg = .int .u32 (s.g : Int) ∧ vh = .int .u32 (s.h : Int) ∧ StOk s ∧ Hid (s = rounds W k s0) ∧ Below w.heap.size w wr ∧ wr.heap[M]? = w1.heap[M]?

theorem info_w32 : (Tryd.prog.info? 69).map (fun i => (i.zero, i.size, i.bytes)) = some (some (.int .u32 0), 1, 4) := by kernel_rfl
theorem run_index8 (C : Array Value) (k : Nat) (n : Int) (hk : k < 8) (hC : C[k]? = some (.int .u32 n)) (W : World) : (Instr.index 70 (.agg C) (.int .i64 (k : Int))).run Tryd.prog W = .ok (.int .u32 n) W := by
  have h0 : 0 ≤ (k : Int) ∧ (k : Int) < 8 := by omega
  have hs : ∀ W, (sizeOf 69).run Tryd.prog W = .ok 1 W := fun W => by
    obtain ⟨i0, hi, _, hz1, _⟩ := info_parts info_w32
    simp [sizeOf, typeInfo, hi, hz1]
  simp [Instr.index, run_underlying Tryd.underlying70, asIntOf, h0, hs, go_sem, hC]
  try exact fun h => absurd h (by omega)

set_option maxHeartbeats 8000000 in
set_option maxRecDepth 100000 in
theorem mix_any (B : Nat) (h : List Nat) (b : List UInt8) (n : Nat) (w : World) (hH : SH w B h b n) (hT : HTab w) :
    Calls Tryd.prog 43 #[.pointer (some ⟨B, 0, none⟩)] w fun e w' => e = .returned (.tuple #[]) ∧ SH w' B (mix h b) b n ∧ Only B w w' := by
  have HH := Lib.hid hH
  have HT := Lib.hid hT
  have hlt := hH.lt
  have HL := Lib.hid hH.hl
  clear hH hT
  obtain ⟨cs, hcs⟩ : ∃ cs, cs = ((grown b 64).map fun (x : Nat) => Value.int .u32 (x : Int)).toArray := ⟨_, rfl⟩
  have hsz : cs.size = 64 := by rw [hcs, grown_sched]; simp [sched_len]
  have HON := Lib.hid (show cs.all (·.oneCell') = true by
    rw [hcs, Array.all_eq_true_iff_forall_mem]
    intro v hv
    simp at hv
    obtain ⟨x, _, rfl⟩ := hv
    rfl)
  have HIN := Lib.hid (show (Tryd.prog.info? 115).map (·.size) = some cs.size by rw [hsz]; kernel_rfl)
  have HSZ := Lib.hid hsz
  have HSP := Lib.hid (spread_any B h b n w HH.out.isH)
  rw [← hcs] at HSP
  have HAT := Lib.hid (show ∀ j, j < 64 → cs[j]? = some (.int .u32 ((sched b).getD j 0 : Int)) by
    intro j hj
    rw [hcs, grown_sched, List.getElem?_toArray, List.getElem?_map, List.getD_eq_getElem?_getD, List.getElem?_eq_getElem (by rw [sched_len]; exact hj)]
    rfl)
  have HSL := Lib.hid (show ∀ j, (sched b).getD j 0 < 4294967296 by
    intro j
    rw [← grown_sched]
    exact grown_lt b 64 j)
  clear hcs hsz
  obtain ⟨W, hW⟩ : ∃ W, W = sched b := ⟨_, rfl⟩
  rw [← hW] at HAT HSL
  have HW := Lib.hid hW
  clear hW
  have l8 := HH.out.hlt
  obtain ⟨h0, e0⟩ : ∃ x, x = h.getD 0 0 := ⟨_, rfl⟩
  obtain ⟨h1, e1⟩ : ∃ x, x = h.getD 1 0 := ⟨_, rfl⟩
  obtain ⟨h2, e2⟩ : ∃ x, x = h.getD 2 0 := ⟨_, rfl⟩
  obtain ⟨h3, e3⟩ : ∃ x, x = h.getD 3 0 := ⟨_, rfl⟩
  obtain ⟨h4, e4⟩ : ∃ x, x = h.getD 4 0 := ⟨_, rfl⟩
  obtain ⟨h5, e5⟩ : ∃ x, x = h.getD 5 0 := ⟨_, rfl⟩
  obtain ⟨h6, e6⟩ : ∃ x, x = h.getD 6 0 := ⟨_, rfl⟩
  obtain ⟨h7, e7⟩ : ∃ x, x = h.getD 7 0 := ⟨_, rfl⟩
  have m0 : h0 < 4294967296 := by rw [e0]; exact l8 0 (by omega)
  have m1 : h1 < 4294967296 := by rw [e1]; exact l8 1 (by omega)
  have m2 : h2 < 4294967296 := by rw [e2]; exact l8 2 (by omega)
  have m3 : h3 < 4294967296 := by rw [e3]; exact l8 3 (by omega)
  have m4 : h4 < 4294967296 := by rw [e4]; exact l8 4 (by omega)
  have m5 : h5 < 4294967296 := by rw [e5]; exact l8 5 (by omega)
  have m6 : h6 < 4294967296 := by rw [e6]; exact l8 6 (by omega)
  have m7 : h7 < 4294967296 := by rw [e7]; exact l8 7 (by omega)
  have HS0 := Lib.hid (show St.of h = ⟨h0, h1, h2, h3, h4, h5, h6, h7⟩ by rw [e0, e1, e2, e3, e4, e5, e6, e7]; rfl)
  have p0 : w.cell? ⟨B, 1, none⟩ = some (.int .u32 (h0 : Int)) := by have := HH.out.words 0 (by omega); rw [← e0] at this; exact this
  have p1 : w.cell? ⟨B, 2, none⟩ = some (.int .u32 (h1 : Int)) := by have := HH.out.words 1 (by omega); rw [← e1] at this; exact this
  have p2 : w.cell? ⟨B, 3, none⟩ = some (.int .u32 (h2 : Int)) := by have := HH.out.words 2 (by omega); rw [← e2] at this; exact this
  have p3 : w.cell? ⟨B, 4, none⟩ = some (.int .u32 (h3 : Int)) := by have := HH.out.words 3 (by omega); rw [← e3] at this; exact this
  have p4 : w.cell? ⟨B, 5, none⟩ = some (.int .u32 (h4 : Int)) := by have := HH.out.words 4 (by omega); rw [← e4] at this; exact this
  have p5 : w.cell? ⟨B, 6, none⟩ = some (.int .u32 (h5 : Int)) := by have := HH.out.words 5 (by omega); rw [← e5] at this; exact this
  have p6 : w.cell? ⟨B, 7, none⟩ = some (.int .u32 (h6 : Int)) := by have := HH.out.words 6 (by omega); rw [← e6] at this; exact this
  have p7 : w.cell? ⟨B, 8, none⟩ = some (.int .u32 (h7 : Int)) := by have := HH.out.words 7 (by omega); rw [← e7] at this; exact this
  clear l8 e0 e1 e2 e3 e4 e5 e6 e7
  have P := Lib.hid (And.intro p0 (And.intro p1 (And.intro p2 (And.intro p3 (And.intro p4 (And.intro p5 (And.intro p6 p7)))))))
  clear p0 p1 p2 p3 p4 p5 p6 p7
  go_enter Tryd.func43, Tryd.ntmps43
  go_wp2_with fail
  refine HSP.out.mono ?_
  rintro e ws ⟨rfl, -, hb0⟩
  have HB0 := Lib.hid hb0
  clear hb0 HSP
  go_wp2_with (refine wpList_store_rowN rfl 115 (.tmp 2) (.tmp 17) rfl ws.heap.size cs rfl rfl 115 _ (heap_alloc_new ws _) HIN.out (by rw [HSZ.out]; simp) HON.out w.heap.size w (HB0.out.alloc HB0.out.size _) HB0.out.size ?_)
  intro w1 HC1 HB1 HZ1
  obtain ⟨p0, p1, p2, p3, p4, p5, p6, p7⟩ := P.out
  have r0 := (HB1.out.cell (p := ⟨B, 1, none⟩) hlt).trans p0
  have r1 := (HB1.out.cell (p := ⟨B, 2, none⟩) hlt).trans p1
  have r2 := (HB1.out.cell (p := ⟨B, 3, none⟩) hlt).trans p2
  have r3 := (HB1.out.cell (p := ⟨B, 4, none⟩) hlt).trans p3
  have r4 := (HB1.out.cell (p := ⟨B, 5, none⟩) hlt).trans p4
  have r5 := (HB1.out.cell (p := ⟨B, 6, none⟩) hlt).trans p5
  have r6 := (HB1.out.cell (p := ⟨B, 7, none⟩) hlt).trans p6
  have r7 := (HB1.out.cell (p := ⟨B, 8, none⟩) hlt).trans p7
  clear p0 p1 p2 p3 p4 p5 p6 p7
  obtain ⟨M, hM⟩ : ∃ M, M = ws.heap.size := ⟨_, rfl⟩
  rw [← hM] at HC1
  go_wp2_with fail
  go_quiet (fail)
  go_wp2_with fail
  go_quiet (fail)
  clear r0 r1 r2 r3 r4 r5 r6 r7
  rw [← hM]
  clear hM
  go_wp2_with fail
  go_loopw [3, 4, 5, 6, 7, 8, 9, 10, 11, 12, 13, 58] (fun va vb vc vd ve vf vg vh _ _ _ i wr => MixR W ⟨h0, h1, h2, h3, h4, h5, h6, h7⟩ w w1 M va vb vc vd ve vf vg vh i wr) (fun _ _ _ _ _ _ _ _ _ _ _ i _ => 64 - (intOf i).toNat)
  case atStart => exact ⟨0, ⟨h0, h1, h2, h3, h4, h5, h6, h7⟩, rfl, by omega, rfl, rfl, rfl, rfl, rfl, rfl, rfl, rfl, ⟨m0, m1, m2, m3, m4, m5, m6, m7⟩, rfl, ⟨HB1.out.os, HB1.out.tape, HB1.out.output, HB1.out.size, HB1.out.block⟩, rfl⟩
  case round =>
    obtain ⟨k, ⟨a, b', c, d, e, f, g, i⟩, rfl, hk, rfl, rfl, rfl, rfl, rfl, rfl, rfl, rfl, ⟨la, lb, lc, ld, le, lf, lg, li⟩, HS, hbr, hcr⟩ := hrel
    have HBR := Lib.hid hbr
    have HCR := Lib.hid hcr
    clear hbr hcr
    simp only at la lb lc ld le lf lg li
    by_cases hlt2 : k < 64
    · have LB := Lib.hid (show StOk ⟨a, b', c, d, e, f, g, i⟩ from ⟨la, lb, lc, ld, le, lf, lg, li⟩)
      clear la lb lc ld le lf lg li m0 m1 m2 m3 m4 m5 m6 m7
      dsimp only
      go_wp2_with fail
      have cK := (HT.out.later HBR.out) k hlt2
      have cW := (cell_of_row _ _ k _ _ _ (HCR.out.trans HC1.out)).trans (HAT.out k hlt2)
      obtain ⟨x, hx⟩ : ∃ x, x = consts.getD k 0 := ⟨_, rfl⟩
      obtain ⟨y, hy⟩ : ∃ y, y = W.getD k 0 := ⟨_, rfl⟩
      rw [← hx] at cK
      rw [← hy] at cW
      have HX := Lib.hid hx
      have HY := Lib.hid hy
      clear hx hy
      obtain ⟨q6, n6, D6, R6⟩ := rot_ex e 6 6 rfl LB.out.e (by omega) (by omega)
      obtain ⟨q11, n11, D11, R11⟩ := rot_ex e 11 11 rfl LB.out.e (by omega) (by omega)
      obtain ⟨q25, n25, D25, R25⟩ := rot_ex e 25 25 rfl LB.out.e (by omega) (by omega)
      obtain ⟨t1, o1, E1, z1⟩ := xor_ex q6 q11 n6 n11
      obtain ⟨t2, o2, E2, z2⟩ := xor_ex t1 q25 o1 n25
      obtain ⟨t3, o3, E3, z3, u3⟩ := add_ex i t2
      obtain ⟨t4, o4, E4, z4⟩ := and_ex e f LB.out.e LB.out.f
      obtain ⟨t5, o5, E5, z5⟩ := not_ex e LB.out.e
      have z5' : bits BinOp.xor IntKind.u32 (if IntKind.u32.signed = true then -1 else IntKind.u32.max) (e : Int) = (t5 : Int) := z5
      obtain ⟨t6, o6, E6, z6⟩ := and_ex t5 g o5 LB.out.g
      obtain ⟨t7, o7, E7, z7⟩ := xor_ex t4 t6 o4 o6
      obtain ⟨t8, o8, E8, z8, u8⟩ := add_ex t3 t7
      obtain ⟨t9, o9, E9, z9, u9⟩ := add_ex t8 x
      obtain ⟨t10, o10, E10, z10, u10⟩ := add_ex t9 y
      clear u3 u8 u9 u10
      have one := Lib.hid (show (i + Sig1 e + ch e f g + consts.getD k 0 + W.getD k 0) % 4294967296 = t10 by
        have s1 : Sig1 e = t2 := by rw [E2.out, E1.out, D6.out, D11.out, D25.out]; rfl
        have s2 : ch e f g = t7 := by rw [E7.out, E4.out, E6.out, E5.out]; rfl
        have a1 := E3.out
        have a2 := E8.out
        have a3 := E9.out
        have a4 := E10.out
        rw [s1, s2, ← HX.out, ← HY.out]
        clear z3 z8 z9 z10
        omega)
      clear o1 o2 o3 o4 o5 o6 o7 o8 o9 o10 n6 n11 n25 E1 E2 E3 E4 E5 E6 E7 E8 E9 E10 D6 D11 D25 HX HY
      go_quiet ((go_at_call 63; first | (with_reducible exact Calls.quiet_of_same (R6.out _)) | (with_reducible exact Calls.quiet_of_same (R11.out _)) | (with_reducible exact Calls.quiet_of_same (R25.out _))))
      clear z1 z2 z3 z4 z5 z5' z6 z7 z8 z9 z10 R6 R11 R25 cK cW
      obtain ⟨q2, n2, D2, R2⟩ := rot_ex a 2 2 rfl LB.out.a (by omega) (by omega)
      obtain ⟨q13, n13, D13, R13⟩ := rot_ex a 13 13 rfl LB.out.a (by omega) (by omega)
      obtain ⟨q22, n22, D22, R22⟩ := rot_ex a 22 22 rfl LB.out.a (by omega) (by omega)
      obtain ⟨t11, o11, E11, z11⟩ := xor_ex q2 q13 n2 n13
      obtain ⟨t12, o12, E12, z12⟩ := xor_ex t11 q22 o11 n22
      obtain ⟨t13, o13, E13, z13⟩ := and_ex a b' LB.out.a LB.out.b
      obtain ⟨t14, o14, E14, z14⟩ := and_ex a c LB.out.a LB.out.c
      obtain ⟨t15, o15, E15, z15⟩ := xor_ex t13 t14 o13 o14
      obtain ⟨t16, o16, E16, z16⟩ := and_ex b' c LB.out.b LB.out.c
      obtain ⟨t17, o17, E17, z17⟩ := xor_ex t15 t16 o15 o16
      obtain ⟨t18, o18, E18, z18, z18'⟩ := add_ex t12 t17
      obtain ⟨t19, o19, E19, z19, z19'⟩ := add_ex t10 t18
      obtain ⟨t20, o20, E20, z20, z20'⟩ := add_ex d t10
      have HST := Lib.hid (show (⟨t19, a, b', c, t20, e, f, g⟩ : St) = rounds W (k + 1) ⟨h0, h1, h2, h3, h4, h5, h6, h7⟩ by
        have r : rounds W (k + 1) ⟨h0, h1, h2, h3, h4, h5, h6, h7⟩ = Hm.step (rounds W k ⟨h0, h1, h2, h3, h4, h5, h6, h7⟩) (consts.getD k 0) (W.getD k 0) := rfl
        rw [r, ← HS.out]
        have s3 : Sig0 a = t12 := by rw [E12.out, E11.out, D2.out, D13.out, D22.out]; rfl
        have s4 : maj a b' c = t17 := by rw [E17.out, E15.out, E13.out, E14.out, E16.out]; rfl
        have two : (Sig0 a + maj a b' c) % 4294967296 = t18 := by rw [s3, s4]; exact E18.out.symm
        show _ = (⟨((i + Sig1 e + ch e f g + consts.getD k 0 + W.getD k 0) % 4294967296 + (Sig0 a + maj a b' c) % 4294967296) % 4294967296, a, b', c, (d + (i + Sig1 e + ch e f g + consts.getD k 0 + W.getD k 0) % 4294967296) % 4294967296, e, f, g⟩ : St)
        rw [one.out, two, ← E19.out, ← E20.out])
      have OKS := Lib.hid (StOk.mk (s := ⟨t19, a, b', c, t20, e, f, g⟩) o19 LB.out.a LB.out.b LB.out.c o20 LB.out.e LB.out.f LB.out.g)
      clear o11 o12 o13 o14 o15 o16 o17 o18 o19 o20 n2 n13 n22 E11 E12 E13 E14 E15 E16 E17 E18 E19 E20 D2 D13 D22 one HS LB
      go_wp2_with ((go_at_call 63; first | (with_reducible refine (R2.out _).mono ?_) | (with_reducible refine (R13.out _).mono ?_) | (with_reducible refine (R22.out _).mono ?_)); rintro e' w' ⟨rfl, rfl⟩)
      go_roundw
      case rel =>
        exact ⟨k + 1, ⟨t19, a, b', c, t20, e, f, g⟩, by go_num, by omega, rfl, rfl, rfl, rfl, rfl, rfl, rfl, rfl, OKS.out, HST.out, ⟨HBR.out.os, HBR.out.tape, HBR.out.output, HBR.out.size, HBR.out.block⟩, HCR.out⟩
      case measure => simp [intOf]; omega
    · obtain rfl : k = 64 := by omega
      have HSH := Lib.hid (HH.out.later HBR.out)
      have HOB := Lib.hid (Only.of_below (B := B) HBR.out)
      clear hk hlt2
      obtain ⟨L, hL⟩ : ∃ L, L = St.list ⟨a, b', c, d, e, f, g, i⟩ := ⟨_, rfl⟩
      have HM := Lib.hid (show addK h L 8 = mix h b by rw [hL]; exact addK_mix h b _ (by rw [HS0.out, ← HW.out]; exact HS.out) HL.out)
      have HLL := Lib.hid hL
      have LB := Lib.hid (show StOk ⟨a, b', c, d, e, f, g, i⟩ from ⟨la, lb, lc, ld, le, lf, lg, li⟩)
      clear hL la lb lc ld le lf lg li m0 m1 m2 m3 m4 m5 m6 m7
      go_wp2_with fail
      go_loopw [14, 15, 130] (fun _ _ i wr => ∃ (k : Nat), i = .int .i64 (k : Int) ∧ k ≤ 8 ∧ SH wr B (addK h L k) b n ∧ Only B w wr) (fun _ _ i _ => 8 - (intOf i).toNat)
      case atStart => exact ⟨0, rfl, by omega, HSH.out.kept rfl, let z := HOB.out; ⟨z.os, z.tape, z.output, z.size, z.block⟩⟩
      case round =>
        clear HSH HOB
        obtain ⟨k, rfl, hk, hsr, hor⟩ := hrel
        have HSR := Lib.hid hsr
        have HOR := Lib.hid hor
        clear hsr hor
        by_cases hlt2 : k < 8
        · have hy := addK_at h L k k (Nat.le_refl _)
          have cw := HSR.out.words k hlt2
          have fw := HSR.out.free (1 + k)
          rw [hy] at cw
          obtain ⟨y, hy'⟩ : ∃ y, y = h.getD k 0 := ⟨_, rfl⟩
          rw [← hy'] at cw
          obtain ⟨x, hx⟩ : ∃ x, x = L.getD k 0 := ⟨_, rfl⟩
          have hn1 := HSR.out.setWord k ((y + x) % 4294967296) hlt2 (by omega) (((y : Int) + (x : Int)) % 4294967296) (by omega)
          have hn2 : (addK h L k).set k ((y + x) % 4294967296) = addK h L (k + 1) := by rw [hy', hx]; rfl
          rw [hn2] at hn1
          have HN := Lib.hid hn1
          have HX := Lib.hid hx
          have hno := HOR.out.set (1 + k) (.int .u32 (((y : Int) + (x : Int)) % 4294967296))
          have HNO := Lib.hid hno
          clear hy hy' hx hn1 hn2 hno
          have hat : (#[Value.int .u32 (a : Int), .int .u32 (b' : Int), .int .u32 (c : Int), .int .u32 (d : Int), .int .u32 (e : Int), .int .u32 (f : Int), .int .u32 (g : Int), .int .u32 (i : Int)] : Array Value)[k]? = some (.int .u32 (x : Int)) := by
            rw [HX.out, HLL.out]
            rcases (show k = 0 ∨ k = 1 ∨ k = 2 ∨ k = 3 ∨ k = 4 ∨ k = 5 ∨ k = 6 ∨ k = 7 by omega) with rfl | rfl | rfl | rfl | rfl | rfl | rfl | rfl <;> rfl
          have hidx := run_index8 _ k (x : Int) hlt2 hat
          clear hat HX
          go_wp2_with fail
          go_region
          all_goals
            go_wp2_with fail
            go_roundw
            case rel => exact ⟨k + 1, by go_num, by omega, HN.out.kept rfl, let z := HNO.out; ⟨z.os, z.tape, z.output, z.size, z.block⟩⟩
            case measure => simp [intOf]; omega
        · obtain rfl : k = 8 := by omega
          clear hk hlt2
          rw [HM.out] at HSR
          go_wp2_with fail
          refine bodyPost_end (results_none rfl _ _ _) rfl ?_
          exact ⟨rfl, HSR.out, HOR.out⟩
end Go.Proofs.YtiflieaemgamkaaDoor
