/- The contract of the document's own Sum of layer 3 over this translation. Condition: texts of at most a hundred thousand bytes. -/
import Derived.Test.YtiflieaemgamkaaDoorYHl
import Derived.StillTailTactics
namespace Go.Proofs.YtiflieaemgamkaaDoor
open Go.RowKit Hm

set_option maxRecDepth 200000 in
set_option maxHeartbeats 8000000 in
theorem rsum_any (s : ByteArray) (w : World) (hs : s.size ≤ 100000) :
    Calls Tryd.prog 23 #[.string s] w fun e w' => e = .returned (.string ⟨(Hm.sum s.data.toList).toArray⟩) ∧ Below w.heap.size w w' := by
  have HPD := Lib.hid (show ∀ W : World, _ from fun W => padded_any s W hs)
  obtain ⟨l, hl⟩ : ∃ l, l = s.data.toList := ⟨_, rfl⟩
  have hll : s.size = l.length := by rw [hl]; simp
  rw [← hl, hll] at HPD
  rw [← hl]
  have HN := Lib.hid (show l.length ≤ 100000 by omega)
  clear hl hll hs
  go_enter Tryd.func23, Tryd.ntmps23
  go_wp2_with fail
  obtain ⟨w0, hw0⟩ : ∃ w0, w0 = w.alloc (.cells #[.int .u32 1779033703, .int .u32 3144134277, .int .u32 1013904242, .int .u32 2773480762, .int .u32 1359893119, .int .u32 2600822924, .int .u32 528734635, .int .u32 1541459225] 69) := ⟨_, rfl⟩
  have HE0 := Lib.hid (show Eight w0 w.heap.size (St.of first) by
    rw [hw0]
    exact ⟨heap_alloc_new w _, by constructor <;> decide⟩)
  have HB0 := Lib.hid (show Below w.heap.size w w0 by rw [hw0]; exact (Below.refl _ w).alloc (Nat.le_refl _) _)
  rw [← hw0]
  clear hw0
  refine (HPD.out w0).mono ?_
  rintro e wa ⟨⟨P, rfl, hP⟩, hb⟩
  have HP := Lib.hid hP
  have HBa := Lib.hid (HB0.out.trans (hb.mono HB0.out.size))
  have HEa := Lib.hid (HE0.out.kept hb)
  clear hP hb HPD HB0 HE0
  go_wp2_with fail
  refine (constants_any wa).mono ?_
  rintro e w1 ⟨rfl, hk, hb⟩
  have HK := Lib.hid hk
  have HB1 := Lib.hid (HBa.out.trans (hb.mono HBa.out.size))
  have HE1 := Lib.hid (HEa.out.kept hb)
  have HKL := Lib.hid (show wa.heap.size < w1.heap.size from World.block_lt_of_cell? w1 _ (hk.at 0 (by omega)))
  obtain ⟨gc, hgc⟩ : ∃ gc, gc = wa.heap.size := ⟨_, rfl⟩
  rw [← hgc] at HK HKL ⊢
  clear hk hb HBa HEa hgc
  have hPl : P.data.toList.length = P.size := by simp
  obtain ⟨K, hK⟩ : ∃ K, P.size = 64 * K := by
    have h1 := tailOf_len l.length
    rw [HP.out, List.length_append] at hPl
    exact ⟨P.size / 64, by omega⟩
  have hPs : P.size ≤ 100072 := by
    have h1 := tailOf_size l.length
    have h2 := HN.out
    rw [HP.out, List.length_append] at hPl
    omega
  have hPi : (P.size : Int) ≤ 100072 := by omega
  have HPL := Lib.hid hPl
  have HKK := Lib.hid hK
  clear hPl hK
  go_wp2_with fail
  go_loopw [3, 6, 7, 8, 9, 10, 11, 12, 13, 14, 15, 16, 17, 18, 19, 20] (fun hv av _ _ _ _ _ _ _ _ _ _ _ _ _ _ wr => ∃ (a g : Nat) (st : St), av = .int .i64 (a : Int) ∧ (∃ k, a = 64 * k ∧ k ≤ K ∧ st.list = blocks k first P.data.toList) ∧ hv = .slice (some ⟨g, 0, none⟩) 8 8 ∧ Eight wr g st ∧ Below w1.heap.size w1 wr) (fun _ av _ _ _ _ _ _ _ _ _ _ _ _ _ _ _ => P.size - (intOf av).toNat)
  case atStart => exact ⟨0, w.heap.size, St.of first, rfl, ⟨0, rfl, Nat.zero_le _, rfl⟩, rfl, HE1.out, Below.refl _ _⟩
  case round =>
    obtain ⟨a, g, st, rfl, ⟨k, hak, hkK, hst⟩, rfl, hei, hb⟩ := hrel
    have HST := Lib.hid hst
    have HEI := Lib.hid hei
    have HB := Lib.hid hb
    have HAK := Lib.hid hak
    clear hst hei hb
    by_cases hlt : k < K
    · have halt : a < P.size := by rw [HKK.out, hak]; omega
      have ha64 : a + 64 ≤ P.size := by rw [HKK.out, hak]; omega
      obtain ⟨Bk, hBk⟩ : ∃ Bk, Bk = P.extract a (a + 64) := ⟨_, rfl⟩
      have hcut := run_cut P a (a : Int) ((a : Int) + 64) rfl rfl ha64
      rw [← hBk] at hcut
      have HBL := Lib.hid (show Bk.data.toList = (P.data.toList.drop a).take 64 by rw [hBk]; exact cut_list P a)
      have hBz : Bk.size = 64 := by rw [hBk, ByteArray.size_extract]; omega
      have HSC := Lib.hid (schedule_any Bk wr hBz)
      have HH2 := Lib.hid (show blocks (k + 1) first P.data.toList = mix st.list Bk.data.toList by rw [blocks_succ, HBL.out, ← HST.out, HAK.out])
      have HKL2 := Lib.hid (show k + 1 ≤ K from hlt)
      clear hBk hBz hak hkK HBL HST ha64 hlt
      go_wp2_with fail
      refine HSC.out.mono ?_
      rintro e w2 ⟨⟨v, rfl, hown⟩, hb⟩
      have HB2 := Lib.hid (HB.out.trans (hb.mono HB.out.size))
      have HE2 := Lib.hid (HEI.out.kept hb)
      obtain ⟨Ws, hWs⟩ : ∃ Ws, Ws = sched Bk.data.toList := ⟨_, rfl⟩
      rw [← hWs] at hown
      have hWl : Ws.length = 64 := by rw [hWs]; exact sched_len _
      obtain ⟨gw, capw, rfl, _, _, _, hcw⟩ := hown.cellAt (by rw [List.length_map]; omega)
      rw [List.length_map, hWl]
      have HCW := Lib.hid (show ∀ j, j < 64 → w2.cell? ⟨gw, j, none⟩ = some (.int .u32 (Ws.getD j 0 : Int)) from fun j hj => by
        rw [hcw j (by rw [List.length_map]; omega)]
        simp [u32v, List.getD, show j < Ws.length by omega])
      have HWS := Lib.hid hWs
      clear hown hb hcw hWl hWs HSC HB HEI hcut
      obtain ⟨c0, c1, c2, c3, c4, c5, c6, c7⟩ := HE2.out.cells
      go_wp2_with fail
      go_quiet (fail)
      have HB3 := Lib.hid (show Below w1.heap.size w1 (w2.drewN nq) from ⟨HB2.out.os, HB2.out.tape, HB2.out.output, HB2.out.size, HB2.out.block⟩)
      have HE3 := Lib.hid (show Eight (w2.drewN nq) g st from ⟨HE2.out.blk, HE2.out.ok⟩)
      have HCW3 := Lib.hid (show ∀ j, j < 64 → (w2.drewN nq).cell? ⟨gw, j, none⟩ = some (.int .u32 (Ws.getD j 0 : Int)) from HCW.out)
      obtain ⟨w3, hw3⟩ : ∃ w3, w3 = w2.drewN nq := ⟨_, rfl⟩
      rw [← hw3] at HB3 HE3 HCW3 ⊢
      clear hw3 c0 c1 c2 c3 c4 c5 c6 c7 HB2 HE2 HCW
      have HOK := Lib.hid HE3.out.ok
      go_wp2_with fail
      go_loopw [8, 9, 10, 11, 12, 13, 14, 15, 16, 17, 18, 19, 20] (fun va vb vc vd ve vf vg vh i _ _ _ _ wq => ∃ (m : Nat) (u : St), i = .int .i64 (m : Int) ∧ m ≤ 64 ∧ va = .int .u32 (u.a : Int) ∧ vb = .int .u32 (u.b : Int) ∧ vc = .int .u32 (u.c : Int) ∧ vd = .int .u32 (u.d : Int) ∧ ve = .int .u32 (u.e : Int) ∧ vf = .int .u32 (u.f : Int) ∧ vg = .int .u32 (u.g : Int) ∧ vh = .int .u32 (u.h : Int) ∧ StOk u ∧ Hid (u = rounds Ws m st) ∧ Below w3.heap.size w3 wq) (fun _ _ _ _ _ _ _ _ i _ _ _ _ _ => 64 - (intOf i).toNat)
      case atStart => exact ⟨0, st, rfl, by omega, rfl, rfl, rfl, rfl, rfl, rfl, rfl, rfl, HOK.out, rfl, Below.refl _ _⟩
      case round =>
        obtain ⟨m, ⟨a', b', c', d', e', f', g', h'⟩, rfl, hm, rfl, rfl, rfl, rfl, rfl, rfl, rfl, rfl, hok, HU, hbq⟩ := hrel
        have LB := Lib.hid hok
        have HBQ := Lib.hid hbq
        clear hok hbq
        have HB4 := Lib.hid (HB3.out.trans (HBQ.out.mono HB3.out.size))
        dsimp only
        by_cases hlm : m < 64
        · have cK := (HB4.out.cell (p := ⟨gc, m, none⟩) HKL.out).trans (HK.out.at m hlm)
          have cW := (HBQ.out.cell (p := ⟨gw, m, none⟩) (World.block_lt_of_cell? w3 _ (HCW3.out m hlm))).trans (HCW3.out m hlm)
          obtain ⟨x, hx⟩ : ∃ x, x = consts.getD m 0 := ⟨_, rfl⟩
          obtain ⟨y, hy⟩ : ∃ y, y = Ws.getD m 0 := ⟨_, rfl⟩
          rw [← hx] at cK
          rw [← hy] at cW
          have HX := Lib.hid hx
          have HY := Lib.hid hy
          clear hx hy
          have le := LB.out.e
          simp only at le
          obtain ⟨n5, hn5, hn6⟩ : ∃ n5 : Nat, n5 = 4294967295 - e' ∧ 4294967295 - (e' : Int) = (n5 : Int) := ⟨_, rfl, by omega⟩
          have wn5 : IntKind.u32.wrap (4294967295 - (e' : Int)) = (n5 : Int) := by rw [IntKind.wrap_u32]; omega
          have hn7 : n5 < 4294967296 := by omega
          obtain ⟨t4, o4, E4, z4⟩ := and_ex e' f' LB.out.e LB.out.f
          obtain ⟨t6, o6, E6, z6⟩ := and_ex n5 g' hn7 LB.out.g
          obtain ⟨t7, o7, E7, z7⟩ := or_ex t4 t6 o4 o6
          obtain ⟨t13, o13, E13, z13⟩ := and_ex a' b' LB.out.a LB.out.b
          obtain ⟨t14, o14, E14, z14⟩ := and_ex a' c' LB.out.a LB.out.c
          obtain ⟨t15, o15, E15, z15⟩ := or_ex t13 t14 o13 o14
          obtain ⟨t16, o16, E16, z16⟩ := and_ex b' c' LB.out.b LB.out.c
          obtain ⟨t17, o17, E17, z17⟩ := or_ex t15 t16 o15 o16
          have HCH := Lib.hid (show ch e' f' g' = t7 by rw [E7.out, E4.out, E6.out, hn5, or_ch e' f' g' LB.out.e])
          have HMJ := Lib.hid (show maj a' b' c' = t17 by rw [E17.out, E15.out, E13.out, E14.out, E16.out, or_maj])
          obtain ⟨q6, n6, D6, R6⟩ := rturn_ex e' 6 6 rfl LB.out.e (by omega) (by omega)
          obtain ⟨q11, n11, D11, R11⟩ := rturn_ex e' 11 11 rfl LB.out.e (by omega) (by omega)
          obtain ⟨q25, n25, D25, R25⟩ := rturn_ex e' 25 25 rfl LB.out.e (by omega) (by omega)
          obtain ⟨t1, o1, E1, z1⟩ := xor_ex q6 q11 n6 n11
          obtain ⟨t2, o2, E2, z2⟩ := xor_ex t1 q25 o1 n25
          obtain ⟨t3, o3, E3, z3, u3⟩ := add_ex h' t2
          obtain ⟨t8, o8, E8, z8, u8⟩ := add_ex t3 t7
          obtain ⟨t9, o9, E9, z9, u9⟩ := add_ex t8 x
          obtain ⟨t10, o10, E10, z10, u10⟩ := add_ex t9 y
          clear u3 u8 u9 u10
          have one := Lib.hid (show (h' + Sig1 e' + ch e' f' g' + consts.getD m 0 + Ws.getD m 0) % 4294967296 = t10 by
            have s1 : Sig1 e' = t2 := by rw [E2.out, E1.out, D6.out, D11.out, D25.out]; rfl
            have a1 := E3.out
            have a2 := E8.out
            have a3 := E9.out
            have a4 := E10.out
            rw [s1, HCH.out, ← HX.out, ← HY.out]
            clear z3 z8 z9 z10
            omega)
          clear o1 o2 o3 o4 o6 o7 o8 o9 o10 n6 n11 n25 E1 E2 E3 E4 E6 E7 E8 E9 E10 D6 D11 D25 HX HY hn5 hn7 le o13 o14 o15 o16 E13 E14 E15 E16 E17 HCH
          go_wp2_with fail
          go_quiet ((go_at_call 41; first | (with_reducible exact Calls.quiet_of_same (R6.out _)) | (with_reducible exact Calls.quiet_of_same (R11.out _)) | (with_reducible exact Calls.quiet_of_same (R25.out _))))
          clear z1 z2 z3 z4 z6 z7 z8 z9 z10 z13 z14 z15 z16 z17 hn6 wn5 R6 R11 R25 cK cW
          have HBn := Lib.hid (show Below w3.heap.size w3 (wr.drewN nq) from ⟨HBQ.out.os, HBQ.out.tape, HBQ.out.output, HBQ.out.size, HBQ.out.block⟩)
          obtain ⟨w4, hw4⟩ : ∃ w4, w4 = wr.drewN nq := ⟨_, rfl⟩
          rw [← hw4] at HBn ⊢
          clear hw4
          obtain ⟨q2, n2, D2, R2⟩ := rturn_ex a' 2 2 rfl LB.out.a (by omega) (by omega)
          obtain ⟨q13, n13, D13, R13⟩ := rturn_ex a' 13 13 rfl LB.out.a (by omega) (by omega)
          obtain ⟨q22, n22, D22, R22⟩ := rturn_ex a' 22 22 rfl LB.out.a (by omega) (by omega)
          obtain ⟨t11, o11, E11, z11⟩ := xor_ex q2 q13 n2 n13
          obtain ⟨t12, o12, E12, z12⟩ := xor_ex t11 q22 o11 n22
          obtain ⟨t18, o18, E18, z18, z18'⟩ := add_ex t12 t17
          obtain ⟨t19, o19, E19, z19, z19'⟩ := add_ex t10 t18
          obtain ⟨t20, o20, E20, z20, z20'⟩ := add_ex d' t10
          have HST := Lib.hid (show (⟨t19, a', b', c', t20, e', f', g'⟩ : St) = rounds Ws (m + 1) st by
            have r : rounds Ws (m + 1) st = Hm.step (rounds Ws m st) (consts.getD m 0) (Ws.getD m 0) := rfl
            rw [r, ← HU.out]
            have s3 : Sig0 a' = t12 := by rw [E12.out, E11.out, D2.out, D13.out, D22.out]; rfl
            have two : (Sig0 a' + maj a' b' c') % 4294967296 = t18 := by rw [s3, HMJ.out]; exact E18.out.symm
            show _ = (⟨((h' + Sig1 e' + ch e' f' g' + consts.getD m 0 + Ws.getD m 0) % 4294967296 + (Sig0 a' + maj a' b' c') % 4294967296) % 4294967296, a', b', c', (d' + (h' + Sig1 e' + ch e' f' g' + consts.getD m 0 + Ws.getD m 0) % 4294967296) % 4294967296, e', f', g'⟩ : St)
            rw [one.out, two, ← E19.out, ← E20.out])
          have OKS := Lib.hid (StOk.mk (s := ⟨t19, a', b', c', t20, e', f', g'⟩) o19 LB.out.a LB.out.b LB.out.c o20 LB.out.e LB.out.f LB.out.g)
          clear o11 o12 o17 o18 o19 o20 n2 n13 n22 E11 E12 E18 E19 E20 D2 D13 D22 one HU LB HMJ
          go_wp2_with ((go_at_call 41; first | (with_reducible refine (R2.out _).mono ?_) | (with_reducible refine (R13.out _).mono ?_) | (with_reducible refine (R22.out _).mono ?_)); rintro e9 w9 ⟨rfl, rfl⟩)
          go_roundw
          case rel => exact ⟨m + 1, ⟨t19, a', b', c', t20, e', f', g'⟩, by go_num, by omega, rfl, rfl, rfl, rfl, rfl, rfl, rfl, rfl, OKS.out, HST.out, HBn.out⟩
          case measure => simp [intOf]; omega
        · obtain rfl : m = 64 := by omega
          have HEQ := Lib.hid (HE3.out.kept HBQ.out)
          obtain ⟨c0, c1, c2, c3, c4, c5, c6, c7⟩ := HEQ.out.cells
          obtain ⟨y0, o0, E0, z0, u0⟩ := add_ex st.a a'
          obtain ⟨y1, o1, E1, z1, u1⟩ := add_ex st.b b'
          obtain ⟨y2, o2, E2, z2, u2⟩ := add_ex st.c c'
          obtain ⟨y3, o3, E3, z3, u3⟩ := add_ex st.d d'
          obtain ⟨y4, o4, E4, z4, u4⟩ := add_ex st.e e'
          obtain ⟨y5, o5, E5, z5, u5⟩ := add_ex st.f f'
          obtain ⟨y6, o6, E6, z6, u6⟩ := add_ex st.g g'
          obtain ⟨y7, o7, E7, z7, u7⟩ := add_ex st.h h'
          have HML := Lib.hid (show St.list ⟨y0, y1, y2, y3, y4, y5, y6, y7⟩ = blocks (k + 1) first P.data.toList by
            rw [HH2.out, mix_list st ⟨a', b', c', d', e', f', g', h'⟩ Bk.data.toList (by rw [← HWS.out]; exact HU.out)]
            show [y0, y1, y2, y3, y4, y5, y6, y7] = _
            rw [E0.out, E1.out, E2.out, E3.out, E4.out, E5.out, E6.out, E7.out])
          have OKY := Lib.hid (StOk.mk (s := ⟨y0, y1, y2, y3, y4, y5, y6, y7⟩) o0 o1 o2 o3 o4 o5 o6 o7)
          clear o0 o1 o2 o3 o4 o5 o6 o7 E0 E1 E2 E3 E4 E5 E6 E7 HU LB
          have HBf := Lib.hid (show Below w1.heap.size w1 wr.drew from ⟨HB4.out.os, HB4.out.tape, HB4.out.output, HB4.out.size, HB4.out.block⟩)
          clear HEQ HB4 HBQ HCW3 HE3 HB3 HOK HH2 HWS
          go_wp2_with fail
          go_still_tail 40, (by kernel_rfl)
          change wpList _ _ _ _ _ wr.drew
          clear c0 c1 c2 c3 c4 c5 c6 c7 z0 z1 z2 z3 z4 z5 z6 z7 u0 u1 u2 u3 u4 u5 u6 u7
          generalize wr.drew = w5 at *
          go_wp2_with fail
          go_roundw
          case rel => exact ⟨a + 64, w5.heap.size, ⟨y0, y1, y2, y3, y4, y5, y6, y7⟩, by go_num, ⟨k + 1, by rw [HAK.out]; omega, HKL2.out, HML.out⟩, rfl, ⟨heap_alloc_new _ _, OKY.out⟩, HBf.out.alloc HBf.out.size _⟩
          case measure => simp [intOf]; have := HAK.out; have := HKK.out; have := HKL2.out; omega
    · have hkK2 : k = K := by omega
      have HSUM := Lib.hid (show bytesOf st.list = Hm.sum l by
        show _ = bytesOf (blocks ((l ++ tailOf l.length).length / 64) first (l ++ tailOf l.length))
        rw [← HP.out, HPL.out, HKK.out, HST.out, hkK2, show 64 * K / 64 = K by omega])
      have haP : a = P.size := by rw [hak, HKK.out, hkK2]
      have hda : decide ((a : Int) < (P.size : Int)) = false := decide_eq_false (by omega)
      have hda2 : decide (a < P.size) = false := decide_eq_false (by omega)
      clear hkK2 haP hak hkK hlt
      go_wp2_with fail
      go_loopw [21, 22] (fun o i wq => ∃ (m : Nat) (S : ByteArray), i = .int .i64 (m : Int) ∧ m ≤ 8 ∧ o = .string S ∧ S.data.toList = bytesOf (st.list.take m) ∧ S.size = 4 * m ∧ Eight wq g st ∧ Below w.heap.size w wq) (fun _ i _ => 8 - (intOf i).toNat)
      case atStart => exact ⟨0, ⟨#[]⟩, rfl, by omega, rfl, rfl, rfl, HEI.out, HB1.out.trans (HB.out.mono HB1.out.size)⟩
      case round =>
        clear HB HEI
        obtain ⟨m, S, rfl, hm, rfl, hS, hsz, hei, hbq⟩ := hrel
        have HS := Lib.hid hS
        have HEI := Lib.hid hei
        have HBQ := Lib.hid hbq
        have HSZ := Lib.hid hsz
        have hsl : S.size ≤ 32 := by omega
        clear hS hei hbq hsz
        by_cases hlm : m < 8
        · obtain ⟨x, hx, hx2, cx⟩ := HEI.out.at m hlm
          have hxi : (x : Int) ≤ 4294967295 := by omega
          obtain ⟨b0, hb0⟩ : ∃ b, b = UInt8.ofNat (x / 2 ^ 24 % 256) := ⟨_, rfl⟩
          obtain ⟨b1, hb1⟩ : ∃ b, b = UInt8.ofNat (x / 2 ^ 16 % 256) := ⟨_, rfl⟩
          obtain ⟨b2, hb2⟩ : ∃ b, b = UInt8.ofNat (x / 2 ^ 8 % 256) := ⟨_, rfl⟩
          obtain ⟨b3, hb3⟩ : ∃ b, b = UInt8.ofNat (x % 256) := ⟨_, rfl⟩
          have hcv : (convert 89 9 (.slice (some ⟨wr.heap.size, 0, none⟩) 4 4)).run Tryd.prog (wr.alloc (.cells #[.int .u8 ((x : Int) / 16777216), .int .u8 ((x : Int) / 65536 % 256), .int .u8 ((x : Int) / 256 % 256), .int .u8 ((x : Int) % 256)] 5)).drew = .ok (.string ⟨#[b0, b1, b2, b3]⟩) (wr.alloc (.cells #[.int .u8 ((x : Int) / 16777216), .int .u8 ((x : Int) / 65536 % 256), .int .u8 ((x : Int) / 256 % 256), .int .u8 ((x : Int) % 256)] 5)).drew := conv_four wr.drew ((x : Int) / 16777216) ((x : Int) / 65536 % 256) ((x : Int) / 256 % 256) ((x : Int) % 256) b0 b1 b2 b3
            (by rw [hb0, byte_of]; omega) (by rw [hb1, byte_of]; omega) (by rw [hb2, byte_of]; omega) (by rw [hb3, byte_of])
          have HS4 := Lib.hid (show (S ++ ⟨#[b0, b1, b2, b3]⟩).data.toList = bytesOf (st.list.take (m + 1)) by
            have e := bytes_snoc st.list m (show m < st.list.length from hlm)
            have hx' : st.list[m]'(show m < st.list.length from hlm) = x := hx
            rw [hx'] at e
            rw [e, ← hb0, ← hb1, ← hb2, ← hb3]
            exact str_four S _ b0 b1 b2 b3 HS.out)
          have HZ4 := Lib.hid (show (S ++ ⟨#[b0, b1, b2, b3]⟩ : ByteArray).size = 4 * (m + 1) by rw [ByteArray.size_append, HSZ.out]; rfl)
          have HBf := Lib.hid (show Below w.heap.size w wr.drew from ⟨HBQ.out.os, HBQ.out.tape, HBQ.out.output, HBQ.out.size, HBQ.out.block⟩)
          have HEf := Lib.hid (show Eight wr.drew g st from ⟨HEI.out.blk, HEI.out.ok⟩)
          clear hx hb0 hb1 hb2 hb3
          go_wp2_with fail
          go_region
          all_goals
            go_wp2_with fail
            go_roundw
            case rel => exact ⟨m + 1, _, by go_num, by omega, rfl, HS4.out, HZ4.out, HEI.out.kept (((Below.refl _ wr).alloc (Nat.le_refl _) _).drew), (HBQ.out.alloc HBQ.out.size _).drew⟩
            case measure => simp [intOf]; omega
        · obtain rfl : m = 8 := by omega
          have HF := Lib.hid (show S = ⟨(Hm.sum l).toArray⟩ by
            have h := HS.out
            rw [List.take_of_length_le (by exact Nat.le_refl 8), HSUM.out] at h
            apply ByteArray.ext
            rw [← h])
          go_wp2_with fail
          go_ret
          exact ⟨congrArg (fun z => Ending.returned (.string z)) HF.out, HBQ.out⟩
end Go.Proofs.YtiflieaemgamkaaDoor
