/- The contract of the document's own schedule of layer 3 over this translation. Condition: a block of 64 bytes. -/
import Derived.Test.YtiflieaemgamkaaDoorYHo
import Derived.Test.YtiflieaemgamkaaDoorHs
import Derived.Test.YtiflieaemgamkaaDoorHk
import Derived.OwnWalk
namespace Go.Proofs.YtiflieaemgamkaaDoor
open Go.RowKit Hm

theorem run_at (b : ByteArray) (z : Int) (j : Nat) (hz : z = (j : Int)) (hj : j < b.size) (W : World) : (Instr.index 9 (.string b) (.int .i64 z)).run Tryd.prog W = .ok (.int .u8 ((b.data.toList.getD j 0).toNat : Int)) W := by
  subst hz
  rw [run_index_string W _ _ _ _ Tryd.underlying9]
  have hb : j < b.data.toList.length := by simpa using hj
  have e : b.data.toList.getD j 0 = b[j] := by
    rw [List.getD_eq_getElem?_getD, List.getElem?_eq_getElem hb]
    rfl
  rw [e]
  first
    | (rw [dif_pos ⟨by omega, by omega⟩]; simp)
    | (simp; omega)
/-- a word on its way -/
def wpt (b : List UInt8) (i : Nat) : Nat → Nat
  | 0 => 0
  | k + 1 => wpt b i k * 256 + (b.getD (4 * i + k) 0).toNat
theorem wpt_four (b : List UInt8) (i : Nat) : wpt b i 4 = word b i := by
  unfold word
  simp [wpt]
theorem wpt_lt (b : List UInt8) (i : Nat) : ∀ k, wpt b i k < 256 ^ k
  | 0 => by simp [wpt]
  | k + 1 => by
    have h := wpt_lt b i k
    have h2 : (b.getD (4 * i + k) 0).toNat < 256 := (b.getD (4 * i + k) 0).toNat_lt
    rw [wpt, Nat.pow_succ]
    omega
theorem info_u4 : (Tryd.prog.info? 69).map (fun i => (i.zero, i.size, i.bytes)) = some (some (.int .u32 0), 1, 4) := by kernel_rfl
theorem snoc_bd (L : List Nat) (y : Nat) (h : ∀ j, L.getD j 0 < 4294967296) (j : Nat) : (L ++ [y % 4294967296]).getD j 0 < 4294967296 := by
  have hy : y % 4294967296 < 4294967296 := Nat.mod_lt _ (by omega)
  generalize y % 4294967296 = z at hy ⊢
  rw [List.getD_eq_getElem?_getD]
  rcases Nat.lt_trichotomy j L.length with h2 | h2 | h2
  · rw [List.getElem?_append_left h2, ← List.getD_eq_getElem?_getD]; exact h j
  · subst h2; rw [List.getElem?_append_right (Nat.le_refl _), Nat.sub_self]; exact hy
  · rw [List.getElem?_eq_none (by simp; omega)]; simp
theorem more_bd (m : Nat) (w : List Nat) (hw : ∀ j, w.getD j 0 < 4294967296) : ∀ j, (more m w).getD j 0 < 4294967296 := by
  induction m with
  | zero => exact hw
  | succ m ih => intro j; rw [more_succ]; exact snoc_bd _ _ ih j
theorem base_bd (b : List UInt8) (j : Nat) : ((List.range 16).map (word b)).getD j 0 < 4294967296 := by
  rw [List.getD_eq_getElem?_getD, List.getElem?_map]
  rcases Nat.lt_or_ge j 16 with h | h
  · rw [List.getElem?_range h]
    have h4 := wpt_lt b j 4
    rw [wpt_four] at h4
    simpa using h4
  · rw [List.getElem?_eq_none (by simpa using h)]; simp
set_option maxRecDepth 100000 in
set_option maxHeartbeats 2000000 in
theorem schedule_any (b : ByteArray) (w : World) (hb : b.size = 64) :
    Calls Tryd.prog 40 #[.string b] w fun e w' => (∃ v, e = .returned v ∧ Own 69 w' w.heap.size v ((sched b.data.toList).map u32v)) ∧ Below w.heap.size w w' := by
  have HBZ := Lib.hid hb
  clear hb
  obtain ⟨l, hl⟩ : ∃ l, l = b.data.toList := ⟨_, rfl⟩
  have HL := Lib.hid hl
  rw [← hl]
  clear hl
  go_enter Tryd.func40, Tryd.ntmps40
  go_wp2_with fail
  go_loopw [3, 4, 5, 6] (fun v i _ _ wr => ∃ (k : Nat), i = .int .i64 (k : Int) ∧ k ≤ 16 ∧ Own 69 wr w.heap.size v (((List.range k).map (word l)).map u32v) ∧ Below w.heap.size w wr) (fun _ i _ _ _ => 16 - (intOf i).toNat)
  case atStart => exact ⟨0, rfl, by omega, Own.nil _ _ _, Below.refl _ _⟩
  case round =>
    obtain ⟨i, rfl, hi, ho, hb⟩ := hrel
    have HO := Lib.hid ho
    have HB := Lib.hid hb
    clear ho hb
    by_cases hlt : i < 16
    · go_wp2_with fail
      go_loop [5, 6] (fun x k => ∃ (m : Nat), k = .int .i64 (m : Int) ∧ m ≤ 4 ∧ x = .int .u32 (wpt l i m : Int)) (fun _ k => 4 - (intOf k).toNat)
      case atStart => exact ⟨0, rfl, by omega, rfl⟩
      case round =>
        obtain ⟨m, rfl, hm, rfl⟩ := hrel
        by_cases hlm : m < 4
        · have hx := wpt_lt l i m
          have hx2 : wpt l i m ≤ 16777215 := by
            have : 256 ^ m ≤ 256 ^ 3 := Nat.pow_le_pow_right (by omega) (by omega)
            omega
          obtain ⟨c, hc⟩ : ∃ c, c = (l.getD (4 * i + m) 0).toNat := ⟨_, rfl⟩
          have hc2 : c < 256 := by rw [hc]; exact (l.getD (4 * i + m) 0).toNat_lt
          have hat := run_at b (4 * (i : Int) + (m : Int)) (4 * i + m) (by omega) (by rw [HBZ.out]; omega)
          rw [← HL.out, ← hc] at hat
          obtain ⟨x, hxx⟩ : ∃ x, x = wpt l i m := ⟨_, rfl⟩
          have HX := Lib.hid (show wpt l i (m + 1) = x * 256 + c by rw [hxx, hc]; rfl)
          rw [← hxx] at hx2 ⊢
          have hx3 : (x : Int) ≤ 16777215 := by omega
          have hc3 : (c : Int) ≤ 255 := by omega
          clear hx hc hxx
          go_wp2_with fail
          go_round
          case rel => exact ⟨m + 1, by go_num, by omega, by rw [HX.out]; first | rfl | go_num⟩
          case measure => simp [intOf]; omega
        · obtain rfl : m = 4 := by omega
          have hx := wpt_lt l i 4
          rw [wpt_four] at hx ⊢
          obtain ⟨x, hxx⟩ : ∃ x, x = word l i := ⟨_, rfl⟩
          have HX := Lib.hid (show ((List.range (i + 1)).map (word l)).map u32v = ((List.range i).map (word l)).map u32v ++ [.int .u32 (x : Int)] by
            rw [List.range_succ, List.map_append, List.map_append, hxx]
            rfl)
          have HLEN := Lib.hid (show (((List.range i).map (word l)).map u32v).length = i by simp)
          rw [← hxx] at hx ⊢
          clear hxx
          obtain ⟨W, hW⟩ : ∃ W, W = ((List.range i).map (word l)).map u32v := ⟨_, rfl⟩
          rw [← hW] at HO HX HLEN
          clear hW hx
          go_wp2_with (at_builtin; refine wpList_appV rfl (.tmp 28) (.tmp 30) 84 69 (.int .u32 0) 4 rfl Tryd.underlying84 info_u4 rfl (by omega) w.heap.size w (HB.out.alloc HB.out.size _) ?c1 _ W rfl (HO.out.alloc _) ⟨wr.heap.size, 0, none⟩ 1 1 [.int .u32 (x : Int)] rfl rfl (Lay.new wr _ _) ?c2 ?c3 ?_)
          case c1 => have := HB.out.size; simp; omega
          case c2 => first | rfl | (intro u hu; simp at hu; subst hu; rfl)
          case c3 => have := HLEN.out; first | omega | (simp; omega)
          intro v2 w2 HO2 HB2 HZ2
          go_wp2_with fail
          go_roundw
          case rel => exact ⟨i + 1, by go_num, by omega, by rw [HX.out]; exact HO2.out, HB2.out⟩
          case measure => simp [intOf]; omega
    · obtain rfl : i = 16 := by omega
      clear hi hlt
      obtain ⟨base, hbase⟩ : ∃ base, base = (List.range 16).map (word l) := ⟨_, rfl⟩
      have HBS := Lib.hid hbase
      rw [← hbase] at HO
      have hbl : base.length = 16 := by rw [hbase]; simp
      have HBLE := Lib.hid hbl
      have HMA := Lib.hid (show ∀ m j, j < 16 + m → (more m base).getD j 0 < 4294967296 from fun m j hj => by
        rw [hbase]
        exact more_bd m _ (base_bd l) j)
      clear hbase hbl
      go_wp2_with fail
      go_loopw [3, 7, 8, 9] (fun v i _ _ wr => ∃ (t : Nat), i = .int .i64 (t : Int) ∧ 16 ≤ t ∧ t ≤ 64 ∧ Own 69 wr w.heap.size v ((more (t - 16) base).map u32v) ∧ Below w.heap.size w wr) (fun _ i _ _ _ => 64 - (intOf i).toNat)
      case atStart => exact ⟨16, rfl, by omega, by omega, HO.out, HB.out⟩
      case round =>
        clear HO HB
        obtain ⟨t, rfl, ht1, ht2, ho, hb⟩ := hrel
        have HB := Lib.hid hb
        clear hb
        obtain ⟨W, hW⟩ : ∃ W, W = more (t - 16) base := ⟨_, rfl⟩
        have hWl : W.length = t := by rw [hW, more_len, HBLE.out]; omega
        rw [← hW] at ho
        have HO := Lib.hid ho
        by_cases hlt : t < 64
        · obtain ⟨g, cap, rfl, hg1, hg2, hg3, hcell⟩ := ho.cellAt (by rw [List.length_map]; omega)
          rw [List.length_map, hWl] at hg2 ⊢
          have hcw : ∀ j, j < t → wr.cell? ⟨g, j, none⟩ = some (.int .u32 (W.getD j 0 : Int)) := fun j hj => by
            rw [hcell j (by rw [List.length_map]; omega)]
            simp [u32v, List.getD, show j < W.length by omega]
          have hwl : ∀ j, j < t → W.getD j 0 < 4294967296 := fun j hj => by rw [hW]; exact HMA.out _ j (by omega)
          obtain ⟨p15, q15⟩ : ∃ p : Nat, (t : Int) - 15 = (p : Int) := ⟨t - 15, by omega⟩
          obtain ⟨p2, q2⟩ : ∃ p : Nat, (t : Int) - 2 = (p : Int) := ⟨t - 2, by omega⟩
          obtain ⟨p7, q7⟩ : ∃ p : Nat, (t : Int) - 7 = (p : Int) := ⟨t - 7, by omega⟩
          obtain ⟨p16, q16⟩ : ∃ p : Nat, (t : Int) - 16 = (p : Int) := ⟨t - 16, by omega⟩
          have c15 := hcw p15 (by omega)
          have c2 := hcw p2 (by omega)
          have c7 := hcw p7 (by omega)
          have c16 := hcw p16 (by omega)
          have l15 := hwl p15 (by omega)
          have l2 := hwl p2 (by omega)
          obtain ⟨x15, e15⟩ : ∃ x, x = W.getD p15 0 := ⟨_, rfl⟩
          obtain ⟨x2, e2⟩ : ∃ x, x = W.getD p2 0 := ⟨_, rfl⟩
          obtain ⟨x7, e7⟩ : ∃ x, x = W.getD p7 0 := ⟨_, rfl⟩
          obtain ⟨x16, e16⟩ : ∃ x, x = W.getD p16 0 := ⟨_, rfl⟩
          rw [← e15] at c15 l15
          rw [← e2] at c2 l2
          rw [← e7] at c7
          rw [← e16] at c16
          obtain ⟨a7, n7, D7, R7⟩ := rturn_ex x15 7 7 rfl l15 (by omega) (by omega)
          obtain ⟨a18, n18, D18, R18⟩ := rturn_ex x15 18 18 rfl l15 (by omega) (by omega)
          obtain ⟨t1, o1, E1, z1⟩ := xor_ex a7 a18 n7 n18
          obtain ⟨d3, o3, E3, z3⟩ := div_ex x15 3 8 (by decide) l15
          obtain ⟨t2, o2, E2, z2⟩ := xor_ex t1 d3 o1 o3
          obtain ⟨a17, n17, D17, R17⟩ := rturn_ex x2 17 17 rfl l2 (by omega) (by omega)
          obtain ⟨a19, n19, D19, R19⟩ := rturn_ex x2 19 19 rfl l2 (by omega) (by omega)
          obtain ⟨t4, o4, E4, z4⟩ := xor_ex a17 a19 n17 n19
          obtain ⟨d10, o10, E10, z10⟩ := div_ex x2 10 1024 (by decide) l2
          obtain ⟨t5, o5, E5, z5⟩ := xor_ex t4 d10 o4 o10
          obtain ⟨t6, o6, E6, z6, z6'⟩ := add_ex t5 x7
          obtain ⟨t7, o7, E7, z7, z7'⟩ := add_ex t6 t2
          obtain ⟨t8, o8, E8, z8, z8'⟩ := add_ex t7 x16
          have HN := Lib.hid (show more (t + 1 - 16) base = W ++ [t8] by
            rw [show t + 1 - 16 = (t - 16) + 1 by omega, more_succ, ← hW, hWl]
            have h15 : t - 15 = p15 := by omega
            have h2 : t - 2 = p2 := by omega
            have h7 : t - 7 = p7 := by omega
            have h16 : t - 16 = p16 := by omega
            rw [h15, h2, h7, h16, ← e15, ← e2, ← e7, ← e16]
            have s0 : sig0 x15 = t2 := by rw [E2.out, E1.out, D7.out, D18.out, E3.out]; rfl
            have s1 : sig1 x2 = t5 := by rw [E5.out, E4.out, D17.out, D19.out, E10.out]; rfl
            rw [s0, s1]
            have b1 := E6.out
            have b2 := E7.out
            have b3 := E8.out
            have : (x16 + t2 + x7 + t5) % 4294967296 = t8 := by omega
            rw [this])
          have w15 : IntKind.i64.wrap ((t : Int) - 15) = (p15 : Int) := by rw [IntWalk.i64_in _ (by omega)]; exact q15
          have w2 : IntKind.i64.wrap ((t : Int) - 2) = (p2 : Int) := by rw [IntWalk.i64_in _ (by omega)]; exact q2
          have w7 : IntKind.i64.wrap ((t : Int) - 7) = (p7 : Int) := by rw [IntWalk.i64_in _ (by omega)]; exact q7
          have w16 : IntKind.i64.wrap ((t : Int) - 16) = (p16 : Int) := by rw [IntWalk.i64_in _ (by omega)]; exact q16
          have k15 : (p15 : Int) < (t : Int) := by omega
          have k2 : (p2 : Int) < (t : Int) := by omega
          have k7 : (p7 : Int) < (t : Int) := by omega
          have k16 : (p16 : Int) < (t : Int) := by omega
          have v7 : IntKind.i64.wrap (p7 : Int) = (p7 : Int) := IntWalk.i64_in _ (by omega)
          have v16 : IntKind.i64.wrap (p16 : Int) = (p16 : Int) := IntWalk.i64_in _ (by omega)
          have HO' := Lib.hid (show Own 69 wr w.heap.size (.slice (some ⟨g, 0, none⟩) t cap) (W.map u32v) by
            have h := HO.out
            rw [List.length_map, hWl] at h
            exact h)
          have HOL := Lib.hid (show (W.map u32v).length + 1 ≤ 3000000 by rw [List.length_map]; omega)
          have HTL := Lib.hid hlt
          clear hcell hcw hwl hW hWl e15 e2 e7 e16 l15 l2 D7 D18 D17 D19 E1 E2 E3 E4 E5 E6 E7 E8 E10 n7 n18 n17 n19 o1 o2 o3 o4 o5 o6 o7 o8 o10 hg1 hg2 hg3 ho
          have C := Lib.hid (And.intro c2 (And.intro c7 c16))
          clear c2 c7 c16
          go_wp2_with fail
          go_quiet ((go_at_call 41; first | (with_reducible exact Calls.quiet_of_same (R7.out _)) | (with_reducible exact Calls.quiet_of_same (R18.out _))))
          obtain ⟨c2, c7, c16⟩ := C.out
          have d2 : (wr.drewN nq).cell? ⟨g, p2, none⟩ = some (.int .u32 (x2 : Int)) := c2
          have d7 : (wr.drewN nq).cell? ⟨g, p7, none⟩ = some (.int .u32 (x7 : Int)) := c7
          have d16 : (wr.drewN nq).cell? ⟨g, p16, none⟩ = some (.int .u32 (x16 : Int)) := c16
          have HB1 := Lib.hid (show Below w.heap.size w (wr.drewN nq) from ⟨HB.out.os, HB.out.tape, HB.out.output, HB.out.size, HB.out.block⟩)
          have HO1 := Lib.hid (show Own 69 (wr.drewN nq) w.heap.size (.slice (some ⟨g, 0, none⟩) t cap) (W.map u32v) from HO'.out)
          obtain ⟨W1, hW1⟩ : ∃ W1, W1 = wr.drewN nq := ⟨_, rfl⟩
          rw [← hW1] at d2 d7 d16 HB1 HO1 ⊢
          clear z1 z2 z3 R7 R18 c15 c2 c7 c16 hW1 C
          go_wp2_with fail
          go_quiet ((go_at_call 41; first | (with_reducible exact Calls.quiet_of_same (R17.out _)) | (with_reducible exact Calls.quiet_of_same (R19.out _))))
          clear z4 z5 z10 R17 R19 d2
          have HBA := Lib.hid (HB1.out.alloc HB1.out.size (.cells #[.int .u32 (t8 : Int)] 69))
          go_wp2_with fail
          go_region_law ((refine step_appV ?_ (.tmp 76) (.tmp 92) 84 69 (.int .u32 0) 4 ?_ Tryd.underlying84 info_u4 ?_ ?_ w.heap.size w ?_ ?_ (.slice (some ⟨g, 0, none⟩) t cap) (W.map u32v) ?_ ?_ ⟨W1.heap.size, 0, none⟩ 1 1 [.int .u32 (t8 : Int)] ?_ ?_ ?_ ?_ ?_ ?_; (rfl); (rfl); (rfl); (omega); (first | exact HB1.out.alloc HB1.out.size _ | exact ⟨HBA.out.os, HBA.out.tape, HBA.out.output, HBA.out.size, HBA.out.block⟩); (have := HBA.out.size; exact this); (rfl); (exact (HO1.out.alloc (.cells #[.int .u32 (t8 : Int)] 69))); (rfl); (rfl); (first | exact Lay.new _ _ _ | exact Lay.new W1 _ _); (first | (intro u hu; simp at hu; subst hu; rfl) | rfl); (exact HOL.out); (intro v2 w2 HO2 HB2 HZ2)))
          all_goals
            go_wp2_with fail
            go_roundw
            case rel =>
              repeat apply Exists.intro
              refine ⟨?_, rfl⟩
              exact ⟨t + 1, by go_num, by omega, by omega, by rw [HN.out, List.map_append]; exact HO2.out, HB2.out⟩
            case measure => simp [intOf]; omega
        · obtain rfl : t = 64 := by omega
          have HF := Lib.hid (show W = sched l by rw [hW, HBS.out]; rfl)
          clear hW hWl ho hlt
          go_wp2_with fail
          go_ret
          exact ⟨⟨_, rfl, by rw [← HF.out]; exact HO.out⟩, HB.out⟩
end Go.Proofs.YtiflieaemgamkaaDoor
