/- P7.4: behind a crash each sector has what was safe, or the last one of those writes to it that were kept. Condition: texts of at most 2^47 - 4096 bytes. -/
import Derived.Test.YtiagbadnmkeokaaDNj
namespace Go.Proofs.Ytiagbadnmkeokaa
open Go.RowKit Vi

theorem OwX.rd0 {α : Type} {f : α → List Value} {s : Nat} {T : TypeId} {W : World} {B n c : Nat} {A : Option Addr} {l : List α} (hf : ∀ x, (f x).length = s) (h : OwX f s T W B (.slice A n c) l) : RdX f s W A n l := by
  obtain ⟨A', c', e, hr, _, _⟩ := h.rd hf
  injection e with e1 e2 e3
  subst e1 e2 e3
  exact hr
set_option linter.unusedSimpArgs false in
set_option maxRecDepth 100000 in
set_option maxHeartbeats 4000000 in
theorem dsafe_any (A : Option Addr) (m c : Nat) (l : List Ac) (A2 : Option Addr) (m2 c2 : Nat) (l2 : List Ac) (A3 : Option Addr) (kn c3 : Nat) (ks : List Int) (w : World) (h : RdX acC 6 w A m l) (ok : ∀ a ∈ l, AcOk w a) (hm : m ≤ maxLen) (h2 : RdX acC 6 w A2 m2 l2) (ok2 : ∀ a ∈ l2, AcOk w a) (hm2 : m2 ≤ maxLen) (h3 : RdX inC 1 w A3 kn ks) (hks : ∀ x ∈ ks, (Lit.int .i64 x).wf = true) (hm3 : kn ≤ maxLen) :
    Calls Try.prog 5 #[.slice A m c, .slice A2 m2 c2, .slice A3 kn c3] w fun e w' => e = .returned (.bool true) ∧ Below w.heap.size w w' := by
  have hl : l.length = m := h.1
  have hl2 : l2.length = m2 := h2.1
  have hl3 : ks.length = kn := h3.1
  have hm1 : m ≤ 9223372036854775807 := Nat.le_trans hm (by decide)
  have hm21 : m2 ≤ 9223372036854775807 := Nat.le_trans hm2 (by decide)
  have HN := Lib.hid (fun W : World => show Calls Try.prog 10 #[.int .i64 17] W (NewD (List.replicate 17 noZ) [] W) from dnew_yes 17 W (by decide) (by decide))
  have HFW := Lib.hid (few7_any A m c l w h hm)
  have HFX := Lib.hid (fun (W : World) (hb : Below w.heap.size w W) => few7_any A2 m2 c2 l2 W (h2.below hb) hm2)
  have H := Lib.hid h
  have H2 := Lib.hid h2
  have H3 := Lib.hid h3
  have HOKA := Lib.hid ok
  have HOKB := Lib.hid ok2
  have HKS := Lib.hid (And.intro hks hm3)
  have hS : (List.replicate 17 noZ).length = 17 := List.length_replicate
  have HD0 : Hid (DsOk 0 ⟨List.replicate 17 noZ, [], 0, false, 0⟩) := Lib.hid ⟨by show 16 ≤ (List.replicate 17 noZ).length; omega, by show (List.replicate 17 noZ).length ≤ _; omega, Nat.zero_le _, Int.le_refl _, by show (0 : Int) ≤ _; omega, Int.le_refl _, Int.le_refl _⟩
  generalize List.replicate 17 noZ = S at HN hS HD0
  have HS := Lib.hid hS
  have HL := Lib.hid (And.intro hl (And.intro hl2 hl3))
  clear h ok h2 ok2 hm hm2 h3 hks hm3 hS hl hl2 hl3
  go_enter Try.func5, Try.ntmps5
  go_wp2_with fail
  refine HFW.out.mono ?_
  rintro e w1 ⟨b, rfl, hf, hb1⟩
  have HB1 := Lib.hid hb1
  clear hb1 HFW
  cases b with
  | false =>
    clear hf
    go_wp2_with fail
    refine (awake7_any _).mono ?_
    rintro e wz ⟨rfl, hbz⟩
    have HBZ := Lib.hid (HB1.out.trans (hbz.mono HB1.out.size))
    clear hbz
    go_wp2_with fail
    go_ret
    exact ⟨rfl, HBZ.out⟩
  | true =>
    have HL60 := Lib.hid (show l.length ≤ 60 from hf rfl)
    clear hf
    go_wp2_with fail
    refine (HFX.out _ HB1.out).mono ?_
    rintro e w2 ⟨b, rfl, hf, hb2⟩
    have HB2 := Lib.hid (HB1.out.trans (hb2.mono HB1.out.size))
    clear hb2 HFX HB1
    cases b with
    | false =>
      clear hf
      go_wp2_with fail
      refine (awake7_any _).mono ?_
      rintro e wz ⟨rfl, hbz⟩
      have HBZ := Lib.hid (HB2.out.trans (hbz.mono HB2.out.size))
      clear hbz
      go_wp2_with fail
      go_ret
      exact ⟨rfl, HBZ.out⟩
    | true =>
      have HM60 := Lib.hid (show l2.length ≤ 60 from hf rfl)
      clear hf
      by_cases q2 : 200 < kn
      · have t1 : decide ((kn : Int) > 200) = true := decide_eq_true (by omega)
        have t2 : decide (200 < (kn : Int)) = true := decide_eq_true (by omega)
        go_wp2_with fail
        refine (awake7_any _).mono ?_
        rintro e wz ⟨rfl, hbz⟩
        have HBZ := Lib.hid (HB2.out.trans (hbz.mono HB2.out.size))
        clear hbz
        go_wp2_with fail
        go_ret
        exact ⟨rfl, HBZ.out⟩
      · have t1 : decide ((kn : Int) > 200) = false := decide_eq_false (by omega)
        have t2 : decide (200 < (kn : Int)) = false := decide_eq_false (by omega)
        have hkn : kn ≤ 200 := by omega
        clear q2
        go_wp2_with fail
        refine (HN.out _).mono ?_
        rintro e w3 ⟨D, rfl, hd2, hi2, hb2⟩
        have HW3 : Hid (DW w.heap.size w D ⟨S, [], 0, false, 0⟩ w3) := Lib.hid ⟨hd2, fun b q => Nat.le_trans HB2.out.size (hi2 b q), HB2.out.trans (hb2.mono HB2.out.size), Nat.le_trans HB2.out.size hb2.size⟩
        clear hd2 hi2 hb2 HB2 HN
        go_wp2_with fail
        refine (dseize_any D S [] false 0 0 w3 HW3.out.dk (by have := HS.out; omega) (by simp)).mono ?_
        rintro e w4 ⟨A9, n9, c9, B9, m9, k9, rfl, hs3, hc3, hb3⟩
        have HS4 := Lib.hid (hs3.rdA stC_len HW3.out hb3)
        have HC4 := Lib.hid (hc3.rdA wrC_len HW3.out hb3)
        have HW4 := Lib.hid (HW3.out.below hb3)
        clear hs3 hc3 hb3 HW3
        have HB0 := Lib.hid ((Below.refl w4.heap.size w4).alloc (Nat.le_refl _) (.cells #[.slice none 0 0, .slice none 0 0, .int .i64 0, .bool false, .int .i64 0] 35 (0, 0)))
        have HN0 := Lib.hid (blk_new w4 (.cells #[.slice none 0 0, .slice none 0 0, .int .i64 0, .bool false, .int .i64 0] 35 (0, 0)))
        go_wp2_with (refine wpList_store_rowY rfl 35 (.tmp 9) (.tmp 41) rfl w4.heap.size #[.slice A9 n9 c9, .slice B9 m9 k9, .int .i64 0, .bool false, .int .i64 0] rfl rfl 35 _ HN0.out info_rd rfl (by simp [Value.oneCell']) w4.heap.size w4 HB0.out (Nat.le_refl _) ?_)
        intro w5 hbk hoth hbel _
        have HT5 : Hid (St w.heap.size w D w4.heap.size ⟨S, [], 0, false, 0⟩ A9 n9 c9 B9 m9 k9 w5) := Lib.hid ⟨HW4.out.below hbel.out, hbk.out, fun q => by have := HW4.out.dk.new (q.back hbel.out HW4.out.lt); omega, HS4.out.kd (Kd.of_below hbel.out HW4.out.lt), HC4.out.kd (Kd.of_below hbel.out HW4.out.lt), HW4.out.sz⟩
        clear hbk hoth hbel HB0 HN0 HW4 HS4 HC4
        generalize w4.heap.size = x at *
        go_wp2_with fail
        go_loopw [44] (fun i wr => ∃ (k : Nat) (d : Ds) (A : Option Addr) (n c : Nat) (A2 : Option Addr) (n2 c2 : Nat), i = .int .i64 (k : Int) ∧ k ≤ m ∧ DsOk k d ∧ d.S.length = 17 ∧ St w.heap.size w D x d A n c A2 n2 c2 wr) (fun i _ => m - (intOf i).toNat)
        case atStart => exact ⟨0, _, _, _, _, _, _, _, rfl, Nat.zero_le _, HD0.out, HS.out, HT5.out⟩
        case round =>
          obtain ⟨k, d, A6, n6, c6, B6, m6, k6, rfl, hk, hok, h17, hst⟩ := hrel
          clear HT5 HD0
          have HO := Lib.hid hok
          have HT := Lib.hid hst
          have H17 := Lib.hid h17
          clear hok hst h17
          have hk60 : k ≤ 60 := by have := HL.out.1; have := HL60.out; omega
          by_cases hlt2 : k < m
          · have hd2 : decide ((k : Int) < (m : Int)) = true := decide_eq_true (by omega)
            have hi0 : (0 : Int) ≤ (k : Int) := by omega
            have hs1 : IntKind.i64.wrap ((k : Int) + 1) = (k : Int) + 1 := IntWalk.i64_in _ (by omega)
            obtain ⟨ba, oa, hl1, rfl, hba, hca⟩ := (H.out.below HT.out.dw.bel).at hlt2
            obtain ⟨a, ha⟩ : ∃ a, a = l[k]'hl1 := ⟨_, rfl⟩
            have HA := Lib.hid (HOKA.out (l[k]'hl1) (List.getElem_mem hl1))
            have c0 : wr.cell? ⟨ba, oa + k * 6, none⟩ = some (.int .i64 (l[k]'hl1).kd) := by have q := hca 0 _ rfl; simpa using q
            have c1 := hca 1 (.int .i64 (l[k]'hl1).at') rfl
            have c2 := hca 2 (.int .i64 (l[k]'hl1).nn) rfl
            have c3 := hca 3 (.string (l[k]'hl1).t) rfl
            have c4 := hca 4 (.bool (l[k]'hl1).rw') rfl
            have c5 := hca 5 (.slice (l[k]'hl1).ka (l[k]'hl1).kn (l[k]'hl1).kc) rfl
            rw [← ha] at c0 c1 c2 c3 c4 c5 HA
            clear hca hba ha hl1
            have HB0 := Lib.hid ((Below.refl wr.heap.size wr).alloc (Nat.le_refl _) (.cells #[.int .i64 0, .int .i64 0, .int .i64 0, .string ⟨#[]⟩, .bool false, .slice none 0 0] 39 (0, 0)))
            have HN0 := Lib.hid (blk_new wr (.cells #[.int .i64 0, .int .i64 0, .int .i64 0, .string ⟨#[]⟩, .bool false, .slice none 0 0] 39 (0, 0)))
            have hia : (Try.prog.info? 39).map (·.size) = some 6 := by kernel_rfl
            go_wp2_with (refine wpList_store_rowY rfl 39 (.tmp 11) (.tmp 47) rfl wr.heap.size #[.int .i64 a.kd, .int .i64 a.at', .int .i64 a.nn, .string a.t, .bool a.rw', .slice a.ka a.kn a.kc] rfl rfl 39 _ HN0.out hia rfl (by simp [Value.oneCell']) wr.heap.size wr HB0.out (Nat.le_refl _) ?_)
            intro w6 hbk hoth hbel _
            have HX6 := Lib.hid hbk.out
            have HT6 := Lib.hid (HT.out.kept hbel.out)
            clear hbk hoth hbel HB0 HN0 HT c0 c1 c2 c3 c4 c5
            generalize wr.heap.size = y2 at *
            have y0 : w6.cell? ⟨x, 0, none⟩ = some (.slice A6 n6 c6) := (cell_of_row _ _ 0 _ _ _ HT6.out.xb).trans rfl
            have y1 : w6.cell? ⟨x, 1, none⟩ = some (.slice B6 m6 k6) := (cell_of_row _ _ 1 _ _ _ HT6.out.xb).trans rfl
            have y2c : w6.cell? ⟨x, 2, none⟩ = some (.int .i64 d.ar) := (cell_of_row _ _ 2 _ _ _ HT6.out.xb).trans rfl
            have y3 : w6.cell? ⟨x, 3, none⟩ = some (.bool d.go) := (cell_of_row _ _ 3 _ _ _ HT6.out.xb).trans rfl
            have y4 : w6.cell? ⟨x, 4, none⟩ = some (.int .i64 d.op) := (cell_of_row _ _ 4 _ _ _ HT6.out.xb).trans rfl
            have z0 : w6.cell? ⟨y2, 0, none⟩ = some (.int .i64 a.kd) := (cell_of_row _ _ 0 _ _ _ HX6.out).trans rfl
            have z1 : w6.cell? ⟨y2, 1, none⟩ = some (.int .i64 a.at') := (cell_of_row _ _ 1 _ _ _ HX6.out).trans rfl
            have z2 : w6.cell? ⟨y2, 2, none⟩ = some (.int .i64 a.nn) := (cell_of_row _ _ 2 _ _ _ HX6.out).trans rfl
            have z3 : w6.cell? ⟨y2, 3, none⟩ = some (.string a.t) := (cell_of_row _ _ 3 _ _ _ HX6.out).trans rfl
            have z4 : w6.cell? ⟨y2, 4, none⟩ = some (.bool a.rw') := (cell_of_row _ _ 4 _ _ _ HX6.out).trans rfl
            have z5 : w6.cell? ⟨y2, 5, none⟩ = some (.slice a.ka a.kn a.kc) := (cell_of_row _ _ 5 _ _ _ HX6.out).trans rfl
            go_wp2_with fail
            refine (does_any w.heap.size w D d k A6 n6 c6 B6 m6 k6 a w6 HT6.out.dw HO.out (Nat.le_trans hk60 (by decide)) HT6.out.s HT6.out.c HA.out.wt (HA.out.r.farA HT6.out.dw) HA.out.ws (Nat.le_trans HA.out.le HA.out.lc)).mono ?_
            rintro e w7 ⟨A8, n8, c8, B8, m8, k8, rfl, hd7, hk7, hs7, hc7⟩
            have HT7 := Lib.hid (HT6.out.stored (mc := c8) (k2 := k8) hd7 hk7 hs7 hc7)
            have HX7 := Lib.hid ((hk7.block _ (lt_of_block HT6.out.xb) HT6.out.nx).trans HT6.out.xb)
            have HO7 := Lib.hid (HO.out.act a (by have q := HA.out.wn; simp [Lit.wf, IntKind.min, IntKind.max, IntKind.bits, IntKind.signed] at q; omega))
            have H177 := Lib.hid (show (d.act a).S.length = 17 by rw [act_len]; exact H17.out)
            clear y0 y1 y2c y3 y4 z0 z1 z2 z3 z4 z5 hd7 hk7 hs7 hc7 HT6 HX6 HA HO
            have y0 : w7.cell? ⟨x, 0, none⟩ = some (.slice A6 n6 c6) := (cell_of_row _ _ 0 _ _ _ HX7.out).trans rfl
            have y1 : w7.cell? ⟨x, 1, none⟩ = some (.slice B6 m6 k6) := (cell_of_row _ _ 1 _ _ _ HX7.out).trans rfl
            have y2c : w7.cell? ⟨x, 2, none⟩ = some (.int .i64 d.ar) := (cell_of_row _ _ 2 _ _ _ HX7.out).trans rfl
            have y3 : w7.cell? ⟨x, 3, none⟩ = some (.bool d.go) := (cell_of_row _ _ 3 _ _ _ HX7.out).trans rfl
            have y4 : w7.cell? ⟨x, 4, none⟩ = some (.int .i64 d.op) := (cell_of_row _ _ 4 _ _ _ HX7.out).trans rfl
            have f0 : w7.frozen? ⟨x, 0, none⟩ = false := frozen_of_row _ _ _ _ _ HX7.out
            have f1 : w7.frozen? ⟨x, 1, none⟩ = false := frozen_of_row _ _ _ _ _ HX7.out
            have f2 : w7.frozen? ⟨x, 2, none⟩ = false := frozen_of_row _ _ _ _ _ HX7.out
            have f3 : w7.frozen? ⟨x, 3, none⟩ = false := frozen_of_row _ _ _ _ _ HX7.out
            have f4 : w7.frozen? ⟨x, 4, none⟩ = false := frozen_of_row _ _ _ _ _ HX7.out
            generalize d.act a = d' at *
            go_upto_region 12 with (fail)
            clear y0 y1 y2c y3 y4 f0 f1 f2 f3 f4
            generalize (((((w7.setCell ⟨x, 0, none⟩ (.slice A8 n8 c8)).setCell ⟨x, 1, none⟩ (.slice B8 m8 k8)).setCell ⟨x, 2, none⟩ (.int .i64 d'.ar)).setCell ⟨x, 3, none⟩ (.bool d'.go)).setCell ⟨x, 4, none⟩ (.int .i64 d'.op)) = w8 at *
            go_wp2_with fail
            go_roundw
            case rel => exact ⟨k + 1, d', _, _, _, _, _, _, by go_num, by omega, HO7.out, H177.out, HT7.out⟩
            case measure => simp [intOf] <;> omega
          · have hd2 : decide ((k : Int) < (m : Int)) = false := decide_eq_false (by omega)
            have HW0 := Lib.hid HT.out.dw
            clear HT
            go_wp2_with fail
            refine (pboot HW0.out).mono ?_
            rintro e u1 ⟨rfl, hd1, _⟩
            have HW1 := Lib.hid hd1
            clear hd1 HW0
            go_wp2_with fail
            have hfl := pflush HW1.out HO.out.boot (by omega)
            rw [(fls_boot d).1, (fls_boot d).2] at hfl
            have HO2 := HO.out.boot.fls
            rw [(fls_boot d).2] at HO2
            have HO2 := Lib.hid (HO2.le (show k + 1 + 1 ≤ 62 by have := HL.out.1; have := HL60.out; omega))
            refine hfl.mono ?_
            rintro e u2 ⟨rfl, hd1, _⟩
            have HW2 := Lib.hid hd1
            clear hd1 HW1 hfl HO
            obtain ⟨S0, hS0⟩ : ∃ s, s = d.S := ⟨_, rfl⟩
            obtain ⟨op, hop⟩ : ∃ s, s = d.op + 1 := ⟨_, rfl⟩
            rw [← hS0] at HW2 HO2 H17
            rw [← hop] at HW2 HO2
            clear hS0 hop
            go_wp2_with fail
            refine (dseize_any D S0 [] false op 0 u2 HW2.out.dk (by have := H17.out; omega) (by simp)).mono ?_
            rintro e u3 ⟨A8, n8, c8, B8, m8, k8, rfl, hs3, hc3, hb3⟩
            obtain rfl : 17 = n8 := H17.out.symm.trans (hs3.rd0 stC_len).1
            obtain rfl : 0 = m8 := (hc3.rd0 wrC_len).1
            obtain ⟨g, rfl⟩ := hs3.some0 (by omega)
            have HOW := Lib.hid hs3
            have hgl := own_lt hs3
            have hgg := own_ge hs3
            have HW3 := Lib.hid (HW2.out.below hb3)
            have hng : ¬ InD D u3 g := fun q => by have := HW2.out.dk.new (q.back hb3 HW2.out.lt); omega
            have hgn : w.heap.size ≤ g := Nat.le_trans HW2.out.sz hgg
            clear hs3 hc3 hb3 HW2 hgg
            generalize u2.heap.size = bs at *
            have HB0 := Lib.hid ((Below.refl u3.heap.size u3).alloc (Nat.le_refl _) (.cells #[.slice none 0 0, .slice none 0 0] 32 (0, 0)))
            have HN0 := Lib.hid (blk_new u3 (.cells #[.slice none 0 0, .slice none 0 0] 32 (0, 0)))
            go_wp2_with (refine wpList_store_rowY rfl 32 (.tmp 13) (.tmp 64) rfl u3.heap.size #[.slice (some ⟨g, 0, none⟩) 17 c8, .slice B8 0 k8] rfl rfl 32 _ HN0.out (by kernel_rfl) rfl (by simp [Value.oneCell']) u3.heap.size u3 HB0.out (Nat.le_refl _) ?_)
            intro u4 hbk hoth hbel _
            have HW4 := Lib.hid (HW3.out.below hbel.out)
            have HN4 : Hid (Wn D u3.heap.size g bs c8 B8 k8 S0 u4) := Lib.hid ⟨hbk.out, fun q => by have := HW3.out.dk.new (q.back hbel.out HW3.out.lt); omega, HOW.out.of_block (fun b _ _ hb => hbel.out.block b hb), fun q => hng (q.back hbel.out HW3.out.lt), by omega⟩
            clear hbk hoth hbel HB0 HN0 HW3 HOW hng hgl
            generalize u3.heap.size = y at *
            have y0 : u4.cell? ⟨y, 0, none⟩ = some (.slice (some ⟨g, 0, none⟩) 17 c8) := (cell_of_row _ _ 0 _ _ _ HN4.out.yb).trans rfl
            have y1 : u4.cell? ⟨y, 1, none⟩ = some (.slice B8 0 k8) := (cell_of_row _ _ 1 _ _ _ HN4.out.yb).trans rfl
            go_wp2_with fail
            clear y0 y1
            have HFAR := Lib.hid (fun (W : World) (d : Ds) (q : DW w.heap.size w D d W) => H3.out.farA q)
            go_loopw [14, 77] (fun kq i wr => ∃ (j q : Nat) (C : List Wr) (op : Int) (Sx : List ByteArray), kq = .int .i64 (q : Int) ∧ i = .int .i64 (j : Int) ∧ j ≤ m2 ∧ DsOk (62 + j) ⟨S0, C, 0, false, op⟩ ∧ DW w.heap.size w D ⟨S0, C, 0, false, op⟩ wr ∧ Wn D y g bs c8 B8 k8 Sx wr ∧ Sx = setP (inK ks) 0 C S0 ∧ C.length = q) (fun _ i _ => m2 - (intOf i).toNat)
            case atStart => exact ⟨0, 0, [], op, S0, rfl, rfl, Nat.zero_le _, HO2.out, HW4.out, HN4.out, rfl, rfl⟩
            case round =>
              obtain ⟨j, q, C, op, Sx, rfl, rfl, hj, hok, hdw, hwn, hsx, hcq⟩ := hrel
              clear HO2 HW4 HN4
              have HO := Lib.hid hok
              have HW := Lib.hid hdw
              have HN := Lib.hid hwn
              have HX := Lib.hid hsx
              have HCQ := Lib.hid hcq
              clear hok hdw hwn hsx hcq
              have hj60 : 62 + j ≤ 1000 := by have := HL.out.2.1; have := HM60.out; omega
              have hqb : q ≤ 10000 := by have r : C.length ≤ 4096 + (62 + j) := HO.out.c; have := HCQ.out; omega
              by_cases hlt2 : j < m2
              · have hd3 : decide ((j : Int) < (m2 : Int)) = true := decide_eq_true (by omega)
                have hi0 : (0 : Int) ≤ (j : Int) := by omega
                have hs1 : IntKind.i64.wrap ((j : Int) + 1) = (j : Int) + 1 := IntWalk.i64_in _ (by omega)
                have hs2 : IntKind.i64.wrap ((q : Int) + 1) = (q : Int) + 1 := IntWalk.i64_in _ (by omega)
                obtain ⟨ba, oa, hl1, rfl, hba, hca⟩ := (H2.out.below HW.out.bel).at hlt2
                obtain ⟨a, ha⟩ : ∃ a, a = l2[j]'hl1 := ⟨_, rfl⟩
                have HA := Lib.hid (HOKB.out (l2[j]'hl1) (List.getElem_mem hl1))
                have c0 : wr.cell? ⟨ba, oa + j * 6, none⟩ = some (.int .i64 (l2[j]'hl1).kd) := by have q := hca 0 _ rfl; simpa using q
                have c1 := hca 1 (.int .i64 (l2[j]'hl1).at') rfl
                have c2 := hca 2 (.int .i64 (l2[j]'hl1).nn) rfl
                have c3 := hca 3 (.string (l2[j]'hl1).t) rfl
                have c4 := hca 4 (.bool (l2[j]'hl1).rw') rfl
                have c5 := hca 5 (.slice (l2[j]'hl1).ka (l2[j]'hl1).kn (l2[j]'hl1).kc) rfl
                rw [← ha] at c0 c1 c2 c3 c4 c5 HA
                clear hca hba ha hl1
                have HB0 := Lib.hid ((Below.refl wr.heap.size wr).alloc (Nat.le_refl _) (.cells #[.int .i64 0, .int .i64 0, .int .i64 0, .string ⟨#[]⟩, .bool false, .slice none 0 0] 39 (0, 0)))
                have HN0 := Lib.hid (blk_new wr (.cells #[.int .i64 0, .int .i64 0, .int .i64 0, .string ⟨#[]⟩, .bool false, .slice none 0 0] 39 (0, 0)))
                have hia : (Try.prog.info? 39).map (·.size) = some 6 := by kernel_rfl
                go_wp2_with (refine wpList_store_rowY rfl 39 (.tmp 16) (.tmp 80) rfl wr.heap.size #[.int .i64 a.kd, .int .i64 a.at', .int .i64 a.nn, .string a.t, .bool a.rw', .slice a.ka a.kn a.kc] rfl rfl 39 _ HN0.out hia rfl (by simp [Value.oneCell']) wr.heap.size wr HB0.out (Nat.le_refl _) ?_)
                intro w6 hbk hoth hbel _
                have HX6 := Lib.hid hbk.out
                have HW6 := Lib.hid (HW.out.below hbel.out)
                have HN6 := Lib.hid (HN.out.kept hbel.out HW.out.lt)
                have HD6 := Lib.hid (show ¬ InD D w6 wr.heap.size from fun q => by have := HW.out.dk.new (q.back hbel.out HW.out.lt); omega)
                have HG6 := Lib.hid (HN.out.lt)
                clear hbk hoth hbel HB0 HN0 HW HN c0 c1 c2 c3 c4 c5
                generalize wr.heap.size = y2 at *
                obtain ⟨tx, htx⟩ : ∃ tx, tx = acT a := ⟨_, rfl⟩
                have HTX := Lib.hid (fun W : World => atext_any a W HA.out.wt)
                rw [← htx] at HTX
                clear htx HA
                obtain ⟨kd, at0, nn, tq, rw1, ka, kan, kac, kas⟩ := a
                dsimp only at HTX HX6
                go_upto_region 25 with (fail)
                have HW6 := Lib.hid (HW6.out.below (Below.refl _ _).drew)
                have HN6 := Lib.hid (HN6.out.kept (Below.refl _ _).drew (HW6.out.lt))
                have HD6 := Lib.hid (show ¬ InD D w6.drew y2 from HD6.out)
                refine wp_region_L_drew (S := fun _ W => W.heap[y2]? = some (.cells #[.int .i64 kd, .int .i64 at0, .int .i64 nn, .string tq, .bool rw1, .slice ka kan kac] 39 (0, 0))) (by kernel_rfl) HX6.out (fun hS hC => ?_)
                have HX6 := Lib.hid (show w6.drew.heap[y2]? = some (.cells #[.int .i64 kd, .int .i64 at0, .int .i64 nn, .string tq, .bool rw1, .slice ka kan kac] 39 (0, 0)) from HX6.out)
                generalize w6.drew = v0 at *
                by_cases hq : dckE S0.length at0 tx = 0
                · skip
                  refine wpAnyL_take (i := 0) (oi := { dst := some 81, op := .move (.tmp 7), type := _, pos := _, after := _, guard := none }) (v := ?_) rfl (by kernel_rfl) (by kernel_rfl) (by kernel_rfl) (fun _ _ _ h => h) (fun _ _ => Iff.rfl) hC (Or.inl ⟨by rfl, ?_⟩) hS (fun hC hS => ?_)
                  rotate_left
                  · intro W9 hSw; skip; go_simp; try (with_reducible rfl)
                  try simp only [Act.put, List.setIfInBounds_toArray, List.set_cons_zero, List.set_cons_succ]
                  refine wpAnyL_take (i := 1) (oi := { dst := some 82, op := .fieldAddr 39 (.tmp 16) 1, type := _, pos := _, after := _, guard := none }) (v := ?_) rfl (by kernel_rfl) (by kernel_rfl) (by kernel_rfl) (fun _ _ _ h => h) (fun _ _ => Iff.rfl) hC (Or.inl ⟨by rfl, ?_⟩) hS (fun hC hS => ?_)
                  rotate_left
                  · intro W9 hSw; skip; go_simp; try (with_reducible rfl)
                  try simp only [Act.put, List.setIfInBounds_toArray, List.set_cons_zero, List.set_cons_succ]
                  refine wpAnyL_take (i := 2) (oi := { dst := some 83, op := .load 3 (.tmp 82), type := _, pos := _, after := _, guard := none }) (v := ?_) rfl (by kernel_rfl) (by kernel_rfl) (by kernel_rfl) (fun _ _ _ h => h) (fun _ _ => Iff.rfl) hC (Or.inl ⟨by rfl, ?_⟩) hS (fun hC hS => ?_)
                  rotate_left
                  · intro W9 hSw; have q1 := (cell_of_row _ _ 1 _ _ _ hSw.choose_spec.2.2).trans rfl; go_simp; try (with_reducible rfl)
                  try simp only [Act.put, List.setIfInBounds_toArray, List.set_cons_zero, List.set_cons_succ]
                  refine wpAnyL_take (i := 3) (oi := { dst := some 84, op := .load 39 (.tmp 16), type := _, pos := _, after := _, guard := none }) (v := ?_) rfl (by kernel_rfl) (by kernel_rfl) (by kernel_rfl) (fun _ _ _ h => h) (fun _ _ => Iff.rfl) hC (Or.inl ⟨by rfl, ?_⟩) hS (fun hC hS => ?_)
                  rotate_left
                  · intro W9 hSw; have q0 := (cell_of_row _ _ 0 _ _ _ hSw.choose_spec.2.2).trans rfl; have q1 := (cell_of_row _ _ 1 _ _ _ hSw.choose_spec.2.2).trans rfl; have q2 := (cell_of_row _ _ 2 _ _ _ hSw.choose_spec.2.2).trans rfl; have q3 := (cell_of_row _ _ 3 _ _ _ hSw.choose_spec.2.2).trans rfl; have q4 := (cell_of_row _ _ 4 _ _ _ hSw.choose_spec.2.2).trans rfl; have q5 := (cell_of_row _ _ 5 _ _ _ hSw.choose_spec.2.2).trans rfl; go_simp; try (with_reducible rfl)
                  try simp only [Act.put, List.setIfInBounds_toArray, List.set_cons_zero, List.set_cons_succ]
                  refine wpAnyL_ready (rs := [4]) (by kernel_rfl) (by simp) hC ?_
                  refine AllReadyL.cons (o := { dst := some 85, op := .call { callee := .value (.func 21), args := #[.tmp 84], argTypes := #[39] }, type := _, pos := _, after := _, guard := none }) rfl (fun K9 hK => ?_) ?_
                  · skip
                    go_simp
                    refine (HTX.out _).mono ?_
                    rintro e v1 ⟨rfl, hb4⟩
                    have HW7 := Lib.hid (HW6.out.below hb4)
                    have HN7 := Lib.hid (HN6.out.kept hb4 HW6.out.lt)
                    have HX7 := Lib.hid (blk_below HX6.out hb4)
                    have HD7 := Lib.hid (fun q => HD6.out (q.back hb4 HW6.out.lt) : ¬ InD D v1 y2)
                    clear hb4 HW6 HN6 HX6 HD6
                    refine hK _ _ HX7.out (fun hC => ?_)
                    clear hK K9
                    try simp only [Act.put, List.setIfInBounds_toArray, List.set_cons_zero, List.set_cons_succ]
                    refine wpAnyL_ready (rs := [5]) (by kernel_rfl) (by simp) hC ?_
                    refine AllReadyL.cons (o := { dst := some 86, op := .call { callee := .value (.func 20), args := #[.tmp 81, .tmp 83, .tmp 85], argTypes := #[25, 3, 9] }, type := _, pos := _, after := _, guard := none }) rfl (fun K9 hK => ?_) ?_
                    · skip
                      go_simp
                      have HP := pwrite HW7.out HO.out hj60 at0 tx
                      rw [(wr_ok hq).1, (wr_ok hq).2] at HP
                      have HO8 := HO.out.wrt at0 tx
                      rw [(wr_ok hq).2] at HO8
                      have HO8 := Lib.hid HO8
                      refine HP.mono ?_
                      rintro e v2 ⟨rfl, hd8, hk8⟩
                      have HW8 := Lib.hid hd8
                      have HN8 := Lib.hid (HN7.out.prog hk8)
                      have HX8 := Lib.hid ((hk8.block _ (lt_of_block HX7.out) HD7.out).trans HX7.out)
                      clear hd8 hk8 HW7 HN7 HX7 HD7 HP
                      refine hK _ _ HX8.out (fun hC => ?_)
                      clear hK K9
                      try simp only [Act.put, List.setIfInBounds_toArray, List.set_cons_zero, List.set_cons_succ]
                      refine wpAnyL_take (i := 6) (oi := { dst := some 87, op := .binOp .neq 26 (.tmp 86) (.const (.int Go.IntKind.i64 0)) 26, type := _, pos := _, after := _, guard := none }) (v := ?_) rfl (by kernel_rfl) (by kernel_rfl) (by kernel_rfl) (fun _ _ _ h => h) (fun _ _ => Iff.rfl) hC (Or.inl ⟨by rfl, ?_⟩) HX8.out (fun hC hS => ?_)
                      rotate_left
                      · intro W9 hSw; skip; go_simp; try (with_reducible rfl)
                      try simp only [Act.put, List.setIfInBounds_toArray, List.set_cons_zero, List.set_cons_succ]
                      refine wpAnyL_done (by kernel_rfl) ?_ _
                      clear hS hC
                      obtain ⟨pa, pb, pc⟩ := dck_ok hq
                      obtain ⟨p, rfl⟩ : ∃ p : Nat, at0 = (p : Int) := ⟨at0.toNat, by omega⟩
                      have hp17 : p < 17 := by have := H17.out; omega
                      clear hq pa pb pc
                      go_wp2_with fail
                      go_loopw [90] (fun i wr => ∃ (t : Nat) (Sy : List ByteArray), i = .int .i64 (t : Int) ∧ t ≤ kn ∧ DW w.heap.size w D ⟨S0, C ++ [((p : Int), tx)], 0, false, op + 1⟩ wr ∧ Wn D y g bs c8 B8 k8 Sy wr ∧ Sy = wantS (inK (ks.take t) q) Sx p tx ∧ wr.heap[y2]? = some (.cells #[.int .i64 kd, .int .i64 (p : Int), .int .i64 nn, .string tq, .bool rw1, .slice ka kan kac] 39 (0, 0))) (fun i _ => kn - (intOf i).toNat)
                      case atStart => exact ⟨0, Sx, rfl, Nat.zero_le _, HW8.out, HN8.out, rfl, HX8.out⟩
                      case round =>
                        obtain ⟨t, Sy, rfl, ht, hdw, hwn, hsy, hxx⟩ := hrel
                        clear HW8 HN8 HX8
                        have HW := Lib.hid hdw
                        have HN := Lib.hid hwn
                        have HSY := Lib.hid hsy
                        have HXX := Lib.hid hxx
                        clear hdw hwn hsy hxx
                        by_cases hlt3 : t < kn
                        · have hd4 : decide ((t : Int) < (kn : Int)) = true := decide_eq_true (by omega)
                          have hi1 : (0 : Int) ≤ (t : Int) := by omega
                          have hs3 : IntKind.i64.wrap ((t : Int) + 1) = (t : Int) + 1 := IntWalk.i64_in _ (by omega)
                          obtain ⟨bc, oc, hl1, rfl, hbc, hcc⟩ := (HFAR.out _ _ HW.out).1.at hlt3
                          have c0 : wr.cell? ⟨bc, oc + t, none⟩ = some (.int .i64 (ks[t]'hl1)) := by have q := hcc 0 (.int .i64 (ks[t]'hl1)) rfl; simpa using q
                          have HIN := Lib.hid (inK_snoc ks q t hl1)
                          obtain ⟨kt, hkt⟩ : ∃ z, z = ks[t]'hl1 := ⟨_, rfl⟩
                          rw [← hkt] at c0 HIN
                          clear hcc hbc hkt hl1
                          by_cases hkq : kt = (q : Int)
                          · have e1 : (kt == (q : Int)) = true := by simpa using hkq
                            have e2 : decide (kt = (q : Int)) = true := decide_eq_true hkq
                            have HSZ := Lib.hid (show Sy.set p tx = wantS (inK (ks.take (t + 1)) q) Sx p tx by rw [HIN.out, e1, Bool.or_true, HSY.out, wantS_step])
                            clear hkq
                            go_upto_region 30 with (fail)
                            clear e1 e2 c0
                            have HW := Lib.hid (HW.out.below (Below.refl _ _).drew)
                            have HN := Lib.hid (HN.out.kept (Below.refl _ _).drew HW.out.lt)
                            have HXX := Lib.hid (show wr.drew.heap[y2]? = some (.cells #[.int .i64 kd, .int .i64 (p : Int), .int .i64 nn, .string tq, .bool rw1, .slice ka kan kac] 39 (0, 0)) from HXX.out)
                            refine wp_region_L_drew (S := fun _ W => W.heap[y]? = some (.cells #[.slice (some ⟨g, 0, none⟩) 17 c8, .slice B8 0 k8] 32 (0, 0)) ∧ W.heap[y2]? = some (.cells #[.int .i64 kd, .int .i64 (p : Int), .int .i64 nn, .string tq, .bool rw1, .slice ka kan kac] 39 (0, 0))) (by kernel_rfl) ⟨HN.out.yb, HXX.out⟩ (fun hS hC => ?_)
                            have hip : (0 : Int) ≤ (p : Int) := by omega
                            have hip2 : (p : Int) < 17 := by omega
                            generalize wr.drew = r0 at *
                            refine wpAnyL_take (i := 0) (oi := { dst := some 97, op := .fieldAddr 32 (.tmp 13) 0, type := _, pos := _, after := _, guard := none }) (v := ?_) rfl (by kernel_rfl) (by kernel_rfl) (by kernel_rfl) (fun _ _ _ h => h) (fun _ _ => Iff.rfl) hC (Or.inl ⟨by rfl, ?_⟩) hS (fun hC hS => ?_)
                            rotate_left
                            · intro W9 hSw; skip; go_simp; try (with_reducible rfl)
                            try simp only [Act.put, List.setIfInBounds_toArray, List.set_cons_zero, List.set_cons_succ]
                            refine wpAnyL_take (i := 1) (oi := { dst := some 98, op := .load 29 (.tmp 97), type := _, pos := _, after := _, guard := none }) (v := ?_) rfl (by kernel_rfl) (by kernel_rfl) (by kernel_rfl) (fun _ _ _ h => h) (fun _ _ => Iff.rfl) hC (Or.inl ⟨by rfl, ?_⟩) hS (fun hC hS => ?_)
                            rotate_left
                            · intro W9 hSw; have q0 := (cell_of_row _ _ 0 _ _ _ hSw.choose_spec.2.2.1).trans rfl; go_simp; try (with_reducible rfl)
                            try simp only [Act.put, List.setIfInBounds_toArray, List.set_cons_zero, List.set_cons_succ]
                            refine wpAnyL_take (i := 2) (oi := { dst := some 99, op := .fieldAddr 39 (.tmp 16) 1, type := _, pos := _, after := _, guard := none }) (v := ?_) rfl (by kernel_rfl) (by kernel_rfl) (by kernel_rfl) (fun _ _ _ h => h) (fun _ _ => Iff.rfl) hC (Or.inl ⟨by rfl, ?_⟩) hS (fun hC hS => ?_)
                            rotate_left
                            · intro W9 hSw; skip; go_simp; try (with_reducible rfl)
                            try simp only [Act.put, List.setIfInBounds_toArray, List.set_cons_zero, List.set_cons_succ]
                            refine wpAnyL_take (i := 3) (oi := { dst := some 100, op := .load 3 (.tmp 99), type := _, pos := _, after := _, guard := none }) (v := ?_) rfl (by kernel_rfl) (by kernel_rfl) (by kernel_rfl) (fun _ _ _ h => h) (fun _ _ => Iff.rfl) hC (Or.inl ⟨by rfl, ?_⟩) hS (fun hC hS => ?_)
                            rotate_left
                            · intro W9 hSw; have q1 := (cell_of_row _ _ 1 _ _ _ hSw.choose_spec.2.2.2).trans rfl; go_simp; try (with_reducible rfl)
                            try simp only [Act.put, List.setIfInBounds_toArray, List.set_cons_zero, List.set_cons_succ]
                            refine wpAnyL_take (i := 4) (oi := { dst := some 101, op := .load 39 (.tmp 16), type := _, pos := _, after := _, guard := none }) (v := ?_) rfl (by kernel_rfl) (by kernel_rfl) (by kernel_rfl) (fun _ _ _ h => h) (fun _ _ => Iff.rfl) hC (Or.inl ⟨by rfl, ?_⟩) hS (fun hC hS => ?_)
                            rotate_left
                            · intro W9 hSw; have q0 := (cell_of_row _ _ 0 _ _ _ hSw.choose_spec.2.2.2).trans rfl; have q1 := (cell_of_row _ _ 1 _ _ _ hSw.choose_spec.2.2.2).trans rfl; have q2 := (cell_of_row _ _ 2 _ _ _ hSw.choose_spec.2.2.2).trans rfl; have q3 := (cell_of_row _ _ 3 _ _ _ hSw.choose_spec.2.2.2).trans rfl; have q4 := (cell_of_row _ _ 4 _ _ _ hSw.choose_spec.2.2.2).trans rfl; have q5 := (cell_of_row _ _ 5 _ _ _ hSw.choose_spec.2.2.2).trans rfl; go_simp; try (with_reducible rfl)
                            try simp only [Act.put, List.setIfInBounds_toArray, List.set_cons_zero, List.set_cons_succ]
                            refine wpAnyL_ready (rs := [5]) (by kernel_rfl) (by simp) hC ?_
                            refine AllReadyL.cons (o := { dst := some 102, op := .call { callee := .value (.func 21), args := #[.tmp 101], argTypes := #[39] }, type := _, pos := _, after := _, guard := none }) rfl (fun K9 hK => ?_) ?_
                            · skip
                              go_simp
                              refine (HTX.out _).mono ?_
                              rintro e r1 ⟨rfl, hb5⟩
                              have HW5 := Lib.hid (HW.out.below hb5)
                              have HN5 := Lib.hid (HN.out.kept hb5 HW.out.lt)
                              have HXX5 := Lib.hid (blk_below HXX.out hb5)
                              clear hb5 HW HN HXX
                              refine hK _ _ ⟨HN5.out.yb, HXX5.out⟩ (fun hC => ?_)
                              clear hK K9
                              try simp only [Act.put, List.setIfInBounds_toArray, List.set_cons_zero, List.set_cons_succ]
                              refine wpAnyL_take (i := 6) (oi := { dst := some 103, op := .indexAddr 29 (.tmp 98) (.tmp 100), type := _, pos := _, after := _, guard := none }) (v := ?_) rfl (by kernel_rfl) (by kernel_rfl) (by kernel_rfl) (fun _ _ _ h => h) (fun _ _ => Iff.rfl) hC (Or.inl ⟨by rfl, ?_⟩) ⟨HN5.out.yb, HXX5.out⟩ (fun hC hS => ?_)
                              rotate_left
                              · intro W9 hSw; skip; go_simp; try (with_reducible rfl)
                              try simp only [Act.put, List.setIfInBounds_toArray, List.set_cons_zero, List.set_cons_succ]
                              refine wpAnyL_ready (rs := [7]) (by kernel_rfl) (by simp) hC ?_
                              refine AllReadyL.cons (o := { dst := none, op := .store 9 (.tmp 103) (.tmp 102), type := _, pos := _, after := _, guard := none }) rfl (fun K9 hK => ?_) ?_
                              · skip
                                obtain ⟨⟨u9, hu9⟩, hf9⟩ := HN5.out.cell hp17
                                go_simp
                                have HKK := Lib.hid ((KK.refl [g] r1).set (b := g) (by simp) p (.string tx))
                                have HW7 := Lib.hid (HW5.out.kkN HKK.out HN5.out.ng hgn)
                                have HN7 := Lib.hid (HN5.out.set HW5.out.lt p tx)
                                have HXX7 := Lib.hid (HKK.out.blk HXX5.out (fun e => Nat.ne_of_gt HG6.out (by simpa using e)))
                                clear hu9 hf9 HW5 HN5 HXX5 HKK
                                generalize r1.setCell ⟨g, p, none⟩ (.string tx) = r2 at *
                                refine hK _ _ ⟨HN7.out.yb, HXX7.out⟩ (fun hC => ?_)
                                clear hK K9
                                try simp only [Act.put, List.setIfInBounds_toArray, List.set_cons_zero, List.set_cons_succ]
                                refine wpAnyL_done (by kernel_rfl) ?_ _
                                clear hS hC
                                go_wp2_with fail
                                go_roundw
                                case rel => exact ⟨t + 1, Sy.set p tx, by go_num, by omega, HW7.out, HN7.out, HSZ.out, HXX7.out⟩
                                case measure => simp [intOf] <;> omega
                              exact AllReadyL.nil
                            exact AllReadyL.nil
                          · have e1 : (kt == (q : Int)) = false := beq_eq_false_iff_ne.2 hkq
                            have e2 : decide (kt = (q : Int)) = false := decide_eq_false hkq
                            have HSZ := Lib.hid (show Sy = wantS (inK (ks.take (t + 1)) q) Sx p tx by rw [HIN.out, e1, Bool.or_false]; exact HSY.out)
                            clear hkq
                            go_wp2_with fail
                            go_roundw
                            case rel => exact ⟨t + 1, Sy, by go_num, by omega, HW.out, HN.out, HSZ.out, HXX.out⟩
                            case measure => simp [intOf] <;> omega
                        · have hd4 : decide ((t : Int) < (kn : Int)) = false := decide_eq_false (by omega)
                          have HFIN := Lib.hid (show Sy = setP (inK ks) 0 (C ++ [((p : Int), tx)]) S0 by rw [setP_want, HCQ.out, ← HX.out, HSY.out, List.take_of_length_le (by have := HL.out.2.2; omega)])
                          go_wp2_with fail
                          go_roundw
                          case rel => exact ⟨j + 1, q + 1, C ++ [((p : Int), tx)], op + 1, Sy, by go_num, by go_num, by omega, HO8.out.le (by omega), HW.out, HN.out, HFIN.out, by rw [List.length_append, HCQ.out]; rfl⟩
                          case measure => simp [intOf] <;> omega
                    exact AllReadyL.nil
                  exact AllReadyL.nil
                · skip
                  refine wpAnyL_take (i := 0) (oi := { dst := some 81, op := .move (.tmp 7), type := _, pos := _, after := _, guard := none }) (v := ?_) rfl (by kernel_rfl) (by kernel_rfl) (by kernel_rfl) (fun _ _ _ h => h) (fun _ _ => Iff.rfl) hC (Or.inl ⟨by rfl, ?_⟩) hS (fun hC hS => ?_)
                  rotate_left
                  · intro W9 hSw; skip; go_simp; try (with_reducible rfl)
                  try simp only [Act.put, List.setIfInBounds_toArray, List.set_cons_zero, List.set_cons_succ]
                  refine wpAnyL_take (i := 1) (oi := { dst := some 82, op := .fieldAddr 39 (.tmp 16) 1, type := _, pos := _, after := _, guard := none }) (v := ?_) rfl (by kernel_rfl) (by kernel_rfl) (by kernel_rfl) (fun _ _ _ h => h) (fun _ _ => Iff.rfl) hC (Or.inl ⟨by rfl, ?_⟩) hS (fun hC hS => ?_)
                  rotate_left
                  · intro W9 hSw; skip; go_simp; try (with_reducible rfl)
                  try simp only [Act.put, List.setIfInBounds_toArray, List.set_cons_zero, List.set_cons_succ]
                  refine wpAnyL_take (i := 2) (oi := { dst := some 83, op := .load 3 (.tmp 82), type := _, pos := _, after := _, guard := none }) (v := ?_) rfl (by kernel_rfl) (by kernel_rfl) (by kernel_rfl) (fun _ _ _ h => h) (fun _ _ => Iff.rfl) hC (Or.inl ⟨by rfl, ?_⟩) hS (fun hC hS => ?_)
                  rotate_left
                  · intro W9 hSw; have q1 := (cell_of_row _ _ 1 _ _ _ hSw.choose_spec.2.2).trans rfl; go_simp; try (with_reducible rfl)
                  try simp only [Act.put, List.setIfInBounds_toArray, List.set_cons_zero, List.set_cons_succ]
                  refine wpAnyL_take (i := 3) (oi := { dst := some 84, op := .load 39 (.tmp 16), type := _, pos := _, after := _, guard := none }) (v := ?_) rfl (by kernel_rfl) (by kernel_rfl) (by kernel_rfl) (fun _ _ _ h => h) (fun _ _ => Iff.rfl) hC (Or.inl ⟨by rfl, ?_⟩) hS (fun hC hS => ?_)
                  rotate_left
                  · intro W9 hSw; have q0 := (cell_of_row _ _ 0 _ _ _ hSw.choose_spec.2.2).trans rfl; have q1 := (cell_of_row _ _ 1 _ _ _ hSw.choose_spec.2.2).trans rfl; have q2 := (cell_of_row _ _ 2 _ _ _ hSw.choose_spec.2.2).trans rfl; have q3 := (cell_of_row _ _ 3 _ _ _ hSw.choose_spec.2.2).trans rfl; have q4 := (cell_of_row _ _ 4 _ _ _ hSw.choose_spec.2.2).trans rfl; have q5 := (cell_of_row _ _ 5 _ _ _ hSw.choose_spec.2.2).trans rfl; go_simp; try (with_reducible rfl)
                  try simp only [Act.put, List.setIfInBounds_toArray, List.set_cons_zero, List.set_cons_succ]
                  refine wpAnyL_ready (rs := [4]) (by kernel_rfl) (by simp) hC ?_
                  refine AllReadyL.cons (o := { dst := some 85, op := .call { callee := .value (.func 21), args := #[.tmp 84], argTypes := #[39] }, type := _, pos := _, after := _, guard := none }) rfl (fun K9 hK => ?_) ?_
                  · skip
                    go_simp
                    refine (HTX.out _).mono ?_
                    rintro e v1 ⟨rfl, hb4⟩
                    have HW7 := Lib.hid (HW6.out.below hb4)
                    have HN7 := Lib.hid (HN6.out.kept hb4 HW6.out.lt)
                    have HX7 := Lib.hid (blk_below HX6.out hb4)
                    have HD7 := Lib.hid (fun q => HD6.out (q.back hb4 HW6.out.lt) : ¬ InD D v1 y2)
                    clear hb4 HW6 HN6 HX6 HD6
                    refine hK _ _ HX7.out (fun hC => ?_)
                    clear hK K9
                    try simp only [Act.put, List.setIfInBounds_toArray, List.set_cons_zero, List.set_cons_succ]
                    refine wpAnyL_ready (rs := [5]) (by kernel_rfl) (by simp) hC ?_
                    refine AllReadyL.cons (o := { dst := some 86, op := .call { callee := .value (.func 20), args := #[.tmp 81, .tmp 83, .tmp 85], argTypes := #[25, 3, 9] }, type := _, pos := _, after := _, guard := none }) rfl (fun K9 hK => ?_) ?_
                    · skip
                      go_simp
                      have HP := pwrite HW7.out HO.out hj60 at0 tx
                      rw [(wr_bad hq).1, (wr_bad hq).2] at HP
                      obtain ⟨ze, hze⟩ : ∃ ze, ze = dckE S0.length at0 tx := ⟨_, rfl⟩
                      rw [← hze] at HP hq
                      have e1 : (ze != 0) = true := by simpa using hq
                      clear hze hq
                      refine HP.mono ?_
                      rintro e v2 ⟨rfl, hd8, hk8⟩
                      have HW8 := Lib.hid hd8
                      have HN8 := Lib.hid (HN7.out.prog hk8)
                      have HX8 := Lib.hid ((hk8.block _ (lt_of_block HX7.out) HD7.out).trans HX7.out)
                      clear hd8 hk8 HW7 HN7 HX7 HD7 HP
                      refine hK _ _ HX8.out (fun hC => ?_)
                      clear hK K9
                      try simp only [Act.put, List.setIfInBounds_toArray, List.set_cons_zero, List.set_cons_succ]
                      refine wpAnyL_take (i := 6) (oi := { dst := some 87, op := .binOp .neq 26 (.tmp 86) (.const (.int Go.IntKind.i64 0)) 26, type := _, pos := _, after := _, guard := none }) (v := ?_) rfl (by kernel_rfl) (by kernel_rfl) (by kernel_rfl) (fun _ _ _ h => h) (fun _ _ => Iff.rfl) hC (Or.inl ⟨by rfl, ?_⟩) HX8.out (fun hC hS => ?_)
                      rotate_left
                      · intro W9 hSw; skip; go_simp; try (with_reducible rfl)
                      try simp only [Act.put, List.setIfInBounds_toArray, List.set_cons_zero, List.set_cons_succ]
                      refine wpAnyL_done (by kernel_rfl) ?_ _
                      clear hS hC
                      go_wp2_with fail
                      go_roundw
                      case rel => exact ⟨j + 1, q, C, op, Sx, rfl, by go_num, by omega, HO.out.le (by omega), HW8.out, HN8.out, HX.out, HCQ.out⟩
                      case measure => simp [intOf] <;> omega
                    exact AllReadyL.nil
                  exact AllReadyL.nil
              · have hd3 : decide ((j : Int) < (m2 : Int)) = false := decide_eq_false (by omega)
                have HO9 := HO.out.crash ks
                have HP := Lib.hid (pcrash HW.out HO.out hj60 A3 kn c3 ks (HFAR.out _ _ HW.out).1 HKS.out.1 HKS.out.2)
                have hcr : Ds.crash ⟨S0, C, 0, false, op⟩ ks = ⟨Sx, [], 0, true, op⟩ := by rw [HX.out]; rfl
                rw [hcr] at HP HO9
                have HO9 := Lib.hid HO9
                clear hcr
                go_wp2_with fail
                refine HP.out.mono ?_
                rintro e s1 ⟨rfl, hd9, hk9⟩
                have HW9 := Lib.hid hd9
                have HN9 := Lib.hid (HN.out.prog hk9)
                clear hd9 hk9 HP HW HN
                go_upto_region 35 with (fail)
                have HW0 := Lib.hid (HW9.out.below (Below.refl _ _).drew)
                have HN0 := Lib.hid (HN9.out.kept (Below.refl _ _).drew HW9.out.lt)
                refine wp_region_L_drew (S := fun _ W => W.heap[y]? = some (.cells #[.slice (some ⟨g, 0, none⟩) 17 c8, .slice B8 0 k8] 32 (0, 0))) (by kernel_rfl) HN0.out.yb (fun hS hC => ?_)
                generalize s1.drew = v0 at *
                refine wpAnyL_take (i := 0) (oi := { dst := some 111, op := .move (.tmp 7), type := _, pos := _, after := _, guard := none }) (v := ?_) rfl (by kernel_rfl) (by kernel_rfl) (by kernel_rfl) (fun _ _ _ h => h) (fun _ _ => Iff.rfl) hC (Or.inl ⟨by rfl, ?_⟩) hS (fun hC hS => ?_)
                rotate_left
                · intro W9 hSw; skip; go_simp; try (with_reducible rfl)
                try simp only [Act.put, List.setIfInBounds_toArray, List.set_cons_zero, List.set_cons_succ]
                refine wpAnyL_take (i := 2) (oi := { dst := some 113, op := .load 32 (.tmp 13), type := _, pos := _, after := _, guard := none }) (v := ?_) rfl (by kernel_rfl) (by kernel_rfl) (by kernel_rfl) (fun _ _ _ h => h) (fun _ _ => Iff.rfl) hC (Or.inl ⟨by rfl, ?_⟩) hS (fun hC hS => ?_)
                rotate_left
                · intro W9 hSw; have q0 := (cell_of_row _ _ 0 _ _ _ hSw.choose_spec.2.2).trans rfl; have q1 := (cell_of_row _ _ 1 _ _ _ hSw.choose_spec.2.2).trans rfl; go_simp; try (with_reducible rfl)
                try simp only [Act.put, List.setIfInBounds_toArray, List.set_cons_zero, List.set_cons_succ]
                refine wpAnyL_ready (rs := [1]) (by kernel_rfl) (by simp) hC ?_
                refine AllReadyL.cons (o := { dst := some 112, op := .call { callee := .value (.func 11), args := #[.tmp 111], argTypes := #[25] }, type := _, pos := _, after := _, guard := none }) rfl (fun K9 hK => ?_) ?_
                · skip
                  go_simp
                  refine (dseize_any D Sx [] true op 0 v0 HW0.out.dk (by have := HN0.out.len; omega) (by simp)).mono ?_
                  rintro e v1 ⟨AE, nE, cE, BE, mE, kE, rfl, hs4, hc4, hb4⟩
                  have HW1 := Lib.hid (HW0.out.below hb4)
                  have HN1 := Lib.hid (HN0.out.kept hb4 HW0.out.lt)
                  have HR4 := Lib.hid (hs4.rd0 stC_len)
                  have HR5 := Lib.hid (hc4.rd0 wrC_len)
                  obtain rfl : 17 = nE := HN0.out.len.symm.trans HR4.out.1
                  obtain rfl : 0 = mE := HR5.out.1
                  clear hs4 hc4 hb4 HW0 HN0
                  refine hK _ _ HN1.out.yb (fun hC => ?_)
                  clear hK K9
                  try simp only [Act.put, List.setIfInBounds_toArray, List.set_cons_zero, List.set_cons_succ]
                  refine wpAnyL_ready (rs := [3]) (by kernel_rfl) (by simp) hC ?_
                  refine AllReadyL.cons (o := { dst := some 114, op := .call { callee := .value (.func 14), args := #[.tmp 112, .tmp 113], argTypes := #[32, 32] }, type := _, pos := _, after := _, guard := none }) rfl (fun K9 hK => ?_) ?_
                  · skip
                    go_simp
                    refine (rsame_yes AE 17 cE BE 0 kE (some ⟨g, 0, none⟩) c8 B8 k8 Sx [] v1 HR4.out HR5.out HN1.out.row ⟨rfl, fun h => absurd h (by decide)⟩ (by omega) (by omega)).mono ?_
                    rintro e v2 ⟨rfl, hb5⟩
                    have HW2 := Lib.hid (HW1.out.below hb5)
                    have HN2 := Lib.hid (HN1.out.kept hb5 HW1.out.lt)
                    clear hb5 HW1 HN1 HR4 HR5
                    refine hK _ _ HN2.out.yb (fun hC => ?_)
                    clear hK K9
                    try simp only [Act.put, List.setIfInBounds_toArray, List.set_cons_zero, List.set_cons_succ]
                    refine wpAnyL_take (i := 4) (oi := { dst := some 115, op := .move (.tmp 114), type := _, pos := _, after := _, guard := none }) (v := ?_) rfl (by kernel_rfl) (by kernel_rfl) (by kernel_rfl) (fun _ _ _ h => h) (fun _ _ => Iff.rfl) hC (Or.inl ⟨by rfl, ?_⟩) HN2.out.yb (fun hC hS => ?_)
                    rotate_left
                    · intro W9 hSw; skip; go_simp; try (with_reducible rfl)
                    try simp only [Act.put, List.setIfInBounds_toArray, List.set_cons_zero, List.set_cons_succ]
                    refine wpAnyL_take (i := 5) (oi := { dst := some 116, op := .move (.tmp 7), type := _, pos := _, after := _, guard := some (4, true) }) (v := ?_) rfl (by kernel_rfl) (by kernel_rfl) (by kernel_rfl) (fun _ _ _ h => h) (fun _ _ => Iff.rfl) hC (Or.inl ⟨by rfl, ?_⟩) HN2.out.yb (fun hC hS => ?_)
                    rotate_left
                    · intro W9 hSw; skip; go_simp; try (with_reducible rfl)
                    try simp only [Act.put, List.setIfInBounds_toArray, List.set_cons_zero, List.set_cons_succ]
                    refine wpAnyL_ready (rs := [6]) (by kernel_rfl) (by simp) hC ?_
                    refine AllReadyL.cons (o := { dst := some 117, op := .call { callee := .value (.func 23), args := #[.tmp 116], argTypes := #[25] }, type := _, pos := _, after := _, guard := some (4, true) }) rfl (fun K9 hK => ?_) ?_
                    · skip
                      go_simp
                      refine ((dk_tail HW2.out.dk rfl).1 _ (Below.refl _ _)).mono ?_
                      rintro e v3 ⟨rfl, hb5⟩
                      have HW3 := Lib.hid (HW2.out.below hb5)
                      have HN3 := Lib.hid (HN2.out.kept hb5 HW2.out.lt)
                      clear hb5 HW2 HN2
                      refine hK _ _ HN3.out.yb (fun hC => ?_)
                      clear hK K9
                      try simp only [Act.put, List.setIfInBounds_toArray, List.set_cons_zero, List.set_cons_succ]
                      refine wpAnyL_take (i := 7) (oi := { dst := some 118, op := .pick (.tmp 115) (.tmp 117) (.const (.bool false)), type := _, pos := _, after := _, guard := none }) (v := ?_) rfl (by kernel_rfl) (by kernel_rfl) (by kernel_rfl) (fun _ _ _ h => h) (fun _ _ => Iff.rfl) hC (Or.inl ⟨by rfl, ?_⟩) HN3.out.yb (fun hC hS => ?_)
                      rotate_left
                      · intro W9 hSw; skip; go_simp; try (with_reducible rfl)
                      try simp only [Act.put, List.setIfInBounds_toArray, List.set_cons_zero, List.set_cons_succ]
                      refine wpAnyL_take (i := 8) (oi := { dst := some 119, op := .move (.tmp 118), type := _, pos := _, after := _, guard := none }) (v := ?_) rfl (by kernel_rfl) (by kernel_rfl) (by kernel_rfl) (fun _ _ _ h => h) (fun _ _ => Iff.rfl) hC (Or.inl ⟨by rfl, ?_⟩) HN3.out.yb (fun hC hS => ?_)
                      rotate_left
                      · intro W9 hSw; skip; go_simp; try (with_reducible rfl)
                      try simp only [Act.put, List.setIfInBounds_toArray, List.set_cons_zero, List.set_cons_succ]
                      refine wpAnyL_ready (rs := [9]) (by kernel_rfl) (by simp) hC ?_
                      refine AllReadyL.cons (o := { dst := some 120, op := .call { callee := .value (.func 9), args := #[], argTypes := #[] }, type := _, pos := _, after := _, guard := some (8, true) }) rfl (fun K9 hK => ?_) ?_
                      · skip
                        go_simp
                        refine (awake7_any _).mono ?_
                        rintro e v4 ⟨rfl, hb5⟩
                        have HW4 := Lib.hid (HW3.out.below hb5)
                        have HN4 := Lib.hid (HN3.out.kept hb5 HW3.out.lt)
                        clear hb5 HW3 HN3
                        refine hK _ _ HN4.out.yb (fun hC => ?_)
                        clear hK K9
                        try simp only [Act.put, List.setIfInBounds_toArray, List.set_cons_zero, List.set_cons_succ]
                        refine wpAnyL_take (i := 10) (oi := { dst := some 121, op := .pick (.tmp 119) (.tmp 120) (.const (.bool false)), type := _, pos := _, after := _, guard := none }) (v := ?_) rfl (by kernel_rfl) (by kernel_rfl) (by kernel_rfl) (fun _ _ _ h => h) (fun _ _ => Iff.rfl) hC (Or.inl ⟨by rfl, ?_⟩) HN4.out.yb (fun hC hS => ?_)
                        rotate_left
                        · intro W9 hSw; skip; go_simp; try (with_reducible rfl)
                        try simp only [Act.put, List.setIfInBounds_toArray, List.set_cons_zero, List.set_cons_succ]
                        refine wpAnyL_take (i := 11) (oi := { dst := some 6, op := .assign (.tmp 121), type := _, pos := _, after := _, guard := none }) (v := ?_) rfl (by kernel_rfl) (by kernel_rfl) (by kernel_rfl) (fun _ _ _ h => h) (fun _ _ => Iff.rfl) hC (Or.inl ⟨by rfl, ?_⟩) HN4.out.yb (fun hC hS => ?_)
                        rotate_left
                        · intro W9 hSw; skip; go_simp; try (with_reducible rfl)
                        try simp only [Act.put, List.setIfInBounds_toArray, List.set_cons_zero, List.set_cons_succ]
                        refine wpAnyL_done (by kernel_rfl) ?_ _
                        go_wp2_with fail
                        go_ret
                        exact ⟨rfl, HW4.out.bel⟩
                      exact AllReadyL.nil
                    exact AllReadyL.nil
                  exact AllReadyL.nil
                exact AllReadyL.nil
end Go.Proofs.Ytiagbadnmkeokaa
