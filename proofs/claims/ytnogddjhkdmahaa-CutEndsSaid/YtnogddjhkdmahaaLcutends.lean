/- CutEnds: where any row is cut at any level, how many keys each chunk has, and whether it is cut at a place, are the document's. No condition. -/
import Derived.Test.YtnogddjhkdmahaaRows
import Derived.Test.YtnogddjhkdmahaaJd
namespace Go.Proofs.Ytnogddjhkdmahaa.LCutEnds
open Go.RowKit Rm Jm

theorem cons_is (b x : Bool) (at_ : Int) (e : Nat) (rest : List Nat) (hx : x = ((e : Int) == at_)) : ((b || x) || (natI rest).contains at_) = (b || (natI (e :: rest)).contains at_) := by
  subst hx
  have : natI (e :: rest) = (e : Int) :: natI rest := rfl
  rw [this, List.contains_cons, Bool.or_assoc]
  have : ((e : Int) == at_) = (at_ == (e : Int)) := by rw [Bool.eq_iff_iff, beq_iff_eq, beq_iff_eq]; exact eq_comm
  rw [this]
theorem nat_cell {L : List Nat} {n : Nat} {pre rest : List Nat} {e : Nat} (h : L = pre ++ e :: rest) (hn : n = pre.length) (hk : n < (natI L).length) : (natI L)[n] = (e : Int) := by
  subst h hn
  simp [natI]
set_option maxRecDepth 100000 in
set_option maxHeartbeats 2000000 in
theorem walk (level at_ : Int) (a : Option Addr) (len cap : Nat) (ss : List ByteArray) (w : World) (hsl : StrS w a len ss) (hcap : len ≤ cap) (hz : ∀ s ∈ ss, s.size ≤ maxLen) :
    Calls Try.prog 6 #[.int .i64 level, .slice a len cap, .int .i64 at_] w fun e w' => e = .returned (.bool true) ∧ Below w.heap.size w w' := by
  have HFW := Lib.hid (few18_any a len cap ss w hsl hz)
  have HS := Lib.hid hsl
  have HL := Lib.hid hsl.1
  have HCP := Lib.hid hcap
  have HZM := Lib.hid hz
  clear hsl hz hcap
  go_enter Try.func6, Try.ntmps6
  go_wp2_with fail
  refine HFW.out.mono ?_
  rintro e w1 ⟨⟨b, rfl, hf⟩, rfl⟩
  cases b with
  | false =>
    clear hf HFW
    go_wp2_with fail
    refine (awake18 _).mono ?_
    rintro e w1 ⟨rfl, hb⟩
    have HB := Lib.hid hb
    clear hb
    go_wp2_with fail
    go_ret
    exact ⟨rfl, HB.out⟩
  | true =>
    obtain ⟨hle, hcat⟩ := hf rfl
    have hz2 : ∀ s ∈ ss, s.size < 1000000 := fun s hs => by have := cat_size ss s hs; omega
    have HRE := Lib.hid (rends_any level a len cap ss w HS.out (by omega) HCP.out hz2)
    have HCE := Lib.hid (fun (W : World) (h : Below w.heap.size w W) => cends_any level a len cap ss W (HS.out.later h) (by omega) HZM.out)
    have HCS := Lib.hid (fun (W : World) (h : Below w.heap.size w W) => csizes_any level a len cap ss W (HS.out.later h) (by omega) HZM.out)
    have HSA := Lib.hid (fun (W : World) (h : Below w.heap.size w W) => csame_any level at_ a len cap ss W (HS.out.later h) (by omega) HZM.out)
    have HLL := Lib.hid (show (cuts (hitOf level) ss).length ≤ 200 by have := cut_len (hitOf level) ss 0 0; have := HL.out; unfold cuts; omega)
    have HLE := Lib.hid (show ∀ x ∈ cuts (hitOf level) ss, x ≤ 200 from fun x hx => by have := cut_le (hitOf level) ss 0 0 x hx; have := HL.out; omega)
    clear hf HFW hcat hle hz2
    generalize cuts (hitOf level) ss = L at HRE HCE HCS HSA HLL HLE
    go_wp2_with fail
    refine HRE.out.mono ?_
    rintro e w1 ⟨v, rfl, h1, h2⟩
    have HIS := Lib.hid (IS.of_own h1)
    have H2 := Lib.hid h2
    clear HRE
    obtain ⟨av, c, hv, hint, -, -⟩ := IS.of_own h1
    rw [natI_len] at hv hint
    subst hv
    have HI := Lib.hid hint
    have hLi : (L.length : Int) ≤ 200 := by have := HLL.out; omega
    clear h1 h2 hint
    go_wp2_with fail
    go_loopw [8, 9, 10, 24] (fun v b x i wr => ∃ (pre : List Int) (done rest : List Nat) (was : Nat) (is : Bool), b = .int .i64 (was : Int) ∧ x = .bool is ∧ i = .int .i64 (done.length : Int) ∧ Hid (L = done ++ rest) ∧ Hid (pre.length = done.length) ∧ was ≤ 200 ∧ Hid (pre ++ sizes was rest = sizes 0 L) ∧ Hid ((is || (natI rest).contains at_) = isAt at_ (natI L)) ∧ OwnI wr w1.heap.size v pre ∧ Below w1.heap.size w1 wr) (fun _ _ _ i _ => L.length - (intOf i).toNat)
    case atStart => exact ⟨[], [], L, 0, at_ == 0, rfl, rfl, rfl, rfl, rfl, by omega, rfl, rfl, Own.nil _ w1 _, Below.refl _ _⟩
    case round =>
      obtain ⟨pre, done, rest, was, is, rfl, rfl, rfl, HD, HPD, hwas, HP, HX, hr, hb⟩ := hrel
      have HR := Lib.hid hr
      have HBW := Lib.hid hb
      clear hr hb
      cases rest with
      | cons e rest =>
        obtain ⟨n, hn⟩ : ∃ n, n = done.length := ⟨_, rfl⟩
        have hln : n < L.length := by rw [HD.out, List.length_append, List.length_cons]; omega
        obtain ⟨b, off, hav, hcell⟩ := HI.out.2 (by omega)
        have hnl : n < (natI L).length := by rw [natI_len]; exact hln
        have hc := (HBW.out.cell (p := ⟨b, off + n, none⟩) (World.block_lt_of_cell? w1 _ (hcell n hnl))).trans (hcell n hnl)
        rw [nat_cell HD.out hn hnl] at hc
        unfold i64v at hc
        have he : e ≤ 200 := HLE.out e (by rw [HD.out]; simp)
        obtain ⟨y, hy⟩ : ∃ y, y = ((e : Int) == at_) := ⟨_, rfl⟩
        have HY := Lib.hid (cons_is is y at_ e rest hy)
        have hyx := hy.symm
        have HD2 := Lib.hid (show L = (done ++ [e]) ++ rest by rw [HD.out]; simp)
        have HP2 := Lib.hid (show (pre ++ [(e : Int) - (was : Int)]) ++ sizes e rest = sizes 0 L by rw [← HP.out]; simp [sizes])
        have HN := Lib.hid hn
        have HPL := Lib.hid (show (pre.map i64v).length ≤ 200 by have := HPD.out; have := HLL.out; simp; omega)
        subst hav
        rw [← hn]
        clear hcell hnl hn hy
        cases is with
        | true =>
          go_wp2_with (at_builtin; refine wpList_appV rfl (.tmp 28) (.tmp 32) 37 3 (.int .i64 0) 8 rfl Try.underlying37 info_i8 rfl (by omega) w1.heap.size w1 (HBW.out.alloc HBW.out.size _) ?c1 _ (pre.map i64v) rfl (HR.out.alloc _) ⟨_, 0, none⟩ 1 1 [.int .i64 ((e : Int) - (was : Int))] rfl rfl (Lay.new _ _ _) ?c2 ?c3 ?_)
          case c1 => have := HBW.out.size; simp; omega
          case c2 => first | rfl | (intro u hu; simp at hu; subst hu; rfl)
          case c3 => have := HPL.out; simp at this ⊢; omega
          intro v2 w2 HO2 HB2 HZ2
          go_wp2_with fail
          go_roundw
          case rel => exact ⟨_, done ++ [e], rest, e, true, rfl, rfl, by rw [List.length_append, ← HN.out]; go_num, HD2.out, by rw [List.length_append, List.length_append, HPD.out]; exact rfl, he, HP2.out, by rw [← HX.out]; rfl, by unfold OwnI; rw [List.map_append]; exact HO2.out, HB2.out⟩
          case measure => simp [intOf]; omega
        | false =>
          go_wp2_with (at_builtin; refine wpList_appV rfl (.tmp 28) (.tmp 32) 37 3 (.int .i64 0) 8 rfl Try.underlying37 info_i8 rfl (by omega) w1.heap.size w1 (HBW.out.alloc HBW.out.size _) ?c1 _ (pre.map i64v) rfl (HR.out.alloc _) ⟨_, 0, none⟩ 1 1 [.int .i64 ((e : Int) - (was : Int))] rfl rfl (Lay.new _ _ _) ?c2 ?c3 ?_)
          case c1 => have := HBW.out.size; simp; omega
          case c2 => first | rfl | (intro u hu; simp at hu; subst hu; rfl)
          case c3 => have := HPL.out; simp at this ⊢; omega
          intro v2 w2 HO2 HB2 HZ2
          go_wp2_with fail
          go_roundw
          case rel => exact ⟨_, done ++ [e], rest, e, y, rfl, rfl, by rw [List.length_append, ← HN.out]; go_num, HD2.out, by rw [List.length_append, List.length_append, HPD.out]; exact rfl, he, HP2.out, by have h1 := HY.out; have h2 := HX.out; rw [Bool.false_or] at h1; exact h1.trans h2, by unfold OwnI; rw [List.map_append]; exact HO2.out, HB2.out⟩
          case measure => simp [intOf]; omega
      | nil =>
        have hn : (done.length : Int) = (L.length : Int) := by rw [HD.out]; simp
        have hpre : pre = sizes 0 L := by rw [← HP.out]; simp [sizes]
        have HSI := Lib.hid (show is = isAt at_ (natI L) by rw [← HX.out]; simp [natI])
        have hBW := H2.out.trans (HBW.out.mono H2.out.size)
        have HB0 := Lib.hid hBW
        rw [hpre] at HR
        have HR2 := Lib.hid (IS.of_own HR.out)
        have HIS2 := Lib.hid (HIS.out.later HBW.out)
        have HSL := Lib.hid (sizes_len L 0)
        clear HP HX hpre HD HPD HR hBW HIS
        go_wp2_with fail
        refine (HCE.out _ HB0.out).mono ?_
        rintro e w3 ⟨v3, rfl, h1, h2⟩
        have T1 := Lib.hid (IS.of_own h1)
        have B1 := Lib.hid (HB0.out.trans (h2.mono HB0.out.size))
        have U1 := Lib.hid (HIS2.out.later h2)
        have U2 := Lib.hid (HR2.out.later h2)
        clear h1 h2 HB0 HIS2 HR2
        go_wp2_with fail
        refine (ints_is _ _ _ w3 T1.out U1.out (by rw [natI_len]; have := HLL.out; omega)).mono ?_
        rintro e w4 ⟨rfl, hb⟩
        have B2 := Lib.hid (B1.out.trans (hb.mono B1.out.size))
        have U3 := Lib.hid (U2.out.later hb)
        clear hb T1 U1 U2 B1
        go_wp2_with fail
        refine (HCS.out _ B2.out).mono ?_
        rintro e w5 ⟨v5, rfl, h1, h2⟩
        have T2 := Lib.hid (IS.of_own h1)
        have B3 := Lib.hid (B2.out.trans (h2.mono B2.out.size))
        have U4 := Lib.hid (U3.out.later h2)
        clear h1 h2 B2 U3
        go_wp2_with fail
        refine (ints_is _ _ _ w5 T2.out U4.out (by rw [HSL.out]; have := HLL.out; omega)).mono ?_
        rintro e w6 ⟨rfl, hb⟩
        have B4 := Lib.hid (B3.out.trans (hb.mono B3.out.size))
        clear hb T2 U4 B3
        go_wp2_with fail
        refine (HSA.out _ B4.out).mono ?_
        rintro e w7 ⟨rfl, hb⟩
        have B5 := Lib.hid (B4.out.trans (hb.mono B4.out.size))
        clear hb B4
        have hq : isAt at_ (natI L) = is := HSI.out.symm
        rw [hq]
        clear hq
        go_wp2_with fail
        refine (awake18 _).mono ?_
        rintro e w8 ⟨rfl, hb⟩
        have B6 := Lib.hid (B5.out.trans (hb.mono B5.out.size))
        clear hb
        go_wp2_with fail
        go_ret
        exact ⟨rfl, B6.out⟩
end Go.Proofs.Ytnogddjhkdmahaa.LCutEnds
