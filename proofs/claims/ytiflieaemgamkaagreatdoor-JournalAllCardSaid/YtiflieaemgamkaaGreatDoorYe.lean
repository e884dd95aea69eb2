/- The contracts of seat's Slot and Bare, of the statements' Noughts (128, 32) and Full, and of the document's Bare of layer 8 over this translation. Conditions: texts of at most a thousand bytes. -/
import Derived.Test.YtiflieaemgamkaaGreatDoorYp
import Derived.Test.YtiflieaemgamkaaGreatDoorQb
import Derived.Laws.Rows
import Derived.Laws.Tables
import Derived.Laws.CopyOwn
import Derived.Laws.ResultCell
import Derived.Laws.MakeOwn
import Derived.Outline
namespace Go.Proofs.YtiflieaemgamkaaGreatDoor
open Go.RowKit Vi Cm

theorem sz_list (s : ByteArray) : s.toList = [] ↔ s.size = 0 := by
  rw [ByteArray.toList_eq]
  constructor
  · intro h
    have : s.data.toList.length = 0 := by rw [h]; rfl
    simpa using this
  · intro h
    apply List.eq_nil_of_length_eq_zero
    simpa using h
theorem sz_empty (s : ByteArray) (h : s.size = 0) : s = ⟨#[]⟩ := by
  apply ba_ext
  have : s.data.toList.length = 0 := by rw [ba_len]; exact h
  rw [List.eq_nil_of_length_eq_zero this]
theorem i64_and1 (n : Int) : bits .and .i64 n 1 = n % 2 := by
  have h1 : (BitVec.ofInt 64 1).toNat = 2 ^ 1 - 1 := by decide
  have key : (BitVec.ofInt 64 n &&& BitVec.ofInt 64 1).toNat = (n % ((2 ^ 64 : Nat) : Int)).toNat % 2 ^ 1 := by
    rw [BitVec.toNat_and, BitVec.toNat_ofInt, h1, Nat.and_two_pow_sub_one_eq_mod]
  show IntKind.i64.wrap ((BitVec.ofInt 64 n &&& BitVec.ofInt 64 1).toNat : Nat) = n % 2
  rw [key, IntKind.wrap_i64]
  omega
theorem info_u8y : (Tryz.prog.info? 5).map (fun i => (i.zero, i.size, i.bytes)) = some (some (.int .u8 0), 1, 1) := by kernel_rfl
def zsY (n : Nat) : List UInt8 := List.replicate n 0
theorem made_zsY (n : Nat) : madeCells (Value.int .u8 0).cells (n * 1) = ((zsY n).map fun c => Value.int .u8 (c.toNat : Int)).toArray := by
  unfold zsY madeCells Value.cells
  apply Array.ext
  · simp
  · intro j h1 h2; simp [Nat.mod_one]
theorem make_zsY (n : Nat) (hn : n ≤ 3000000) (w : World) : (Instr.makeSlice 154 (.int .i64 (n : Int)) (.int .i64 (n : Int))).run Tryz.prog w = .ok (.slice (some ⟨w.heap.size, 0, none⟩) n n) (w.alloc (.cells ((zsY n).map fun c => Value.int .u8 (c.toNat : Int)).toArray 5)) := by
  obtain ⟨i0, hi, hz0, hz1, hz2⟩ := info_parts info_u8y
  have h := run_make (P := Tryz.prog) w 154 5 i0 (.int .u8 0) Tryz.underlying154 hi hz0 .i64 .i64 (n : Int) (n : Int) (by omega) (Int.le_refl _) (by rw [hz2]; omega) (by omega)
  rw [h, hz1]
  simp only [Int.toNat_natCast]
  rw [made_zsY]
theorem conv_zsY (n : Nat) (w : World) (cs : Array Value) (hcs : cs = ((zsY n).map fun c => Value.int .u8 (c.toNat : Int)).toArray) :
    (convert 154 9 (.slice (some ⟨w.heap.size, 0, none⟩) n n)).run Tryz.prog (w.alloc (.cells cs 5)) = .ok (.string ⟨(zsY n).toArray⟩) (w.alloc (.cells cs 5)) := by
  have hl : (zsY n).length = n := by simp [zsY]
  have h := run_convert_bytes_back (P := Tryz.prog) (w.alloc (.cells cs 5)) 154 9 5 ⟨w.heap.size, 0, none⟩ n (zsY n) Tryz.underlying154 Tryz.underlying5 Tryz.underlying9 (fun j hj => by
    rw [Addr.add_lit, Nat.zero_add, cell_of_row _ _ _ _ _ _ (MapKept.heap_alloc w (.cells cs 5)).1, hcs]
    simp [hj])
  rw [hl] at h
  exact h
theorem noughts_zs (n : Nat) : (⟨(zsY n).toArray⟩ : ByteArray) = noughts n := by
  apply ba_ext
  rw [noughts_list]
  rfl
set_option maxRecDepth 100000 in
set_option maxHeartbeats 400000 in
theorem noughts128_any (w : World) : Calls Tryz.prog 58 #[.int .i64 128] w fun e w' => e = .returned (.string (noughts 128)) ∧ Below w.heap.size w w' := by
  obtain ⟨cs, hcs⟩ : ∃ cs, cs = ((zsY 128).map fun c => Value.int .u8 (c.toNat : Int)).toArray := ⟨_, rfl⟩
  have hmk := make_zsY 128 (by omega)
  rw [← hcs] at hmk
  have hmk2 : ∀ W : World, (Instr.makeSlice 154 (.int .i64 128) (.int .i64 128)).run Tryz.prog W = .ok (.slice (some ⟨W.heap.size, 0, none⟩) 128 128) (W.alloc (.cells cs 5)) := hmk
  have hcv := conv_zsY 128 w cs hcs
  rw [noughts_zs] at hcv
  clear hcs hmk
  generalize noughts 128 = z at hcv ⊢
  have hmx : max (128 : Int) 0 = 128 := by decide
  go_enter Tryz.func58, Tryz.ntmps58
  go_wp2
  go_ret
  exact ⟨rfl, (Below.refl _ w).alloc (Nat.le_refl _) _⟩
set_option maxRecDepth 100000 in
set_option maxHeartbeats 400000 in
theorem noughts32_any (w : World) : Calls Tryz.prog 58 #[.int .i64 32] w fun e w' => e = .returned (.string (noughts 32)) ∧ Below w.heap.size w w' := by
  obtain ⟨cs, hcs⟩ : ∃ cs, cs = ((zsY 32).map fun c => Value.int .u8 (c.toNat : Int)).toArray := ⟨_, rfl⟩
  have hmk := make_zsY 32 (by omega)
  rw [← hcs] at hmk
  have hmk2 : ∀ W : World, (Instr.makeSlice 154 (.int .i64 32) (.int .i64 32)).run Tryz.prog W = .ok (.slice (some ⟨W.heap.size, 0, none⟩) 32 32) (W.alloc (.cells cs 5)) := hmk
  have hcv := conv_zsY 32 w cs hcs
  rw [noughts_zs] at hcv
  clear hcs hmk
  generalize noughts 32 = z at hcv ⊢
  have hmx : max (32 : Int) 0 = 32 := by decide
  go_enter Tryz.func58, Tryz.ntmps58
  go_wp2
  go_ret
  exact ⟨rfl, (Below.refl _ w).alloc (Nat.le_refl _) _⟩
theorem pfull_is (s : ByteArray) (hs : s.size ≤ 128) : (s ++ noughts 128).extract 0 128 = fullS s := by
  apply ba_ext
  rw [ba_upto, full_list, ba_app, noughts_list]
  have hl := ba_len s
  have e : (128 : Nat) = s.data.toList.length + (128 - s.size) := by omega
  conv => lhs; rw [e, List.take_append]
  rw [hl]
  congr 1
  · rw [List.take_of_length_le (by rw [hl]; omega)]
  · rw [show s.size + (128 - s.size) - s.size = 128 - s.size by omega, List.take_replicate]
    congr 1
    omega
theorem pfull_any (s : ByteArray) (w : World) (hs : s.size ≤ 128) :
    Calls Tryz.prog 21 #[.string s] w fun e w' => e = .returned (.string (fullS s)) ∧ Below w.heap.size w w' := by
  have HF := Lib.hid (pfull_is s hs)
  have HN := Lib.hid (fun W : World => noughts128_any W)
  have hz := noughts_size 128
  generalize noughts 128 = N at HF HN hz
  have hzi : (N.size : Int) = 128 := by omega
  have hsi : (s.size : Int) ≤ 128 := by omega
  have ha : (s ++ N).size = s.size + N.size := ByteArray.size_append
  have hb : (128 : Int) ≤ ((s ++ N).size : Int) := by omega
  have hb2 : 128 ≤ (s ++ N).size := by omega
  have hb3 : ¬ (s ++ N).size < 128 := by omega
  have HZ := Lib.hid (And.intro ha hzi)
  clear ha hz hs hzi
  have hz2 : (N.size : Int) ≤ 128 := by rw [HZ.out.2]; omega
  go_enter Tryz.func21, Tryz.ntmps21
  go_wp2_with fail
  refine (HN.out _).mono ?_
  rintro e w1 ⟨rfl, hb1⟩
  have HB := Lib.hid hb1
  clear hb1
  go_wp2
  go_ret
  exact ⟨by rw [← HF.out]; rfl, HB.out⟩
theorem trim_any (s : ByteArray) (w : World) (hs : s.size ≤ 1000000) :
    Calls Tryz.prog 227 #[.string s, .string ⟨#[0]⟩] w fun e w' => e = .returned (.string ⟨(Lib.trimB s.data.toList 0).toArray⟩) ∧ Below w.heap.size w w' :=
  (Tryz.strings_Trim_one s 0 (by decide) w (by omega)).mono fun e w' h => ⟨h.1, by
    rcases h.2 with rfl | rfl
    · exact Below.refl _ _
    · exact (Below.refl _ _).drew⟩
theorem errU (w : World) (B : Nat) (S : ByteArray) (q : Nat) (er : Int) (h : Sc w B true S q er) :
    Calls Tryz.prog 226 #[.pointer (some ⟨B, 0, none⟩)] w fun e w' => e = .returned (.int .i64 er) ∧ w = w' := err_any w B true S q er h
theorem bare_text (S t : ByteArray) (q : Nat) (e : Int) (h : Rd.text S 0 0 128 = (t, q, e)) : t.size ≤ S.size ∧ q ≤ S.size := by
  constructor
  · have h1 := Rd.fix_size S (Rd.num S 0 0 128).2.1 (Rd.num S 0 0 128).2.2 (Rd.num S 0 0 128).1
    have h2 : (Rd.text S 0 0 128).1 = (Rd.fix S (Rd.num S 0 0 128).2.1 (Rd.num S 0 0 128).2.2 (Rd.num S 0 0 128).1).1 := rfl
    rw [← h2, h] at h1
    exact h1
  · have h1 := Rd.text_le S 0 0 128 (Nat.zero_le _)
    rw [h] at h1
    exact h1
theorem rest_is (S : ByteArray) (q : Nat) (_hq : q ≤ S.size) : Rd.rest S q 0 = (S.extract q S.size, S.size, 0) := by unfold Rd.rest; rw [if_neg (by simp)]
theorem rest_er (S : ByteArray) (q : Nat) (e : Int) (he : e ≠ 0) : Rd.rest S q e = (⟨#[]⟩, q, e) := by unfold Rd.rest; rw [if_pos he]
theorem _root_.Go.RowKit.Below.below' {a w w' : World} {B : Nat} (h : Below a.heap.size a w) (k : But B w w') (hn : a.heap.size ≤ B := by first | exact Nat.le_refl _ | omega) : Below a.heap.size a w' := But.below h k hn h.size
/-- what Bare answers -/
def bareV (S : ByteArray) : Value := .tuple #[.string (if bareB S = true then bareT S else ⟨#[]⟩), .int .i64 (if bareB S = true then 0 else 3)]
def rbareV (S : ByteArray) : Value := .tuple #[.string (if bareB S = true then bareT S else ⟨#[]⟩), .bool (bareB S)]
theorem bareV_yes (S t : ByteArray) (q : Nat) (h : Rd.text S 0 0 128 = (t, q, 0)) (h1 : S.size = 128) (h2 : (S.data.toList.drop q).all (fun c => c == 0) = true) : bareB S = true ∧ bareT S = t := by
  unfold bareB bareT
  rw [h, h1]
  simp only [h2]
  simp
theorem bareB_no (S t : ByteArray) (q : Nat) (e : Int) (h : Rd.text S 0 0 128 = (t, q, e)) (h1 : ¬ (S.size = 128 ∧ e = 0 ∧ (S.data.toList.drop q).all (fun c => c == 0) = true)) : bareB S = false := by
  unfold bareB
  rw [h]
  rw [Bool.eq_false_iff]
  intro g
  simp only [Bool.and_eq_true, decide_eq_true_eq] at g
  exact h1 ⟨g.1.1, g.1.2, g.2⟩
theorem trim_yes (S : ByteArray) (q : Nat) (h : (S.data.toList.drop q).all (fun c => c == 0) = true) : (⟨(Lib.trimB (S.extract q S.size).data.toList 0).toArray⟩ : ByteArray) = ⟨#[]⟩ := by
  rw [ba_from, trim_nil _ h]
theorem trim_no (S : ByteArray) (q : Nat) (h : (S.data.toList.drop q).all (fun c => c == 0) = false) : (⟨(Lib.trimB (S.extract q S.size).data.toList 0).toArray⟩ : ByteArray).toList ≠ [] := by
  rw [ba_from]
  intro e
  rw [sz_list] at e
  apply trim_not _ h
  apply List.eq_nil_of_length_eq_zero
  have h2 : (⟨(Lib.trimB (S.data.toList.drop q) 0).toArray⟩ : ByteArray).size = (Lib.trimB (S.data.toList.drop q) 0).length := by
    show (Lib.trimB (S.data.toList.drop q) 0).toArray.size = _
    rw [List.size_toArray]
  omega
set_option maxHeartbeats 1000000 in
set_option maxRecDepth 100000 in
theorem bare_any (S : ByteArray) (w : World) (hS : S.size ≤ 1000) :
    Calls Tryz.prog 199 #[.string S] w fun e w' => e = .returned (bareV S) ∧ Below w.heap.size w w' := by
  obtain ⟨t, q, er, hR⟩ : ∃ t q er, Rd.text S 0 0 128 = (t, q, er) := ⟨_, _, _, rfl⟩
  obtain ⟨hts, hq⟩ := bare_text S t q er hR
  have HX := Lib.hid (fun (W : World) (B : Nat) (h : Sc W B true S 0 0) => textU W B S 0 0 128 (by omega) (Nat.zero_le _) h (by omega))
  have HY := Lib.hid (fun (W : World) (B : Nat) (h : Sc W B true S q er) => restU W B S q er (by omega) hq h)
  rw [hR] at HX
  dsimp only at HX
  have HS := Lib.hid hS
  by_cases he : er = 0
  · subst he
    rw [rest_is S q hq] at HY
    dsimp only at HY
    have hxs : (S.extract q S.size).size ≤ 1000 := by rw [ByteArray.size_extract]; omega
    have HT := Lib.hid (fun W : World => trim_any (S.extract q S.size) W (by omega))
    by_cases h1 : S.size = 128
    · have hd : ((S.size : Int) != 128) = false := by rw [h1]; rfl
      have hd' : ((S.size : Int) == 128) = true := by rw [h1]; rfl
      cases h2 : (S.data.toList.drop q).all (fun c => c == 0) with
      | true =>
        have hv := bareV_yes S t q hR h1 h2
        have HV := Lib.hid (show bareV S = .tuple #[.string t, .int .i64 0] by unfold bareV; rw [hv.1, hv.2]; rfl)
        rw [trim_yes S q h2] at HT
        generalize S.extract q S.size = u at HY HT
        clear hR h2 hv hts hq hS h1 hxs
        go_enter Tryz.func199, Tryz.ntmps199
        go_wp2_with fail
        refine (new_any S _).mono ?_
        rintro e w1 ⟨rfl, hs1, hb1⟩
        go_wp2_with fail
        refine (HX.out w1 _ hs1).mono ?_
        rintro e w2 ⟨rfl, hs2, hb2⟩
        have B2 := Lib.hid (hb1.below' hb2)
        clear hs1 hb1 hb2
        go_wp2_with fail
        refine (HY.out w2 _ hs2).mono ?_
        rintro e w3 ⟨rfl, hs3, hb3⟩
        have B3 := Lib.hid (B2.out.below' hb3)
        clear hs2 hb3
        go_wp2_with fail
        refine (errU w3 _ S _ _ hs3).mono ?_
        rintro e w4 ⟨rfl, rfl⟩
        clear hs3
        go_wp2_with fail
        refine (HT.out w3).mono ?_
        rintro e w5 ⟨rfl, hb5⟩
        have B5 := Lib.hid (B3.out.trans (hb5.mono B3.out.size))
        clear hb5
        go_wp2_with fail
        go_ret2
        exact ⟨by rw [HV.out]; rfl, B5.out⟩
      | false =>
        have hv := bareB_no S t q 0 hR (fun h => by rw [h2] at h; exact absurd h.2.2 (by simp))
        have HV := Lib.hid (show bareV S = .tuple #[.string ⟨#[]⟩, .int .i64 3] by unfold bareV; rw [hv]; rfl)
        have hn := trim_no S q h2
        generalize (⟨(Lib.trimB (S.extract q S.size).data.toList 0).toArray⟩ : ByteArray) = T at HT hn
        have hn2 : (T.toList == []) = false := by rw [beq_eq_false_iff_ne]; exact hn
        generalize S.extract q S.size = u at HY HT
        clear hR h2 hv hts hq hS h1 hxs
        go_enter Tryz.func199, Tryz.ntmps199
        go_wp2_with fail
        refine (new_any S _).mono ?_
        rintro e w1 ⟨rfl, hs1, hb1⟩
        go_wp2_with fail
        refine (HX.out w1 _ hs1).mono ?_
        rintro e w2 ⟨rfl, hs2, hb2⟩
        have B2 := Lib.hid (hb1.below' hb2)
        clear hs1 hb1 hb2
        go_wp2_with fail
        refine (HY.out w2 _ hs2).mono ?_
        rintro e w3 ⟨rfl, hs3, hb3⟩
        have B3 := Lib.hid (B2.out.below' hb3)
        clear hs2 hb3
        go_wp2_with fail
        refine (errU w3 _ S _ _ hs3).mono ?_
        rintro e w4 ⟨rfl, rfl⟩
        clear hs3
        go_wp2_with fail
        refine (HT.out w3).mono ?_
        rintro e w5 ⟨rfl, hb5⟩
        have B5 := Lib.hid (B3.out.trans (hb5.mono B3.out.size))
        clear hb5
        go_wp2_with fail
        go_ret2
        exact ⟨by rw [HV.out]; rfl, B5.out⟩
    · have hd : ((S.size : Int) != 128) = true := by simp; omega
      have hd' : ((S.size : Int) == 128) = false := by simp; omega
      have hv := bareB_no S t q 0 hR (fun h => h1 h.1)
      have HV := Lib.hid (show bareV S = .tuple #[.string ⟨#[]⟩, .int .i64 3] by unfold bareV; rw [hv]; rfl)
      generalize S.extract q S.size = u at HY
      clear hR hv hts hq hS h1 hxs HT
      go_enter Tryz.func199, Tryz.ntmps199
      go_wp2_with fail
      refine (new_any S _).mono ?_
      rintro e w1 ⟨rfl, hs1, hb1⟩
      go_wp2_with fail
      refine (HX.out w1 _ hs1).mono ?_
      rintro e w2 ⟨rfl, hs2, hb2⟩
      have B2 := Lib.hid (hb1.below' hb2)
      clear hs1 hb1 hb2
      go_wp2_with fail
      refine (HY.out w2 _ hs2).mono ?_
      rintro e w3 ⟨rfl, hs3, hb3⟩
      have B3 := Lib.hid (B2.out.below' hb3)
      clear hs2 hb3 hs3
      go_wp2_with fail
      go_ret2
      exact ⟨by rw [HV.out]; rfl, B3.out⟩
  · rw [rest_er S q er he] at HY
    dsimp only at HY
    have hv := bareB_no S t q er hR (fun h => he h.2.1)
    have HV := Lib.hid (show bareV S = .tuple #[.string ⟨#[]⟩, .int .i64 3] by unfold bareV; rw [hv]; rfl)
    have hn : (er != 0) = true := by simpa using he
    have hn' : (er == 0) = false := by simpa using he
    cases hd : ((S.size : Int) != 128)
    all_goals
      have hd' : ((S.size : Int) == 128) = !((S.size : Int) != 128) := by simp [bne]
      rw [hd] at hd'
      simp only [Bool.not_false, Bool.not_true] at hd'
    · clear hR hv hts hq hS he
      go_enter Tryz.func199, Tryz.ntmps199
      go_wp2_with fail
      refine (new_any S _).mono ?_
      rintro e w1 ⟨rfl, hs1, hb1⟩
      go_wp2_with fail
      refine (HX.out w1 _ hs1).mono ?_
      rintro e w2 ⟨rfl, hs2, hb2⟩
      have B2 := Lib.hid (hb1.below' hb2)
      clear hs1 hb1 hb2
      go_wp2_with fail
      refine (HY.out w2 _ hs2).mono ?_
      rintro e w3 ⟨rfl, hs3, hb3⟩
      have B3 := Lib.hid (B2.out.below' hb3)
      clear hs2 hb3
      go_wp2_with fail
      refine (errU w3 _ S _ _ hs3).mono ?_
      rintro e w4 ⟨rfl, rfl⟩
      clear hs3
      go_wp2_with fail
      go_ret2
      exact ⟨by rw [HV.out]; rfl, B3.out⟩
    · clear hR hv hts hq hS he
      go_enter Tryz.func199, Tryz.ntmps199
      go_wp2_with fail
      refine (new_any S _).mono ?_
      rintro e w1 ⟨rfl, hs1, hb1⟩
      go_wp2_with fail
      refine (HX.out w1 _ hs1).mono ?_
      rintro e w2 ⟨rfl, hs2, hb2⟩
      have B2 := Lib.hid (hb1.below' hb2)
      clear hs1 hb1 hb2
      go_wp2_with fail
      refine (HY.out w2 _ hs2).mono ?_
      rintro e w3 ⟨rfl, hs3, hb3⟩
      have B3 := Lib.hid (B2.out.below' hb3)
      clear hs2 hb3 hs3
      go_wp2_with fail
      go_ret2
      exact ⟨by rw [HV.out]; rfl, B3.out⟩
end Go.Proofs.YtiflieaemgamkaaGreatDoor
