/- The document's Put of layer 11 over this translation. Condition: pieces of at most five million bytes. -/
import Derived.Test.YthndcgaelcilnaaDc
import Derived.Test.YthndcgaelcilnaaSput
import Derived.BigQuiet
import Derived.IntWalk
namespace Go.Proofs.Ythndcgaelcilnaa
open Go.RowKit Vi

/-- a piece's bytes -/
def putP (p : Pc) : List UInt8 := if p.1 = true then put (2 * p.2.2.1 + 1).toNat ++ put p.2.1.toNat else put (2 * p.2.2.1).toNat ++ p.2.2.2.data.toList
def putLs (l : List Pc) : List UInt8 := l.flatMap putP
theorem putLs_snoc (l : List Pc) (p : Pc) : putLs (l ++ [p]) = putLs l ++ putP p := by unfold putLs; simp
theorem putLs_take (l : List Pc) (k : Nat) : (putLs (l.take k)).length ≤ (putLs l).length := by
  have h : putLs l = putLs (l.take k) ++ putLs (l.drop k) := by
    unfold putLs
    rw [← List.flatMap_append, List.take_append_drop]
  rw [h, List.length_append]; omega
theorem okP_bd {p : Pc} (h : okP p = true) : 1 ≤ p.2.2.1 ∧ p.2.2.1 ≤ 65536 ∧ (p.1 = true → 0 ≤ p.2.1 ∧ p.2.1 ≤ 65536 ∧ p.2.2.2.size = 0) ∧ (p.1 = false → p.2.1 = 0 ∧ p.2.2.1 = (p.2.2.2.size : Int)) := by
  unfold okP at h
  rw [Bool.and_eq_true, decide_eq_true_eq] at h
  obtain ⟨⟨h1, h2⟩, h3⟩ := h
  refine ⟨h1, h2, fun hc => ?_, fun hc => ?_⟩
  · rw [if_pos hc, decide_eq_true_eq] at h3; exact h3
  · rw [if_neg (by rw [hc]; simp), decide_eq_true_eq] at h3; exact h3
theorem all_take {l : List Pc} {k : Nat} (hk : k < l.length) (h : (l.take k).all okP = true) : (okP l[k] = true → (l.take (k + 1)).all okP = true) ∧ (okP l[k] = false → l.all okP = false) := by
  refine ⟨fun ho => ?_, fun ho => ?_⟩
  · rw [List.take_succ_eq_append_getElem hk, List.all_append, h]; simp [ho]
  · rw [List.all_eq_false]
    exact ⟨l[k], List.getElem_mem hk, by simp [ho]⟩
def putV (l : List Pc) : Value := if l.all okP = true then .tuple #[.string ⟨(putLs l).toArray⟩, .bool true] else .tuple #[.string ⟨#[]⟩, .bool false]
theorem bytes_of (l : List UInt8) : (⟨l.toArray⟩ : ByteArray).data.toList = l := rfl
theorem bytes_size (l : List UInt8) : (⟨l.toArray⟩ : ByteArray).size = l.length := by show l.toArray.size = _; simp
theorem bytes_app (l m : List UInt8) : (⟨l.toArray⟩ ++ ⟨m.toArray⟩ : ByteArray) = ⟨(l ++ m).toArray⟩ := by
  apply list_ext; simp
theorem bytes_self (o : ByteArray) : (⟨o.data.toList.toArray⟩ : ByteArray) = o := by apply list_ext; simp
set_option maxRecDepth 100000 in
set_option maxHeartbeats 4000000 in
theorem rdput_any (A : Option Addr) (n c : Nat) (l : List Pc) (w : World) (h : RdX pcC 4 w A n l) (hn : n ≤ 100000) (hM : ∀ k, (l.take k).all okP = true → (putLs (l.take k)).length ≤ 5000000) (ho : ∀ p ∈ l, p.2.2.2.size ≤ maxLen) :
    Calls Try.prog 20 #[.slice A n c] w fun e w' => e = .returned (putV l) ∧ Below w.heap.size w w' := by
  have H := Lib.hid h
  have LL := Lib.hid h.1
  have HO := Lib.hid ho
  have HM := Lib.hid hM
  clear h ho hM
  have hni : (n : Int) ≤ 100000 := by omega
  go_enter Try.func20, Try.ntmps20
  go_wp2_with fail
  go_loopw [4, 5] (fun s i wr => ∃ (k : Nat) (acc : ByteArray), i = .int .i64 (k : Int) ∧ s = .string acc ∧ k ≤ n ∧ acc = ⟨(putLs (l.take k)).toArray⟩ ∧ (l.take k).all okP = true ∧ Below w.heap.size w wr) (fun _ i _ => n - (intOf i).toNat)
  case atStart => exact ⟨0, ⟨#[]⟩, rfl, rfl, Nat.zero_le _, rfl, rfl, Below.refl _ _⟩
  case round =>
    obtain ⟨k, acc, rfl, rfl, hk, hacc, hall, hb⟩ := hrel
    have HC := Lib.hid hacc
    have HL := Lib.hid hall
    have HB := Lib.hid hb
    clear hacc hall hb
    by_cases hlt : k < n
    · obtain ⟨b, off, hl, rfl, hbb, hc⟩ := H.out.at hlt
      have HAT := Lib.hid (all_take hl HL.out)
      have G := Lib.hid (show l.take (k + 1) = l.take k ++ [l[k]] from List.take_succ_eq_append_getElem hl)
      have hos := HO.out l[k] (List.getElem_mem hl)
      obtain ⟨p, hp⟩ : ∃ p, l[k] = p := ⟨_, rfl⟩
      rw [hp] at hc G HAT hos
      have HLT := Lib.hid (HM.out (k + 1))
      clear hp
      have HPS : Hid (putLs (l.take (k + 1)) = putLs (l.take k) ++ putP p) := by
        have e := G.out
        rw [e, putLs_snoc]; exact rfl
      obtain ⟨pc, pa, pn, po⟩ := p
      have a0 : wr.cell? ⟨b, off + k * 4, none⟩ = some (.bool pc) := (HB.out.cell (p := ⟨b, _, none⟩) hbb).trans (hc 0 _ rfl)
      have a1 : wr.cell? ⟨b, off + k * 4 + 1, none⟩ = some (.int .i64 pa) := (HB.out.cell (p := ⟨b, _, none⟩) hbb).trans (hc 1 _ rfl)
      have a2 : wr.cell? ⟨b, off + k * 4 + 2, none⟩ = some (.int .i64 pn) := (HB.out.cell (p := ⟨b, _, none⟩) hbb).trans (hc 2 _ rfl)
      have a3 : wr.cell? ⟨b, off + k * 4 + 3, none⟩ = some (.string po) := (HB.out.cell (p := ⟨b, _, none⟩) hbb).trans (hc 3 _ rfl)
      clear hc
      cases hok : okP (pc, pa, pn, po) with
      | false =>
        have HI := Lib.hid (fun W : World => dis_any pc pa pn po false W hok)
        have HF := Lib.hid (show .tuple #[.string ⟨#[]⟩, .bool false] = putV l by unfold putV; rw [if_neg (by rw [HAT.out.2 hok]; simp)])
        clear hok
        go_wp2_with fail
        refine (HI.out wr).mono ?_
        rintro e w2 ⟨rfl, hb2⟩
        have HB2 := Lib.hid (HB.out.trans (hb2.mono HB.out.size))
        clear hb2
        go_wp2_with fail
        go_ret2
        exact ⟨congrArg Ending.returned HF.out, HB2.out⟩
      | true =>
        cases pc with
        | true =>
          have HI := Lib.hid (fun W : World => dis_any true pa pn po true W hok)
          obtain ⟨o1, o2, o3, o4⟩ := okP_bd hok
          dsimp only at o1 o2 o3 o4
          obtain ⟨o5, o6, _⟩ := o3 rfl
          clear o3 o4
          obtain ⟨N1, hN1⟩ : ∃ N1 : ByteArray, N1 = ⟨(put (2 * pn + 1).toNat).toArray⟩ := ⟨_, rfl⟩
          obtain ⟨N2, hN2⟩ : ∃ N2 : ByteArray, N2 = ⟨(put pa.toNat).toArray⟩ := ⟨_, rfl⟩
          have P1 := Lib.hid (fun W : World => refPutNum_any (2 * pn + 1) W (by omega))
          have P2 := Lib.hid (fun W : World => refPutNum_any pa W (by omega))
          rw [← hN1] at P1
          rw [← hN2] at P2
          have hsum : putP (true, pa, pn, po) = N1.data.toList ++ N2.data.toList := by unfold putP; rw [if_pos rfl, hN1, hN2]
          have hsz : acc.size + (N1.size + N2.size) ≤ 5000000 := by
            have e1 := HLT.out (HAT.out.1 hok)
            rw [HPS.out, hsum, List.length_append, List.length_append] at e1
            have e2 : acc.size = (putLs (l.take k)).length := by rw [HC.out, bytes_size]
            have e3 : N1.data.toList.length = N1.size := by simp
            have e4 : N2.data.toList.length = N2.size := by simp
            omega
          obtain ⟨s1, hs1⟩ : ∃ s1 : ByteArray, s1 = acc ++ N1 := ⟨_, rfl⟩
          obtain ⟨s2, hs2⟩ : ∃ s2 : ByteArray, s2 = s1 ++ N2 := ⟨_, rfl⟩
          have z1 : s1.size = acc.size + N1.size := by rw [hs1, ByteArray.size_append]
          have q1 : ∀ W, (Op.stringOp .add acc N1).run Try.prog W = .ok (.string s1) W := fun W => by rw [hs1]; exact run_string_add_sum W _ _ (by omega)
          have q2 : ∀ W, (Op.stringOp .add s1 N2).run Try.prog W = .ok (.string s2) W := fun W => by rw [hs2]; exact run_string_add_sum W _ _ (by omega)
          have HE := Lib.hid (show s2 = ⟨(putLs (l.take (k + 1))).toArray⟩ by
            rw [HPS.out, hsum, hs2, hs1, HC.out, ← bytes_app, ← bytes_app, bytes_self, bytes_self, ByteArray.append_assoc])
          have HL2 := Lib.hid (HAT.out.1 hok)
          clear hok hN1 hN2 hsum hs1 hs2 z1 hsz
          have hbw : b < wr.heap.size := Nat.lt_of_lt_of_le hbb HB.out.size
          go_wp2_with fail
          refine (HI.out wr).mono ?_
          rintro e w2 ⟨rfl, hb2⟩
          have HB2 := Lib.hid (HB.out.trans (hb2.mono HB.out.size))
          have A0 : w2.cell? ⟨b, off + k * 4, none⟩ = some (.bool true) := (hb2.cell (p := ⟨b, _, none⟩) hbw).trans a0
          have A1 : w2.cell? ⟨b, off + k * 4 + 1, none⟩ = some (.int .i64 pa) := (hb2.cell (p := ⟨b, _, none⟩) hbw).trans a1
          have A2 : w2.cell? ⟨b, off + k * 4 + 2, none⟩ = some (.int .i64 pn) := (hb2.cell (p := ⟨b, _, none⟩) hbw).trans a2
          have A3 : w2.cell? ⟨b, off + k * 4 + 3, none⟩ = some (.string po) := (hb2.cell (p := ⟨b, _, none⟩) hbw).trans a3
          clear hb2 a0 a1 a2 a3
          go_wp2_with fail
          have hw1 : IntKind.i64.wrap (2 * pn) = 2 * pn := IntWalk.i64_in _ (by omega)
          have hw2 : IntKind.i64.wrap (2 * pn + 1) = 2 * pn + 1 := IntWalk.i64_in _ (by omega)
          have r1 := fun d os => cell_regrown A1 d os
          have r2 := fun d os => cell_regrown A2 d os
          have r3 := fun d os => cell_regrown A3 d os
          refine wp_region_quiet_below (by kernel_rfl) (by kernel_rfl) ?_
          repeat (any_goals (first | go_big_quiet_step ((first | (go_at_call 85; with_reducible exact Calls.regrown_of (P1.out _)) | (go_at_call 85; with_reducible exact Calls.regrown_of (P2.out _)))) | quiet_step ((first | (go_at_call 85; with_reducible exact Calls.regrown_of (P1.out _)) | (go_at_call 85; with_reducible exact Calls.regrown_of (P2.out _))))))
          refine wpQuiet_nil ?_
          intro w3 hw3
          have hb3 := below_anyY hw3
          have HB3 := Lib.hid (HB2.out.trans (hb3.mono HB2.out.size))
          clear hw3 hb3 hw1 hw2 r1 r2 r3 A0 A1 A2 A3
          go_wp2_with fail
          go_roundw
          case rel => exact ⟨k + 1, s2, by go_num, rfl, by omega, HE.out, HL2.out, HB3.out⟩
          case measure => simp [intOf] <;> omega
        | false =>
          have HI := Lib.hid (fun W : World => dis_any false pa pn po true W hok)
          obtain ⟨o1, o2, o3, o4⟩ := okP_bd hok
          dsimp only at o1 o2 o3 o4
          clear o3 o4
          obtain ⟨N1, hN1⟩ : ∃ N1 : ByteArray, N1 = ⟨(put (2 * pn).toNat).toArray⟩ := ⟨_, rfl⟩
          have P1 := Lib.hid (fun W : World => refPutNum_any (2 * pn) W (by omega))
          rw [← hN1] at P1
          have hsum : putP (false, pa, pn, po) = N1.data.toList ++ po.data.toList := by unfold putP; rw [if_neg (by simp), hN1]
          have hsz : acc.size + (N1.size + po.size) ≤ 5000000 := by
            have e1 := HLT.out (HAT.out.1 hok)
            rw [HPS.out, hsum, List.length_append, List.length_append] at e1
            have e2 : acc.size = (putLs (l.take k)).length := by rw [HC.out, bytes_size]
            have e3 : N1.data.toList.length = N1.size := by simp
            have e4 : po.data.toList.length = po.size := by simp
            omega
          obtain ⟨s1, hs1⟩ : ∃ s1 : ByteArray, s1 = acc ++ N1 := ⟨_, rfl⟩
          obtain ⟨s2, hs2⟩ : ∃ s2 : ByteArray, s2 = s1 ++ po := ⟨_, rfl⟩
          have z1 : s1.size = acc.size + N1.size := by rw [hs1, ByteArray.size_append]
          have q1 : ∀ W, (Op.stringOp .add acc N1).run Try.prog W = .ok (.string s1) W := fun W => by rw [hs1]; exact run_string_add_sum W _ _ (by omega)
          have q2 : ∀ W, (Op.stringOp .add s1 po).run Try.prog W = .ok (.string s2) W := fun W => by rw [hs2]; exact run_string_add_sum W _ _ (by omega)
          have HE := Lib.hid (show s2 = ⟨(putLs (l.take (k + 1))).toArray⟩ by
            rw [HPS.out, hsum, hs2, hs1, HC.out, ← bytes_app, ← bytes_app, bytes_self, bytes_self, ByteArray.append_assoc])
          have HL2 := Lib.hid (HAT.out.1 hok)
          clear hok hN1 hsum hs1 hs2 z1 hsz
          have hbw : b < wr.heap.size := Nat.lt_of_lt_of_le hbb HB.out.size
          go_wp2_with fail
          refine (HI.out wr).mono ?_
          rintro e w2 ⟨rfl, hb2⟩
          have HB2 := Lib.hid (HB.out.trans (hb2.mono HB.out.size))
          have A0 : w2.cell? ⟨b, off + k * 4, none⟩ = some (.bool false) := (hb2.cell (p := ⟨b, _, none⟩) hbw).trans a0
          have A1 : w2.cell? ⟨b, off + k * 4 + 1, none⟩ = some (.int .i64 pa) := (hb2.cell (p := ⟨b, _, none⟩) hbw).trans a1
          have A2 : w2.cell? ⟨b, off + k * 4 + 2, none⟩ = some (.int .i64 pn) := (hb2.cell (p := ⟨b, _, none⟩) hbw).trans a2
          have A3 : w2.cell? ⟨b, off + k * 4 + 3, none⟩ = some (.string po) := (hb2.cell (p := ⟨b, _, none⟩) hbw).trans a3
          clear hb2 a0 a1 a2 a3
          go_wp2_with fail
          have hw1 : IntKind.i64.wrap (2 * pn) = 2 * pn := IntWalk.i64_in _ (by omega)
          have hw2 : IntKind.i64.wrap (2 * pn + 1) = 2 * pn + 1 := IntWalk.i64_in _ (by omega)
          have r1 := fun d os => cell_regrown A1 d os
          have r2 := fun d os => cell_regrown A2 d os
          have r3 := fun d os => cell_regrown A3 d os
          refine wp_region_quiet_below (by kernel_rfl) (by kernel_rfl) ?_
          repeat (any_goals (first | go_big_quiet_step ((go_at_call 85; with_reducible exact Calls.regrown_of (P1.out _))) | quiet_step ((go_at_call 85; with_reducible exact Calls.regrown_of (P1.out _)))))
          refine wpQuiet_nil ?_
          intro w3 hw3
          have hb3 := below_anyY hw3
          have HB3 := Lib.hid (HB2.out.trans (hb3.mono HB2.out.size))
          clear hw3 hb3 hw1 hw2 r1 r2 r3 A0 A1 A2 A3
          go_wp2_with fail
          go_roundw
          case rel => exact ⟨k + 1, s2, by go_num, rfl, by omega, HE.out, HL2.out, HB3.out⟩
          case measure => simp [intOf] <;> omega
    · obtain rfl : k = n := by omega
      have HF := Lib.hid (show .tuple #[.string acc, .bool true] = putV l by
        have e := HL.out
        have e2 := HC.out
        rw [List.take_of_length_le (by rw [LL.out]; exact Nat.le_refl _)] at e e2
        unfold putV
        rw [if_pos e, e2])
      go_wp2_with fail
      go_ret2
      exact ⟨congrArg Ending.returned HF.out, HB.out⟩
end Go.Proofs.Ythndcgaelcilnaa
