/- delta.Put over this translation. Condition: pieces of at most five million bytes. -/
import Derived.Test.YthndcgaelcilnaaDu
import Derived.Test.YthndcgaelcilnaaP
import Derived.Deep.RegionHeld3
namespace Go.Proofs.Ythndcgaelcilnaa
open Go.RowKit Vi

theorem Bld.later {w w' : World} {B b : Nat} {l : List UInt8} (h : Bld w B b l) (hb : Below w.heap.size w w') : Bld w' B b l := by
  rcases h with h | h
  · exact .inl (bld_later h hb)
  · exact .inr (bld_later h hb)
structure PU (bx : Nat) (cs : Array Value) (acc : List UInt8) (w W : World) : Prop where
  box : W.heap[bx]? = some (.cells cs 26 (0, 0))
  bld : Bld W w.heap.size w.heap.size acc
  bel : Below w.heap.size w W
  gt : w.heap.size < bx
theorem PU.later {bx : Nat} {cs : Array Value} {acc : List UInt8} {w W W' : World} (h : PU bx cs acc w W) (hb : Below W.heap.size W W') : PU bx cs acc w W' := ⟨blk_below h.box hb, h.bld.later hb, h.bel.trans (hb.mono h.bel.size), h.gt⟩
theorem PU.drew {bx : Nat} {cs : Array Value} {acc : List UInt8} {w W : World} (h : PU bx cs acc w W) : PU bx cs acc w W.drew := ⟨h.box, h.bld, h.bel.drew, h.gt⟩
theorem PU.cell {bx j : Nat} {cs : Array Value} {acc : List UInt8} {w W : World} {u : Value} (h : PU bx cs acc w W) (hj : cs[j]? = some u) : W.cell? ⟨bx, j, none⟩ = some u := (cell_of_row _ _ _ _ _ _ h.box).trans hj
def dputV (l : List Pc) : Value := if l.all okP = true then .tuple #[.string ⟨(putLs l).toArray⟩, .int .i64 0] else .tuple #[.string ⟨#[]⟩, .int .i64 2]
def BldE (w : World) (B : Nat) : Prop := w.heap[B]? = some (.cells #[.pointer none, .slice none 0 0] 133 (0, 0))
theorem bstr_any (B : Nat) (l : List UInt8) (w : World) (h : Bld w B B l) (hE : l = [] → BldE w B) (hB : B ≤ w.heap.size) :
    Calls Try.prog 84 #[.pointer (some ⟨B, 0, none⟩)] w fun e w' => e = .returned (.string ⟨l.toArray⟩) ∧ Below B w w' := by
  by_cases h0 : l = []
  · subst h0
    exact (bstr_nil B _ w (hE rfl)).mono fun _ _ ⟨he, hb⟩ => ⟨he, hb.mono hB⟩
  · exact bstr_some B B l w h h0
theorem putP_ne (p : Pc) : putP p ≠ [] := by
  have e : ∀ n, put n ≠ [] := by
    intro n
    unfold put
    rw [leb]
    split <;> simp
  unfold putP
  split <;> simp [e]
set_option maxRecDepth 100000 in
set_option maxHeartbeats 4000000 in
theorem dput_any (A : Option Addr) (n c : Nat) (l : List Pc) (w : World) (h : RdX pcC 4 w A n l) (hn : n ≤ 100000) (hM : ∀ k, (l.take k).all okP = true → (putLs (l.take k)).length ≤ 5000000) :
    Calls Try.prog 19 #[.slice A n c] w fun e w' => e = .returned (dputV l) ∧ Below w.heap.size w w' := by
  have H := Lib.hid h
  have LL := Lib.hid h.1
  have HM := Lib.hid hM
  clear h hM
  have hni : (n : Int) ≤ 100000 := by omega
  have HB0 := Lib.hid (Bld.new w)
  go_enter Try.func19, Try.ntmps19
  go_wp2_with fail
  go_loopw [10] (fun i wr => ∃ (k : Nat) (acc : List UInt8), i = .int .i64 (k : Int) ∧ k ≤ n ∧ (Bld wr w.heap.size w.heap.size acc ∧ (acc = [] → BldE wr w.heap.size)) ∧ acc = putLs (l.take k) ∧ (l.take k).all okP = true ∧ Below w.heap.size w wr) (fun i _ => n - (intOf i).toNat)
  case atStart => exact ⟨0, [], rfl, Nat.zero_le _, ⟨HB0.out, fun _ => blk_new w _⟩, rfl, rfl, (Below.refl _ w).alloc (Nat.le_refl _) _⟩
  case round =>
    obtain ⟨k, acc, rfl, hk, ⟨hbld, hbe⟩, hacc, hall, hb⟩ := hrel
    have HBE := Lib.hid hbe
    clear hbe
    have HC := Lib.hid hacc
    have HL := Lib.hid hall
    have HB := Lib.hid hb
    have HD := Lib.hid hbld
    clear hacc hall hb hbld
    by_cases hlt : k < n
    · obtain ⟨b, off, hl, rfl, hbb, hc⟩ := H.out.at hlt
      have HAT := Lib.hid (all_take hl HL.out)
      have G := Lib.hid (show l.take (k + 1) = l.take k ++ [l[k]] from List.take_succ_eq_append_getElem hl)
      obtain ⟨p, hp⟩ : ∃ p, l[k] = p := ⟨_, rfl⟩
      rw [hp] at hc G HAT
      have HLT := Lib.hid (HM.out (k + 1))
      clear hp
      have HPS : Hid (putLs (l.take (k + 1)) = putLs (l.take k) ++ putP p) := by
        have e := G.out
        rw [e, putLs_snoc]; exact rfl
      have HNE := Lib.hid (show putLs (l.take (k + 1)) ≠ [] by rw [HPS.out]; simp [putP_ne])
      obtain ⟨pc, pa, pn, po⟩ := p
      have a0 : wr.cell? ⟨b, off + k * 4, none⟩ = some (.bool pc) := (HB.out.cell (p := ⟨b, _, none⟩) hbb).trans (hc 0 _ rfl)
      have a1 : wr.cell? ⟨b, off + k * 4 + 1, none⟩ = some (.int .i64 pa) := (HB.out.cell (p := ⟨b, _, none⟩) hbb).trans (hc 1 _ rfl)
      have a2 : wr.cell? ⟨b, off + k * 4 + 2, none⟩ = some (.int .i64 pn) := (HB.out.cell (p := ⟨b, _, none⟩) hbb).trans (hc 2 _ rfl)
      have a3 : wr.cell? ⟨b, off + k * 4 + 3, none⟩ = some (.string po) := (HB.out.cell (p := ⟨b, _, none⟩) hbb).trans (hc 3 _ rfl)
      have hgt : w.heap.size < wr.heap.size := by
        rcases HD.out with h | h
        all_goals
          obtain ⟨h1, v, h2, _⟩ := h
          exact lt_of_block h2
      clear hc
      have ST0 := Lib.hid (show PU wr.heap.size #[.bool pc, .int .i64 pa, .int .i64 pn, .string po] acc w (wr.alloc (.cells #[.bool pc, .int .i64 pa, .int .i64 pn, .string po] 26 (0, 0))) from
        ⟨blk_new wr _, HD.out.later ((Below.refl _ _).alloc (Nat.le_refl _) _), HB.out.alloc HB.out.size _, hgt⟩)
      cases hok : okP (pc, pa, pn, po) with
      | false =>
        have HI := Lib.hid (fun W : World => dcheck_any pc pa pn po false W hok)
        have HF := Lib.hid (show .tuple #[.string ⟨#[]⟩, .int .i64 2] = dputV l by unfold dputV; rw [if_neg (by rw [HAT.out.2 hok]; simp)])
        rw [if_neg (by simp)] at HI
        clear hok
        go_wp2_with fail
        refine (HI.out _).mono ?_
        rintro e w2 ⟨rfl, hb2⟩
        have ST := Lib.hid (ST0.out.later hb2)
        clear hb2
        go_wp2_with fail
        go_ret2
        exact ⟨congrArg Ending.returned HF.out, ST.out.bel⟩
      | true =>
        have HI := Lib.hid (fun W : World => dcheck_any pc pa pn po true W hok)
        rw [if_pos rfl] at HI
        obtain ⟨o1, o2, o3, o4⟩ := okP_bd hok
        dsimp only at o1 o2 o3 o4
        have O3 := Lib.hid o3
        have O4 := Lib.hid o4
        clear o3 o4
        have HL2 := Lib.hid (HAT.out.1 hok)
        go_wp2_with fail
        refine (HI.out _).mono ?_
        rintro e w2 ⟨rfl, hb2⟩
        have ST := ST0.out.later hb2
        have k0 : w2.cell? ⟨wr.heap.size, 0, none⟩ = some (.bool pc) := ST.cell rfl
        have k1' : w2.cell? ⟨wr.heap.size, 1, none⟩ = some (.int .i64 pa) := ST.cell rfl
        have k2 : w2.cell? ⟨wr.heap.size, 2, none⟩ = some (.int .i64 pn) := ST.cell rfl
        have k3 : w2.cell? ⟨wr.heap.size, 3, none⟩ = some (.string po) := ST.cell rfl
        clear hb2 a0 a1 a2 a3
        cases pc with
        | true =>
          have k1 := k1'
          go_wp2_with fail
          obtain ⟨o5, o6, _⟩ := (by simpa using O3.out)
          obtain ⟨N1, hN1⟩ : ∃ N1 : ByteArray, N1 = ⟨(put (2 * pn + 1).toNat).toArray⟩ := ⟨_, rfl⟩
          obtain ⟨N2, hN2⟩ : ∃ N2 : ByteArray, N2 = ⟨(put pa.toNat).toArray⟩ := ⟨_, rfl⟩
          have P1 := Lib.hid (fun W : World => putNum_any (2 * pn + 1) W (by omega))
          have P2 := Lib.hid (fun W : World => putNum_any pa W (by omega))
          rw [← hN1] at P1
          rw [← hN2] at P2
          have hsum : putP (true, pa, pn, po) = N1.data.toList ++ N2.data.toList := by unfold putP; rw [if_pos rfl, hN1, hN2]
          obtain ⟨SS, hSS⟩ : ∃ SS : ByteArray, SS = N1 ++ N2 := ⟨_, rfl⟩
          have hlen : acc.length + SS.size ≤ 10000000 := by
            have e1 := HLT.out HL2.out
            rw [HPS.out, hsum, List.length_append, List.length_append] at e1
            have e2 : acc.length = (putLs (l.take k)).length := by rw [HC.out]
            have e3 : N1.data.toList.length = N1.size := by simp
            have e4 : N2.data.toList.length = N2.size := by simp
            rw [hSS, ByteArray.size_append]
            omega
          have hq1 : N1.size + N2.size ≤ 10000000 := by rw [hSS, ByteArray.size_append] at hlen; omega
          have q1 : ∀ W, (Op.stringOp .add N1 N2).run Try.prog W = .ok (.string SS) W := fun W => by rw [hSS]; exact run_string_add_sum W _ _ (by omega)
          have HE := Lib.hid (show acc ++ SS.data.toList = putLs (l.take (k + 1)) by
            rw [HPS.out, hsum, hSS, HC.out]; simp)
          clear hok hN1 hN2 hsum hSS hq1
          have hw1 : IntKind.i64.wrap (2 * pn) = 2 * pn := IntWalk.i64_in _ (by omega)
          have hw2 : IntKind.i64.wrap (2 * pn + 1) = 2 * pn + 1 := IntWalk.i64_in _ (by omega)
          go_region_with (first
            | (go_at_call 83; (first | (with_reducible refine (P1.out _).mono ?_) | (with_reducible refine (P2.out _).mono ?_)); rintro e v ⟨rfl, hbv⟩; (first | have ST := ST.later hbv | have ST := ST.drew.later hbv); have k2 : v.cell? ⟨wr.heap.size, 2, none⟩ = some (.int .i64 pn) := ST.cell rfl; have k1 : v.cell? ⟨wr.heap.size, 1, none⟩ = some (.int .i64 pa) := ST.cell rfl)
            | (go_at_call 82; (first | (with_reducible refine (write_any w.heap.size w.heap.size acc SS _ ST.bld hlen ST.bel.size).mono ?_) | (with_reducible refine (write_any w.heap.size w.heap.size acc SS _ ST.drew.bld hlen ST.drew.bel.size).mono ?_)); rintro e v3 ⟨rfl, hbl3, hbe3⟩))
          all_goals go_wp2_with fail
          all_goals go_roundw
          all_goals first | exact ⟨k + 1, _, by go_num, by omega, ⟨hbl3, fun e => absurd (HE.out.symm.trans e) HNE.out⟩, HE.out, HL2.out, (show PU _ _ _ _ _ from by first | exact ST | exact ST.drew).bel.trans hbe3⟩ | (simp [intOf] <;> omega)
        | false =>
          have k1 := k3
          go_wp2_with fail
          obtain ⟨N1, hN1⟩ : ∃ N1 : ByteArray, N1 = ⟨(put (2 * pn).toNat).toArray⟩ := ⟨_, rfl⟩
          have P1 := Lib.hid (fun W : World => putNum_any (2 * pn) W (by omega))
          rw [← hN1] at P1
          have hsum : putP (false, pa, pn, po) = N1.data.toList ++ po.data.toList := by unfold putP; rw [if_neg (by simp), hN1]
          obtain ⟨SS, hSS⟩ : ∃ SS : ByteArray, SS = N1 ++ po := ⟨_, rfl⟩
          have hlen : acc.length + SS.size ≤ 10000000 := by
            have e1 := HLT.out HL2.out
            rw [HPS.out, hsum, List.length_append, List.length_append] at e1
            have e2 : acc.length = (putLs (l.take k)).length := by rw [HC.out]
            have e3 : N1.data.toList.length = N1.size := by simp
            have e4 : po.data.toList.length = po.size := by simp
            rw [hSS, ByteArray.size_append]
            omega
          have hq1 : N1.size + po.size ≤ 10000000 := by rw [hSS, ByteArray.size_append] at hlen; omega
          have q1 : ∀ W, (Op.stringOp .add N1 po).run Try.prog W = .ok (.string SS) W := fun W => by rw [hSS]; exact run_string_add_sum W _ _ (by omega)
          have HE := Lib.hid (show acc ++ SS.data.toList = putLs (l.take (k + 1)) by
            rw [HPS.out, hsum, hSS, HC.out]; simp)
          clear hok hN1  hsum hSS hq1
          have hw1 : IntKind.i64.wrap (2 * pn) = 2 * pn := IntWalk.i64_in _ (by omega)
          have hw2 : IntKind.i64.wrap (2 * pn + 1) = 2 * pn + 1 := IntWalk.i64_in _ (by omega)
          go_region_with (first
            | (go_at_call 83; (first | (with_reducible refine (P1.out _).mono ?_)); rintro e v ⟨rfl, hbv⟩; (first | have ST := ST.later hbv | have ST := ST.drew.later hbv); have k2 : v.cell? ⟨wr.heap.size, 2, none⟩ = some (.int .i64 pn) := ST.cell rfl; have k1 : v.cell? ⟨wr.heap.size, 3, none⟩ = some (.string po) := ST.cell rfl)
            | (go_at_call 82; (first | (with_reducible refine (write_any w.heap.size w.heap.size acc SS _ ST.bld hlen ST.bel.size).mono ?_) | (with_reducible refine (write_any w.heap.size w.heap.size acc SS _ ST.drew.bld hlen ST.drew.bel.size).mono ?_)); rintro e v3 ⟨rfl, hbl3, hbe3⟩))
          all_goals go_wp2_with fail
          all_goals go_roundw
          all_goals first | exact ⟨k + 1, _, by go_num, by omega, ⟨hbl3, fun e => absurd (HE.out.symm.trans e) HNE.out⟩, HE.out, HL2.out, (show PU _ _ _ _ _ from by first | exact ST | exact ST.drew).bel.trans hbe3⟩ | (simp [intOf] <;> omega)
    · obtain rfl : k = n := by omega
      have HF := Lib.hid (show .tuple #[.string ⟨acc.toArray⟩, .int .i64 0] = dputV l by
        have e := HL.out
        have e2 := HC.out
        rw [List.take_of_length_le (by rw [LL.out]; exact Nat.le_refl _)] at e e2
        unfold dputV
        rw [if_pos e, e2])
      go_wp2_with fail
      refine (bstr_any w.heap.size acc wr HD.out HBE.out HB.out.size).mono ?_
      rintro e w2 ⟨rfl, hb2⟩
      have HB2 := Lib.hid (HB.out.trans hb2)
      clear hb2
      go_wp2_with fail
      go_ret2
      exact ⟨congrArg Ending.returned HF.out, HB2.out⟩
end Go.Proofs.Ythndcgaelcilnaa
