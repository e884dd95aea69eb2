/- delta.Join over this translation. Condition: at most 100000 pieces, a base of at most 100000 bytes. -/
import Derived.Test.YthndcgaelcilnaaDj
namespace Go.Proofs.Ythndcgaelcilnaa
open Go.RowKit Vi

theorem blen_any (B b : Nat) (l : List UInt8) (w : World) (h : Bld w B b l) :
    Calls Try.prog 86 #[.pointer (some ⟨b, 0, none⟩)] w fun e w' => e = .returned (.int .i64 (l.length : Int)) ∧ Below w.heap.size w w' := by
  have hx : ∃ p A c, w.heap[b]? = some (.cells #[p, .slice A l.length c] 133 (0, 0)) := by
    rcases h with h | h
    all_goals
      obtain ⟨h1, v, h2, h3, h4⟩ := h
      rw [Lib.byteCells_length] at h3
      rcases h3.2 with ⟨rfl, h6⟩ | ⟨g, cap, cur, fz, rfl, h8, h9⟩
      · rw [h6]; exact ⟨_, _, _, h2⟩
      · exact ⟨_, _, _, h2⟩
  obtain ⟨p, A, c, hp⟩ := hx
  have c1 : w.cell? ⟨b, 1, none⟩ = some (.slice A l.length c) := by rw [Lib.cell_of_heap hp]; rfl
  clear hp h
  go_enter Try.func86, Try.ntmps86
  go_wp2_with fail
  go_ret
  exact ⟨rfl, Below.refl _ w⟩
theorem app_list (a b : ByteArray) : (a ++ b).data.toList = a.data.toList ++ b.data.toList := by simp
theorem ne_of_size (a : ByteArray) (h : 1 ≤ a.size) : a.data.toList ≠ [] := fun e => by
  have h2 : a.data.toList.length = a.size := by simp
  rw [e] at h2
  have h3 : 0 = a.size := h2
  omega
set_option maxRecDepth 100000 in
set_option maxHeartbeats 4000000 in
theorem djoin_any (B : ByteArray) (A : Option Addr) (n c : Nat) (l : List Pc) (w : World) (h : RdX pcC 4 w A n l) (hn : n ≤ 100000) (hB : B.size ≤ 100000) (Z : ByteArray) (z : Int) (hz : jn B l ⟨#[]⟩ = (Z, z)) :
    Calls Try.prog 21 #[.string B, .slice A n c] w fun e w' => e = .returned (.tuple #[.string Z, .int .i64 z]) ∧ Below w.heap.size w w' := by
  have H := Lib.hid h
  have LL := Lib.hid h.1
  have HZ0 := Lib.hid hz
  clear h hz
  have hni : (n : Int) ≤ 100000 := by omega
  have HB0 := Lib.hid (Bld.new w)
  have hbi : (B.size : Int) ≤ 100000 := by omega
  go_enter Try.func21, Try.ntmps21
  go_wp2_with fail
  go_loopw [12] (fun i wr => ∃ (k : Nat) (acc : ByteArray), i = .int .i64 (k : Int) ∧ k ≤ n ∧ (Bld wr w.heap.size w.heap.size acc.data.toList ∧ (acc.data.toList = [] → BldE wr w.heap.size)) ∧ acc.size ≤ 65536 ∧ jn B (l.drop k) acc = (Z, z) ∧ Below w.heap.size w wr) (fun i _ => n - (intOf i).toNat)
  case atStart => exact ⟨0, ⟨#[]⟩, rfl, Nat.zero_le _, ⟨HB0.out, fun _ => blk_new w _⟩, Nat.zero_le _, HZ0.out, (Below.refl _ w).alloc (Nat.le_refl _) _⟩
  case round =>
    obtain ⟨k, acc, rfl, hk, ⟨hbld, hbe⟩, hac, hj, hb⟩ := hrel
    have HD := Lib.hid hbld
    have HBE := Lib.hid hbe
    clear hbld hbe
    have hal : acc.data.toList.length = acc.size := by simp
    have HAL := Lib.hid hal
    clear hal
    have HJ := Lib.hid hj
    have HB := Lib.hid hb
    clear hj hb
    have haci : (acc.size : Int) ≤ 65536 := by omega
    by_cases hlt : k < n
    · obtain ⟨b, off, hl, rfl, hbb, hc⟩ := H.out.at hlt
      have G := Lib.hid (show l.drop k = l[k] :: l.drop (k + 1) from List.drop_eq_getElem_cons hl)
      obtain ⟨p, hp⟩ : ∃ p, l[k] = p := ⟨_, rfl⟩
      rw [hp] at hc G
      clear hp
      obtain ⟨pc, pa, pn, po⟩ := p
      rw [G.out, jn] at HJ
      dsimp only at HJ
      have a0 : wr.cell? ⟨b, off + k * 4, none⟩ = some (.bool pc) := (HB.out.cell (p := ⟨b, _, none⟩) hbb).trans (hc 0 _ rfl)
      have a1 : wr.cell? ⟨b, off + k * 4 + 1, none⟩ = some (.int .i64 pa) := (HB.out.cell (p := ⟨b, _, none⟩) hbb).trans (hc 1 _ rfl)
      have a2 : wr.cell? ⟨b, off + k * 4 + 2, none⟩ = some (.int .i64 pn) := (HB.out.cell (p := ⟨b, _, none⟩) hbb).trans (hc 2 _ rfl)
      have a3 : wr.cell? ⟨b, off + k * 4 + 3, none⟩ = some (.string po) := (HB.out.cell (p := ⟨b, _, none⟩) hbb).trans (hc 3 _ rfl)
      clear hc
      have hgt : w.heap.size < wr.heap.size := by
        rcases HD.out with h | h
        all_goals
          obtain ⟨h1, v, h2, _⟩ := h
          exact lt_of_block h2
      have ST0 := Lib.hid (show PU wr.heap.size #[.bool pc, .int .i64 pa, .int .i64 pn, .string po] acc.data.toList w (wr.alloc (.cells #[.bool pc, .int .i64 pa, .int .i64 pn, .string po] 26 (0, 0))) from
        ⟨blk_new wr _, HD.out.later ((Below.refl _ _).alloc (Nat.le_refl _) _), HB.out.alloc HB.out.size _, hgt⟩)
      cases hok : okP (pc, pa, pn, po) with
      | false =>
        have HI := Lib.hid (fun W : World => dcheck_any pc pa pn po false W hok)
        rw [if_neg (by simp)] at HI
        rw [hok, if_pos rfl] at HJ
        have HF := Lib.hid (show (Value.tuple #[.string ⟨#[]⟩, .int .i64 2]) = .tuple #[.string Z, .int .i64 z] by
          have e := HJ.out
          injection e with e1 e2
          rw [← e1, ← e2])
        clear hok
        go_wp2_with fail
        refine (HI.out _).mono ?_
        rintro e w2 ⟨rfl, hb2⟩
        have ST := Lib.hid (ST0.out.later hb2)
        clear hb2
        go_wp2_with fail
        go_ret2
        exact ⟨congrArg Ending.returned HF.out, ST.out.bel⟩
      | true =>
        have HI := Lib.hid (fun W : World => dcheck_any pc pa pn po true W hok)
        rw [if_pos rfl] at HI
        rw [hok, if_neg (by simp)] at HJ
        obtain ⟨o1, o2, o3, o4⟩ := okP_bd hok
        dsimp only at o1 o2 o3 o4
        have O3 := Lib.hid o3
        have O4 := Lib.hid o4
        clear o3 o4 hok
        go_wp2_with fail
        refine (HI.out _).mono ?_
        rintro e w2 ⟨rfl, hb2⟩
        have ST := Lib.hid (ST0.out.later hb2)
        have k2 : w2.cell? ⟨wr.heap.size, 2, none⟩ = some (.int .i64 pn) := ST.out.cell rfl
        have k2r : ∀ d os, (Sort.grow (redrawn w2 d) os).cell? ⟨wr.heap.size, 2, none⟩ = some (.int .i64 pn) := fun d os => (ST.out.later (below_regrown w2 d os)).cell rfl
        clear hb2 a0 a1 a2 a3
        have hw1 : IntKind.i64.wrap ((acc.size : Int) + pn) = (acc.size : Int) + pn := IntWalk.i64_in _ (by omega)
        have BL := Lib.hid (fun W (h : PU wr.heap.size #[.bool pc, .int .i64 pa, .int .i64 pn, .string po] acc.data.toList w W) => HAL.out ▸ blen_any w.heap.size w.heap.size acc.data.toList W h.bld)
        by_cases hbig : 65536 < (acc.size : Int) + pn
        · have hd1 : decide ((65536 : Int) < (acc.size : Int) + pn) = true := decide_eq_true hbig
          rw [if_pos hbig] at HJ
          have HF := Lib.hid (show (Value.tuple #[.string ⟨#[]⟩, .int .i64 5]) = .tuple #[.string Z, .int .i64 z] by
            have e := HJ.out
            injection e with e1 e2
            rw [← e1, ← e2])
          clear hbig
          go_wp2_with fail
          refine wp_region_quiet_below (by kernel_rfl) (by kernel_rfl) ?_
          repeat (any_goals (first | go_big_quiet_step ((go_at_call 86; exact Calls.regrown_of (BL.out _ (ST.out.later (below_anyY ⟨⟨_, _⟩, rfl⟩))))) | quiet_step ((go_at_call 86; exact Calls.regrown_of (BL.out _ (ST.out.later (below_anyY ⟨⟨_, _⟩, rfl⟩)))))))
          refine wpQuiet_nil ?_
          intro w3 hw3
          have hb3 := below_anyY hw3
          clear hw3 hw1 k2 k2r
          have ST3 := Lib.hid (ST.out.later hb3)
          have k0 : w3.cell? ⟨wr.heap.size, 0, none⟩ = some (.bool pc) := ST3.out.cell rfl
          have k1 : w3.cell? ⟨wr.heap.size, 1, none⟩ = some (.int .i64 pa) := ST3.out.cell rfl
          have k2 : w3.cell? ⟨wr.heap.size, 2, none⟩ = some (.int .i64 pn) := ST3.out.cell rfl
          have k3 : w3.cell? ⟨wr.heap.size, 3, none⟩ = some (.string po) := ST3.out.cell rfl
          clear hb3
          go_wp2_with fail
          go_ret2
          exact ⟨congrArg Ending.returned HF.out, ST3.out.bel⟩
        · have hd1 : decide ((65536 : Int) < (acc.size : Int) + pn) = false := decide_eq_false hbig
          rw [if_neg hbig] at HJ
          cases pc with
          | false =>
            rw [if_pos rfl] at HJ
            have hps : pn = (po.size : Int) := (O4.out rfl).2
            obtain ⟨SS, hSS⟩ : ∃ SS : ByteArray, SS = acc ++ po := ⟨_, rfl⟩
            rw [← hSS] at HJ
            have hsz : SS.size ≤ 65536 := by rw [hSS, ByteArray.size_append]; omega
            have HAP := Lib.hid (show SS.data.toList = acc.data.toList ++ po.data.toList by rw [hSS, app_list])
            have HNE := Lib.hid (ne_of_size SS (by rw [hSS, ByteArray.size_append]; omega))
            have hpo : po.size ≤ 65536 := by omega
            clear hSS hps hbig
            go_wp2_with fail
            refine wp_region_quiet_below (by kernel_rfl) (by kernel_rfl) ?_
            repeat (any_goals (first | go_big_quiet_step ((go_at_call 86; exact Calls.regrown_of (BL.out _ (ST.out.later (below_anyY ⟨⟨_, _⟩, rfl⟩))))) | quiet_step ((go_at_call 86; exact Calls.regrown_of (BL.out _ (ST.out.later (below_anyY ⟨⟨_, _⟩, rfl⟩)))))))
            refine wpQuiet_nil ?_
            intro w3 hw3
            have hb3 := below_anyY hw3
            clear hw3 hw1 k2 k2r
            have ST3 := Lib.hid (ST.out.later hb3)
            have k0 : w3.cell? ⟨wr.heap.size, 0, none⟩ = some (.bool false) := ST3.out.cell rfl
            have k1 : w3.cell? ⟨wr.heap.size, 1, none⟩ = some (.int .i64 pa) := ST3.out.cell rfl
            have k2 : w3.cell? ⟨wr.heap.size, 2, none⟩ = some (.int .i64 pn) := ST3.out.cell rfl
            have k3 : w3.cell? ⟨wr.heap.size, 3, none⟩ = some (.string po) := ST3.out.cell rfl
            clear hb3
            go_wp2_with fail
            refine (write_any w.heap.size w.heap.size acc.data.toList po w3 ST3.out.bld (by rw [HAL.out]; omega) ST3.out.bel.size).mono ?_
            rintro e w4 ⟨rfl, hbl, hbe⟩
            rw [← HAP.out] at hbl
            have HBL := Lib.hid hbl
            have HB4 := Lib.hid (ST3.out.bel.trans hbe)
            clear hbl hbe
            go_wp2_with fail
            go_roundw
            case rel => exact ⟨k + 1, SS, by go_num, by omega, ⟨HBL.out, fun e => absurd e HNE.out⟩, hsz, HJ.out, HB4.out⟩
            case measure => simp [intOf] <;> omega
          | true =>
            rw [if_neg (by simp)] at HJ
            have hpa : 0 ≤ pa ∧ pa ≤ 65536 := ⟨(O3.out rfl).1, (O3.out rfl).2.1⟩
            obtain ⟨a, rfl⟩ := Int.eq_ofNat_of_zero_le hpa.1
            obtain ⟨m, rfl⟩ := Int.eq_ofNat_of_zero_le (show 0 ≤ pn by omega)
            by_cases hout : (B.size : Int) < (a : Int) + (m : Int)
            · have hd2 : decide ((B.size : Int) < (a : Int) + (m : Int)) = true := decide_eq_true hout
              rw [if_pos hout] at HJ
              have HF := Lib.hid (show (Value.tuple #[.string ⟨#[]⟩, .int .i64 8]) = .tuple #[.string Z, .int .i64 z] by
                have e := HJ.out
                injection e with e1 e2
                rw [← e1, ← e2])
              clear hbig
              go_wp2_with fail
              refine wp_region_quiet_below (by kernel_rfl) (by kernel_rfl) ?_
              repeat (any_goals (first | go_big_quiet_step ((go_at_call 86; exact Calls.regrown_of (BL.out _ (ST.out.later (below_anyY ⟨⟨_, _⟩, rfl⟩))))) | quiet_step ((go_at_call 86; exact Calls.regrown_of (BL.out _ (ST.out.later (below_anyY ⟨⟨_, _⟩, rfl⟩)))))))
              refine wpQuiet_nil ?_
              intro w3 hw3
              have hb3 := below_anyY hw3
              clear hw3 hw1 k2 k2r
              have ST3 := Lib.hid (ST.out.later hb3)
              have k0 : w3.cell? ⟨wr.heap.size, 0, none⟩ = some (.bool true) := ST3.out.cell rfl
              have k1 : w3.cell? ⟨wr.heap.size, 1, none⟩ = some (.int .i64 (a : Int)) := ST3.out.cell rfl
              have k2 : w3.cell? ⟨wr.heap.size, 2, none⟩ = some (.int .i64 (m : Int)) := ST3.out.cell rfl
              have k3 : w3.cell? ⟨wr.heap.size, 3, none⟩ = some (.string po) := ST3.out.cell rfl
              clear hb3
              go_wp2_with fail
              go_ret2
              exact ⟨congrArg Ending.returned HF.out, ST3.out.bel⟩
            · have hd2 : decide ((B.size : Int) < (a : Int) + (m : Int)) = false := decide_eq_false hout
              rw [if_neg hout, show ((a : Int)).toNat = a by omega, show ((a : Int) + (m : Int)).toNat = a + m by omega] at HJ
              obtain ⟨X, hX⟩ : ∃ X, X = B.extract a (a + m) := ⟨_, rfl⟩
              obtain ⟨SS, hSS⟩ : ∃ SS : ByteArray, SS = acc ++ X := ⟨_, rfl⟩
              rw [← hX, ← hSS] at HJ
              have hXs : X.size = m := by rw [hX, ByteArray.size_extract]; omega
              have hsl := fun W : World => run_mid B a (a + m) (by omega) (by omega) X hX W
              rw [Int.natCast_add] at hsl
              have hsz : SS.size ≤ 65536 := by rw [hSS, ByteArray.size_append, hXs]; omega
              have HAP := Lib.hid (show SS.data.toList = acc.data.toList ++ X.data.toList by rw [hSS, app_list])
              have HNE := Lib.hid (ne_of_size SS (by rw [hSS, ByteArray.size_append]; omega))
              have hXl : X.size ≤ 65536 := by omega
              clear hSS hX hXs hbig
              go_wp2_with fail
              refine wp_region_quiet_below (by kernel_rfl) (by kernel_rfl) ?_
              repeat (any_goals (first | go_big_quiet_step ((go_at_call 86; exact Calls.regrown_of (BL.out _ (ST.out.later (below_anyY ⟨⟨_, _⟩, rfl⟩))))) | quiet_step ((go_at_call 86; exact Calls.regrown_of (BL.out _ (ST.out.later (below_anyY ⟨⟨_, _⟩, rfl⟩)))))))
              refine wpQuiet_nil ?_
              intro w3 hw3
              have hb3 := below_anyY hw3
              clear hw3 hw1 k2 k2r
              have ST3 := Lib.hid (ST.out.later hb3)
              have k0 : w3.cell? ⟨wr.heap.size, 0, none⟩ = some (.bool true) := ST3.out.cell rfl
              have k1 : w3.cell? ⟨wr.heap.size, 1, none⟩ = some (.int .i64 (a : Int)) := ST3.out.cell rfl
              have k2 : w3.cell? ⟨wr.heap.size, 2, none⟩ = some (.int .i64 (m : Int)) := ST3.out.cell rfl
              have k3 : w3.cell? ⟨wr.heap.size, 3, none⟩ = some (.string po) := ST3.out.cell rfl
              clear hb3
              go_wp2_with fail
              refine (write_any w.heap.size w.heap.size acc.data.toList X w3 ST3.out.bld (by rw [HAL.out]; omega) ST3.out.bel.size).mono ?_
              rintro e w4 ⟨rfl, hbl, hbe⟩
              rw [← HAP.out] at hbl
              have HBL := Lib.hid hbl
              have HB4 := Lib.hid (ST3.out.bel.trans hbe)
              clear hbl hbe
              go_wp2_with fail
              go_roundw
              case rel => exact ⟨k + 1, SS, by go_num, by omega, ⟨HBL.out, fun e => absurd e HNE.out⟩, hsz, HJ.out, HB4.out⟩
              case measure => simp [intOf] <;> omega
    · obtain rfl : k = n := by omega
      rw [List.drop_of_length_le (by rw [LL.out]; exact Nat.le_refl _), jn] at HJ
      have HF := Lib.hid (show (Value.tuple #[.string acc, .int .i64 0]) = .tuple #[.string Z, .int .i64 z] by
        have e := HJ.out
        injection e with e1 e2
        rw [← e1, ← e2])
      go_wp2_with fail
      refine (bstr_any w.heap.size acc.data.toList wr HD.out HBE.out HB.out.size).mono ?_
      rintro e w2 ⟨rfl, hb2⟩
      have HB2 := Lib.hid (HB.out.trans hb2)
      clear hb2
      rw [bytes_self]
      go_wp2_with fail
      go_ret2
      exact ⟨congrArg Ending.returned HF.out, HB2.out⟩
end Go.Proofs.Ythndcgaelcilnaa
