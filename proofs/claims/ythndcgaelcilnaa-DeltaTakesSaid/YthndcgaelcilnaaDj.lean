/- The document's Join over this translation. Condition: at most 100000 pieces, a base of at most 100000 bytes. -/
import Derived.Test.YthndcgaelcilnaaDv
namespace Go.Proofs.Ythndcgaelcilnaa
open Go.RowKit Vi

/-- the text that pieces make of a base, and the reason where they make none -/
def jn (B : ByteArray) : List Pc → ByteArray → ByteArray × Int
  | [], acc => (acc, 0)
  | p :: r, acc => if okP p = false then (⟨#[]⟩, 2) else if 65536 < (acc.size : Int) + p.2.2.1 then (⟨#[]⟩, 5) else if p.1 = false then jn B r (acc ++ p.2.2.2)
    else if (B.size : Int) < p.2.1 + p.2.2.1 then (⟨#[]⟩, 8) else jn B r (acc ++ B.extract p.2.1.toNat (p.2.1 + p.2.2.1).toNat)
structure JU (bx : Nat) (cs : Array Value) (w W : World) : Prop where
  box : W.heap[bx]? = some (.cells cs 26 (0, 0))
  bel : Below w.heap.size w W
theorem JU.later {bx : Nat} {cs : Array Value} {w W W' : World} (h : JU bx cs w W) (hb : Below W.heap.size W W') : JU bx cs w W' := ⟨blk_below h.box hb, h.bel.trans (hb.mono h.bel.size)⟩
theorem JU.cell {bx j : Nat} {cs : Array Value} {w W : World} {u : Value} (h : JU bx cs w W) (hj : cs[j]? = some u) : W.cell? ⟨bx, j, none⟩ = some u := (cell_of_row _ _ _ _ _ _ h.box).trans hj
set_option maxRecDepth 100000 in
set_option maxHeartbeats 4000000 in
theorem rjoin_any (B : ByteArray) (A : Option Addr) (n c : Nat) (l : List Pc) (w : World) (h : RdX pcC 4 w A n l) (hn : n ≤ 100000) (hB : B.size ≤ 100000) (Z : ByteArray) (z : Int) (hz : jn B l ⟨#[]⟩ = (Z, z)) :
    Calls Try.prog 22 #[.string B, .slice A n c] w fun e w' => e = .returned (.tuple #[.string Z, .int .i64 z]) ∧ Below w.heap.size w w' := by
  have H := Lib.hid h
  have LL := Lib.hid h.1
  have HZ0 := Lib.hid hz
  clear h hz
  have hni : (n : Int) ≤ 100000 := by omega
  have hbi : (B.size : Int) ≤ 100000 := by omega
  go_enter Try.func22, Try.ntmps22
  go_wp2_with fail
  go_loopw [6, 7] (fun s i wr => ∃ (k : Nat) (acc : ByteArray), i = .int .i64 (k : Int) ∧ s = .string acc ∧ k ≤ n ∧ acc.size ≤ 65536 ∧ jn B (l.drop k) acc = (Z, z) ∧ Below w.heap.size w wr) (fun _ i _ => n - (intOf i).toNat)
  case atStart => exact ⟨0, ⟨#[]⟩, rfl, rfl, Nat.zero_le _, Nat.zero_le _, HZ0.out, Below.refl _ _⟩
  case round =>
    obtain ⟨k, acc, rfl, rfl, hk, hac, hj, hb⟩ := hrel
    have HJ := Lib.hid hj
    have HB := Lib.hid hb
    clear hj hb
    have haci : (acc.size : Int) ≤ 65536 := by omega
    by_cases hlt : k < n
    · obtain ⟨b, off, hl, rfl, hbb, hc⟩ := H.out.at hlt
      have G := Lib.hid (show l.drop k = l[k] :: l.drop (k + 1) from List.drop_eq_getElem_cons hl)
      obtain ⟨p, hp⟩ : ∃ p, l[k] = p := ⟨_, rfl⟩
      rw [hp] at hc G
      clear hp
      obtain ⟨pc, pa, pn, po⟩ := p
      rw [G.out, jn] at HJ
      dsimp only at HJ
      have a0 : wr.cell? ⟨b, off + k * 4, none⟩ = some (.bool pc) := (HB.out.cell (p := ⟨b, _, none⟩) hbb).trans (hc 0 _ rfl)
      have a1 : wr.cell? ⟨b, off + k * 4 + 1, none⟩ = some (.int .i64 pa) := (HB.out.cell (p := ⟨b, _, none⟩) hbb).trans (hc 1 _ rfl)
      have a2 : wr.cell? ⟨b, off + k * 4 + 2, none⟩ = some (.int .i64 pn) := (HB.out.cell (p := ⟨b, _, none⟩) hbb).trans (hc 2 _ rfl)
      have a3 : wr.cell? ⟨b, off + k * 4 + 3, none⟩ = some (.string po) := (HB.out.cell (p := ⟨b, _, none⟩) hbb).trans (hc 3 _ rfl)
      clear hc
      have ST0 := Lib.hid (show JU wr.heap.size #[.bool pc, .int .i64 pa, .int .i64 pn, .string po] w (wr.alloc (.cells #[.bool pc, .int .i64 pa, .int .i64 pn, .string po] 26 (0, 0))) from
        ⟨blk_new wr _, HB.out.alloc HB.out.size _⟩)
      cases hok : okP (pc, pa, pn, po) with
      | false =>
        have HI := Lib.hid (fun W : World => dis_any pc pa pn po false W hok)
        rw [hok, if_pos rfl] at HJ
        have HF := Lib.hid (show (Value.tuple #[.string ⟨#[]⟩, .int .i64 2]) = .tuple #[.string Z, .int .i64 z] by
          have e := HJ.out
          injection e with e1 e2
          rw [← e1, ← e2])
        clear hok
        go_wp2_with fail
        refine (HI.out _).mono ?_
        rintro e w2 ⟨rfl, hb2⟩
        have ST := Lib.hid (ST0.out.later hb2)
        clear hb2
        go_wp2_with fail
        go_ret2
        exact ⟨congrArg Ending.returned HF.out, ST.out.bel⟩
      | true =>
        have HI := Lib.hid (fun W : World => dis_any pc pa pn po true W hok)
        rw [hok, if_neg (by simp)] at HJ
        obtain ⟨o1, o2, o3, o4⟩ := okP_bd hok
        dsimp only at o1 o2 o3 o4
        have O3 := Lib.hid o3
        have O4 := Lib.hid o4
        clear o3 o4 hok
        go_wp2_with fail
        refine (HI.out _).mono ?_
        rintro e w2 ⟨rfl, hb2⟩
        have ST := Lib.hid (ST0.out.later hb2)
        have k0 : w2.cell? ⟨wr.heap.size, 0, none⟩ = some (.bool pc) := ST.out.cell rfl
        have k1 : w2.cell? ⟨wr.heap.size, 1, none⟩ = some (.int .i64 pa) := ST.out.cell rfl
        have k2 : w2.cell? ⟨wr.heap.size, 2, none⟩ = some (.int .i64 pn) := ST.out.cell rfl
        have k3 : w2.cell? ⟨wr.heap.size, 3, none⟩ = some (.string po) := ST.out.cell rfl
        clear hb2 a0 a1 a2 a3
        by_cases hbig : 65536 < (acc.size : Int) + pn
        · have hd1 : decide ((65536 : Int) < (acc.size : Int) + pn) = true := decide_eq_true hbig
          rw [if_pos hbig] at HJ
          have HF := Lib.hid (show (Value.tuple #[.string ⟨#[]⟩, .int .i64 5]) = .tuple #[.string Z, .int .i64 z] by
            have e := HJ.out
            injection e with e1 e2
            rw [← e1, ← e2])
          clear hbig
          go_wp2_with fail
          go_ret2
          exact ⟨congrArg Ending.returned HF.out, ST.out.bel⟩
        · have hd1 : decide ((65536 : Int) < (acc.size : Int) + pn) = false := decide_eq_false hbig
          rw [if_neg hbig] at HJ
          cases pc with
          | false =>
            rw [if_pos rfl] at HJ
            have hps : pn = (po.size : Int) := (O4.out rfl).2
            obtain ⟨SS, hSS⟩ : ∃ SS : ByteArray, SS = acc ++ po := ⟨_, rfl⟩
            rw [← hSS] at HJ
            have hsz : SS.size ≤ 65536 := by rw [hSS, ByteArray.size_append]; omega
            have q1 : ∀ W, (Op.stringOp .add acc po).run Try.prog W = .ok (.string SS) W := fun W => by rw [hSS]; exact run_string_add_sum W _ _ (by omega)
            clear hSS hps hbig
            go_wp2_with fail
            go_roundw
            case rel => exact ⟨k + 1, SS, by go_num, rfl, by omega, hsz, HJ.out, ST.out.bel⟩
            case measure => simp [intOf] <;> omega
          | true =>
            rw [if_neg (by simp)] at HJ
            have hpa : 0 ≤ pa ∧ pa ≤ 65536 := ⟨(O3.out rfl).1, (O3.out rfl).2.1⟩
            obtain ⟨a, rfl⟩ := Int.eq_ofNat_of_zero_le hpa.1
            obtain ⟨m, rfl⟩ := Int.eq_ofNat_of_zero_le (show 0 ≤ pn by omega)
            by_cases hout : (B.size : Int) < (a : Int) + (m : Int)
            · have hd2 : decide ((B.size : Int) < (a : Int) + (m : Int)) = true := decide_eq_true hout
              rw [if_pos hout] at HJ
              have HF := Lib.hid (show (Value.tuple #[.string ⟨#[]⟩, .int .i64 8]) = .tuple #[.string Z, .int .i64 z] by
                have e := HJ.out
                injection e with e1 e2
                rw [← e1, ← e2])
              go_wp2_with fail
              go_ret2
              exact ⟨congrArg Ending.returned HF.out, ST.out.bel⟩
            · have hd2 : decide ((B.size : Int) < (a : Int) + (m : Int)) = false := decide_eq_false hout
              rw [if_neg hout, show ((a : Int)).toNat = a by omega, show ((a : Int) + (m : Int)).toNat = a + m by omega] at HJ
              obtain ⟨X, hX⟩ : ∃ X, X = B.extract a (a + m) := ⟨_, rfl⟩
              obtain ⟨SS, hSS⟩ : ∃ SS : ByteArray, SS = acc ++ X := ⟨_, rfl⟩
              rw [← hX, ← hSS] at HJ
              have hXs : X.size = m := by rw [hX, ByteArray.size_extract]; omega
              have hsl := fun W : World => run_mid B a (a + m) (by omega) (by omega) X hX W
              rw [Int.natCast_add] at hsl
              have hsz : SS.size ≤ 65536 := by rw [hSS, ByteArray.size_append, hXs]; omega
              have q1 : ∀ W, (Op.stringOp .add acc X).run Try.prog W = .ok (.string SS) W := fun W => by rw [hSS]; exact run_string_add_sum W _ _ (by omega)
              clear hSS hX hXs
              go_wp2_with fail
              go_roundw
              case rel => exact ⟨k + 1, SS, by go_num, rfl, by omega, hsz, HJ.out, ST.out.bel⟩
              case measure => simp [intOf] <;> omega
    · obtain rfl : k = n := by omega
      rw [List.drop_of_length_le (by rw [LL.out]; exact Nat.le_refl _), jn] at HJ
      have HF := Lib.hid (show (Value.tuple #[.string acc, .int .i64 0]) = .tuple #[.string Z, .int .i64 z] by
        have e := HJ.out
        injection e with e1 e2
        rw [← e1, ← e2])
      go_wp2_with fail
      go_ret2
      exact ⟨congrArg Ending.returned HF.out, HB.out⟩
end Go.Proofs.Ythndcgaelcilnaa
