/- Crash over this translation. Conditions: less than a million writes, less than a million numbers. -/
import Derived.Test.YtagenkofoacajaaDLn
namespace Go.Proofs.Ytagenkofoacajaa
open Go.RowKit Vi Go.WideMaps Go.Maps

def inC (n : Int) : List Value := [.int .i64 n]
theorem inC_len (n : Int) : (inC n).length = 1 := rfl
theorem DK.newB {D : Nat} {SS : List ByteArray} {CC : List Wr} {dn : Bool} {ops fu : Int} {w wr : World} (h : DK D SS CC dn ops fu w) (hb : Below w.heap.size w wr) {b : Nat} (q : InD D wr b) : b < w.heap.size := by
  have hD := h.lt
  refine h.new ?_
  rcases q with q | ⟨o, n, c, q⟩ | ⟨o, n, c, q⟩
  · exact .inl q
  · exact .inr (.inl ⟨o, n, c, by rw [← hb.cell (p := ⟨D, 0, none⟩) hD]; exact q⟩)
  · exact .inr (.inr ⟨o, n, c, by rw [← hb.cell (p := ⟨D, 1, none⟩) hD]; exact q⟩)
set_option maxRecDepth 100000 in
set_option maxHeartbeats 2000000 in
theorem dcrash_any (D : Nat) (SS : List ByteArray) (CC : List Wr) (dn : Bool) (ops fu : Int) (A : Option Addr) (n c : Nat) (ks : List Int) (w : World) (h : DK D SS CC dn ops fu w) (hr : RdX inC 1 w A n ks) (hk : ∀ x ∈ ks, (Lit.int .i64 x).wf = true) (hn : n ≤ maxLen) (hl : CC.length ≤ 1000000) :
    Calls Try.prog 12 #[.pointer (some ⟨D, 0, none⟩), .slice A n c] w fun e w' => e = .returned (.int .i64 0) ∧ DK D (setP (inK ks) 0 CC SS) [] true ops 0 w' ∧ Kd D w w' := by
  have hn1 : n ≤ 9223372036854775807 := Nat.le_trans hn (by decide)
  clear hn
  have HM := Lib.hid h.made
  have HD := Lib.hid h
  have HR := Lib.hid hr
  have HW := Lib.hid hk
  have hmm := fun W : World => run_makeMap (P := Try.prog) 77 W
  obtain ⟨o1, ho1⟩ : ∃ o : Obj, o = .cells #[.map (some w.heap.size)] 77 (0, 0) := ⟨_, rfl⟩
  have HB0 := Lib.hid (((Below.refl w.heap.size w).alloc (Nat.le_refl _) (.map #[] 0)).alloc (by simp) o1)
  have HM0 : Hid (((w.alloc (.map #[] 0)).alloc o1).heap[w.heap.size + 1]? = some o1) := Lib.hid (two_blk w (.map #[] 0) o1)
  have HS0 : Hid (SetI ((w.alloc (.map #[] 0)).alloc o1) w.heap.size []) := Lib.hid ((SetI.made w).kept (blk_alloc (MapKept.heap_alloc w (.map #[] 0)).1 o1 |>.trans (MapKept.heap_alloc w (.map #[] 0)).1.symm))
  clear h hr hk
  subst ho1
  go_enter Try.func12, Try.ntmps12
  go_wp2_with fail
  refine HM.out.mono ?_
  rintro e w' ⟨rfl, rfl⟩
  go_wp2_with fail
  clear hmm
  go_loopw [7, 14] (fun _ i wr => ∃ k : Nat, i = .int .i64 (k : Int) ∧ k ≤ n ∧ SetI wr w.heap.size (ks.take k) ∧ wr.heap[w.heap.size + 1]? = some (.cells #[.map (some w.heap.size)] 77 (0, 0)) ∧ Below w.heap.size w wr) (fun _ i _ => n - (intOf i).toNat)
  case atStart => exact ⟨0, rfl, Nat.zero_le _, by simpa using HS0.out, HM0.out, HB0.out⟩
  case round =>
    obtain ⟨k, rfl, hk, hs, hm, hb⟩ := hrel
    have HS := Lib.hid hs
    have HMb := Lib.hid hm
    have HB := Lib.hid hb
    clear hs hm hb
    by_cases hlt : k < n
    · have hd1 : decide ((k : Int) < (n : Int)) = true := decide_eq_true (by omega)
      have hi0 : (0 : Int) ≤ (k : Int) := by omega
      obtain ⟨b, off, hl2, rfl, hbb, hcell⟩ := (HR.out.below HB.out).at hlt
      have c0 := hcell 0 (.int .i64 ks[k]) rfl
      rw [Nat.mul_one, Nat.add_zero] at c0
      have HT := Lib.hid (show ks.take (k + 1) = ks.take k ++ [ks[k]] from List.take_succ_eq_append_getElem hl2)
      have hwf := HW.out ks[k] (List.getElem_mem hl2)
      obtain ⟨x, hx⟩ : ∃ x, x = ks[k] := ⟨_, rfl⟩
      rw [← hx] at c0 HT hwf
      obtain ⟨W2, hrun, hs2, hg2⟩ := HS.out.put x hwf (by rw [List.length_take]; unfold maxLen; omega)
      have HS2 := Lib.hid hs2
      have HB2 := Lib.hid (HB.out.grown hg2 HB.out.size (fun k e => by cases e; exact Nat.le_refl _))
      have HM2 : Hid (W2.heap[w.heap.size + 1]? = some (.cells #[.map (some w.heap.size)] 77 (0, 0))) := Lib.hid ((hg2.block _ (lt_of_block HMb.out) (fun e => by injection e with e; omega)).trans HMb.out)
      have m0 : wr.cell? ⟨w.heap.size + 1, 0, none⟩ = some (.map (some w.heap.size)) := (cell_of_row _ _ 0 _ _ _ HMb.out).trans rfl
      clear hcell hs2 hg2 hx hwf
      go_wp2_with fail
      go_roundw
      case rel => exact ⟨k + 1, by go_num, by omega, by rw [HT.out]; exact HS2.out, HM2.out, HB2.out⟩
      case measure => simp [intOf] <;> omega
    · have hd1 : decide ((k : Int) < (n : Int)) = false := decide_eq_false (by omega)
      have HE := Lib.hid (show ks.take k = ks from List.take_of_length_le (by have := HR.out.1; omega))
      have HDr := Lib.hid (HD.out.kept HB.out)
      have HSr : Hid (SetI wr w.heap.size ks) := Lib.hid (by rw [← HE.out]; exact HS.out)
      have HST := Lib.hid (dsettle_map D (w.heap.size + 1) w.heap.size ks SS CC dn ops fu wr HDr.out HMb.out HSr.out (fun q => by have := HD.out.newB HB.out q; omega) (fun q => by have := HD.out.newB HB.out q; omega) hl)
      go_wp2_with fail
      refine HST.out.mono ?_
      rintro e w1 ⟨rfl, hd, hk1⟩
      have HK1 := Lib.hid ((Kd.of_below HB.out HD.out.lt).trans hk1)
      obtain ⟨⟨sa, sn, sc, ca, cn, cc, h1, h2, h3⟩, h4⟩ := hd
      have HT := Lib.hid (dturn_any D sa sn sc ca cn cc true dn ops fu true w1 h1)
      have H1 := Lib.hid h1
      have H2 := Lib.hid h2
      have H3 := Lib.hid h3
      clear hk1 h1 h2 h3 h4
      go_wp2_with fail
      refine HT.out.mono ?_
      rintro e w2 ⟨rfl, hb, hk⟩
      have HB9 := Lib.hid hb
      have HK2 := Lib.hid hk
      have HO2 := Lib.hid (H2.out.kkD hk H1.out (by decide))
      have HO3 := Lib.hid (H3.out.kkD hk H1.out (by decide))
      clear hb hk
      go_wp2_with fail
      go_ret
      exact ⟨rfl, ⟨⟨sa, sn, sc, ca, cn, cc, HB9.out, HO2.out, HO3.out⟩, fun x hx => by cases hx⟩, HK1.out.trans (Kd.of_same HK2.out H1.out HB9.out)⟩
end Go.Proofs.Ytagenkofoacajaa
