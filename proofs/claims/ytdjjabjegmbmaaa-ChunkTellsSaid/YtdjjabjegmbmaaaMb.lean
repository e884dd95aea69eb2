/- chunk.Check over this translation. Condition: slices of at most 2 to the 62nd. -/
import Derived.Test.YtdjjabjegmbmaaaMa
import Derived.Deep.DeepCutAuto
namespace Go.Proofs.Ytdjjabjegmbmaaa
open Go.RowKit Vi

def okE (lv : Int) (e : En) : Bool := decide (1 ≤ e.1.size ∧ e.1.size ≤ 64) && haveB lv e.2
def ordB (p : Option ByteArray) (s : ByteArray) : Bool := match p with | none => true | some k => !leS s k
/-- what is wrong with entries, behind a key -/
def entW (lv : Int) : Option ByteArray → List En → Int
  | _, [] => 0
  | p, e :: r => if okE lv e = false then 2 else if ordB p e.1 = false then 4 else entW lv (some e.1) r
def chW (lv : Int) (es : List En) (cs : List Int) : Int := if fitB lv es cs = false then 2 else entW lv none es
def prevK (es : List En) : Nat → Option ByteArray
  | 0 => none
  | k + 1 => (es[k]?).map (·.1)
theorem entW_at (lv : Int) (es : List En) (k : Nat) (h : k < es.length) : entW lv (prevK es k) (es.drop k) = if okE lv es[k] = false then 2 else if ordB (prevK es k) es[k].1 = false then 4 else entW lv (prevK es (k + 1)) (es.drop (k + 1)) := by
  rw [List.drop_eq_getElem_cons h]
  have : prevK es (k + 1) = some es[k].1 := by show (es[k]?).map (·.1) = _; rw [List.getElem?_eq_getElem h]; rfl
  rw [this]; rfl
theorem entW_end (lv : Int) (es : List En) (k : Nat) (h : es.length ≤ k) : entW lv (prevK es k) (es.drop k) = 0 := by
  rw [List.drop_eq_nil_of_le h]; cases prevK es k <;> rfl
set_option maxRecDepth 100000 in
set_option maxHeartbeats 4000000 in
theorem ccheck_any (lv : Int) (ea ca : Option Addr) (en ec cn cc : Nat) (es : List En) (cs : List Int) (w : World) (h : ChR w ea ca en cn es cs) (hn : (en : Int) ≤ 9223372036854775807) (hm : (cn : Int) ≤ 9223372036854775807) :
    Calls Try.prog 132 #[.agg #[.int .i64 lv, .slice ea en ec, .slice ca cn cc]] w fun e w' => e = .returned (.int .i64 (chW lv es cs)) ∧ Below w.heap.size w w' := by
  have H := Lib.hid h
  have LE := Lib.hid h.e.1
  have HFI := Lib.hid (fun (W : World) (g : ChR W ea ca en cn es cs) => fits_any lv ea ca en ec cn cc es cs W g hn hm)
  clear h
  cases hf : fitB lv es cs with
  | false =>
    have HV := Lib.hid (show (2 : Int) = chW lv es cs by unfold chW; rw [if_pos hf])
    rw [hf] at HFI
    clear hf
    have HB1 := Lib.hid (Below.refl w.heap.size w)
    go_enter Try.func132, Try.ntmps132
    have HF2 := Lib.hid (blk_new w (.cells #[.int .i64 lv, .slice ea en ec, .slice ca cn cc] 26 (0, 0)))
    have HB3 := Lib.hid (HB1.out.alloc HB1.out.size (.cells #[.int .i64 lv, .slice ea en ec, .slice ca cn cc] 26 (0, 0)))
    clear HB1
    have hc4 : (w.alloc (.cells #[.int .i64 lv, .slice ea en ec, .slice ca cn cc] 26 (0, 0))).cell? ⟨w.heap.size, 0, none⟩ = some (.int .i64 lv) := by rw [cell_of_row _ _ _ _ _ _ HF2.out]; rfl
    have hc5 : (w.alloc (.cells #[.int .i64 lv, .slice ea en ec, .slice ca cn cc] 26 (0, 0))).cell? ⟨w.heap.size, 1, none⟩ = some (.slice ea en ec) := by rw [cell_of_row _ _ _ _ _ _ HF2.out]; rfl
    have hc6 : (w.alloc (.cells #[.int .i64 lv, .slice ea en ec, .slice ca cn cc] 26 (0, 0))).cell? ⟨w.heap.size, 2, none⟩ = some (.slice ca cn cc) := by rw [cell_of_row _ _ _ _ _ _ HF2.out]; rfl
    go_wp2_with fail
    clear hc4 hc5 hc6
    refine (HFI.out (w.alloc (.cells #[.int .i64 lv, .slice ea en ec, .slice ca cn cc] 26 (0, 0))) (H.out.below HB3.out)).mono ?_
    rintro e w1 ⟨rfl, hb1⟩
    have HF7 := Lib.hid (blk_below HF2.out hb1)
    have HB8 := Lib.hid (HB3.out.trans (hb1.mono HB3.out.size))
    clear hb1 HB3 HF2
    have hc9 : w1.cell? ⟨w.heap.size, 0, none⟩ = some (.int .i64 lv) := by rw [cell_of_row _ _ _ _ _ _ HF7.out]; rfl
    have hc10 : w1.cell? ⟨w.heap.size, 1, none⟩ = some (.slice ea en ec) := by rw [cell_of_row _ _ _ _ _ _ HF7.out]; rfl
    have hc11 : w1.cell? ⟨w.heap.size, 2, none⟩ = some (.slice ca cn cc) := by rw [cell_of_row _ _ _ _ _ _ HF7.out]; rfl
    go_wp2_with fail
    clear hc9 hc10 hc11
    go_ret
    exact ⟨by first | (rw [← HV.out]; done) | (rw [← HV.out]; rfl), HB8.out⟩
  | true =>
    have HV := Lib.hid (show entW lv none es = chW lv es cs by unfold chW; rw [if_neg (by rw [hf]; simp)])
    rw [hf] at HFI
    clear hf
    have HB1 := Lib.hid (Below.refl w.heap.size w)
    go_enter Try.func132, Try.ntmps132
    have HF2 := Lib.hid (blk_new w (.cells #[.int .i64 lv, .slice ea en ec, .slice ca cn cc] 26 (0, 0)))
    have HB3 := Lib.hid (HB1.out.alloc HB1.out.size (.cells #[.int .i64 lv, .slice ea en ec, .slice ca cn cc] 26 (0, 0)))
    clear HB1
    have hc4 : (w.alloc (.cells #[.int .i64 lv, .slice ea en ec, .slice ca cn cc] 26 (0, 0))).cell? ⟨w.heap.size, 0, none⟩ = some (.int .i64 lv) := by rw [cell_of_row _ _ _ _ _ _ HF2.out]; rfl
    have hc5 : (w.alloc (.cells #[.int .i64 lv, .slice ea en ec, .slice ca cn cc] 26 (0, 0))).cell? ⟨w.heap.size, 1, none⟩ = some (.slice ea en ec) := by rw [cell_of_row _ _ _ _ _ _ HF2.out]; rfl
    have hc6 : (w.alloc (.cells #[.int .i64 lv, .slice ea en ec, .slice ca cn cc] 26 (0, 0))).cell? ⟨w.heap.size, 2, none⟩ = some (.slice ca cn cc) := by rw [cell_of_row _ _ _ _ _ _ HF2.out]; rfl
    go_wp2_with fail
    clear hc4 hc5 hc6
    refine (HFI.out (w.alloc (.cells #[.int .i64 lv, .slice ea en ec, .slice ca cn cc] 26 (0, 0))) (H.out.below HB3.out)).mono ?_
    rintro e w1 ⟨rfl, hb1⟩
    have HF7 := Lib.hid (blk_below HF2.out hb1)
    have HB8 := Lib.hid (HB3.out.trans (hb1.mono HB3.out.size))
    clear hb1 HB3 HF2
    have hc9 : w1.cell? ⟨w.heap.size, 0, none⟩ = some (.int .i64 lv) := by rw [cell_of_row _ _ _ _ _ _ HF7.out]; rfl
    have hc10 : w1.cell? ⟨w.heap.size, 1, none⟩ = some (.slice ea en ec) := by rw [cell_of_row _ _ _ _ _ _ HF7.out]; rfl
    have hc11 : w1.cell? ⟨w.heap.size, 2, none⟩ = some (.slice ca cn cc) := by rw [cell_of_row _ _ _ _ _ _ HF7.out]; rfl
    go_wp2_with fail
    clear hc9 hc10 hc11
    have hsz0 : w.heap.size < w1.heap.size := lt_of_block HF7.out
    go_loopw [11] (fun i wr => ∃ k : Nat, i = .int .i64 (k : Int) ∧ k ≤ en ∧ entW lv (prevK es k) (es.drop k) = entW lv none es ∧ wr.heap[w.heap.size]? = some (.cells #[.int .i64 lv, .slice ea en ec, .slice ca cn cc] 26 (0, 0)) ∧ Below w.heap.size w wr) (fun i _ => en - (intOf i).toNat)
    case atStart => exact ⟨0, rfl, Nat.zero_le _, rfl, HF7.out, HB8.out⟩
    case round =>
      obtain ⟨k, rfl, hk, hs, hbx, hb⟩ := hrel
      have HS := Lib.hid hs
      have HC := Lib.hid hbx
      have HB := Lib.hid hb
      have hCl := lt_of_block hbx
      clear hs hbx hb hsz0
      by_cases hlt : k < en
      · have hd1 : decide ((k : Int) < (en : Int)) = true := decide_eq_true (by omega)
        have RE := Lib.hid (H.out.below HB.out).e
        obtain ⟨b, off, hl, rfl, hbb, hc⟩ := RE.out.at hlt
        have HA := Lib.hid (entW_at lv es k hl)
        obtain ⟨x, hx⟩ : ∃ x, es[k] = x := ⟨_, rfl⟩
        rw [hx] at hc HA
        obtain ⟨s, v⟩ := x
        have a0 : wr.cell? ⟨b, off + k * 2, none⟩ = some (.string s) := hc 0 _ rfl
        have a1 : wr.cell? ⟨b, off + k * 2 + 1, none⟩ = some (.string v) := hc 1 _ rfl
        clear hc hx
        have HHV := Lib.hid (fun W : World => have_any lv v W)
        by_cases h1 : s.size < 1
        · have d1 : decide ((s.size : Int) < 1) = true := decide_eq_true (by omega)
          have HR := Lib.hid (show (2 : Int) = chW lv es cs by rw [← HV.out, ← HS.out, HA.out, if_pos (by unfold okE; rw [decide_eq_false (show ¬ (1 ≤ s.size ∧ s.size ≤ 64) by omega)]; rfl)])
          have HF101 := Lib.hid (blk_alloc HC.out (.cells #[.string s, .string v] 36 (0, 0)))
          have HF102 := Lib.hid (blk_new wr (.cells #[.string s, .string v] 36 (0, 0)))
          have HB103 := Lib.hid (HB.out.alloc HB.out.size (.cells #[.string s, .string v] 36 (0, 0)))
          clear HB
          have hc104 : (wr.alloc (.cells #[.string s, .string v] 36 (0, 0))).cell? ⟨w.heap.size, 0, none⟩ = some (.int .i64 lv) := by rw [cell_of_row _ _ _ _ _ _ HF101.out]; rfl
          have hc105 : wr.cell? ⟨w.heap.size, 0, none⟩ = some (.int .i64 lv) := by rw [cell_of_row _ _ _ _ _ _ HC.out]; rfl
          have hc106 : (wr.alloc (.cells #[.string s, .string v] 36 (0, 0))).cell? ⟨w.heap.size, 1, none⟩ = some (.slice (some ⟨b, off, none⟩) en ec) := by rw [cell_of_row _ _ _ _ _ _ HF101.out]; rfl
          have hc107 : wr.cell? ⟨w.heap.size, 1, none⟩ = some (.slice (some ⟨b, off, none⟩) en ec) := by rw [cell_of_row _ _ _ _ _ _ HC.out]; rfl
          have hc108 : (wr.alloc (.cells #[.string s, .string v] 36 (0, 0))).cell? ⟨w.heap.size, 2, none⟩ = some (.slice ca cn cc) := by rw [cell_of_row _ _ _ _ _ _ HF101.out]; rfl
          have hc109 : wr.cell? ⟨w.heap.size, 2, none⟩ = some (.slice ca cn cc) := by rw [cell_of_row _ _ _ _ _ _ HC.out]; rfl
          have hl110 : w.heap.size < wr.heap.size := lt_of_block HC.out
          have hl111 : ¬ w.heap.size = wr.heap.size := by omega
          have hc112 : (wr.alloc (.cells #[.string s, .string v] 36 (0, 0))).cell? ⟨wr.heap.size, 0, none⟩ = some (.string s) := by rw [cell_of_row _ _ _ _ _ _ HF102.out]; rfl
          have hc113 : (wr.alloc (.cells #[.string s, .string v] 36 (0, 0))).cell? ⟨wr.heap.size, 1, none⟩ = some (.string v) := by rw [cell_of_row _ _ _ _ _ _ HF102.out]; rfl
          go_wp2_with fail
          go_ret
          exact ⟨by first | (rw [← HR.out]; done) | (rw [← HR.out]; rfl), HB103.out⟩
        have d1 : decide ((s.size : Int) < 1) = false := decide_eq_false (by omega)
        by_cases h2 : 64 < s.size
        · have d2 : decide ((64 : Int) < (s.size : Int)) = true := decide_eq_true (by omega)
          have HR := Lib.hid (show (2 : Int) = chW lv es cs by rw [← HV.out, ← HS.out, HA.out, if_pos (by unfold okE; rw [decide_eq_false (show ¬ (1 ≤ s.size ∧ s.size ≤ 64) by omega)]; rfl)])
          have HF101 := Lib.hid (blk_alloc HC.out (.cells #[.string s, .string v] 36 (0, 0)))
          have HF102 := Lib.hid (blk_new wr (.cells #[.string s, .string v] 36 (0, 0)))
          have HB103 := Lib.hid (HB.out.alloc HB.out.size (.cells #[.string s, .string v] 36 (0, 0)))
          clear HB
          have hc104 : (wr.alloc (.cells #[.string s, .string v] 36 (0, 0))).cell? ⟨w.heap.size, 0, none⟩ = some (.int .i64 lv) := by rw [cell_of_row _ _ _ _ _ _ HF101.out]; rfl
          have hc105 : wr.cell? ⟨w.heap.size, 0, none⟩ = some (.int .i64 lv) := by rw [cell_of_row _ _ _ _ _ _ HC.out]; rfl
          have hc106 : (wr.alloc (.cells #[.string s, .string v] 36 (0, 0))).cell? ⟨w.heap.size, 1, none⟩ = some (.slice (some ⟨b, off, none⟩) en ec) := by rw [cell_of_row _ _ _ _ _ _ HF101.out]; rfl
          have hc107 : wr.cell? ⟨w.heap.size, 1, none⟩ = some (.slice (some ⟨b, off, none⟩) en ec) := by rw [cell_of_row _ _ _ _ _ _ HC.out]; rfl
          have hc108 : (wr.alloc (.cells #[.string s, .string v] 36 (0, 0))).cell? ⟨w.heap.size, 2, none⟩ = some (.slice ca cn cc) := by rw [cell_of_row _ _ _ _ _ _ HF101.out]; rfl
          have hc109 : wr.cell? ⟨w.heap.size, 2, none⟩ = some (.slice ca cn cc) := by rw [cell_of_row _ _ _ _ _ _ HC.out]; rfl
          have hl110 : w.heap.size < wr.heap.size := lt_of_block HC.out
          have hl111 : ¬ w.heap.size = wr.heap.size := by omega
          have hc112 : (wr.alloc (.cells #[.string s, .string v] 36 (0, 0))).cell? ⟨wr.heap.size, 0, none⟩ = some (.string s) := by rw [cell_of_row _ _ _ _ _ _ HF102.out]; rfl
          have hc113 : (wr.alloc (.cells #[.string s, .string v] 36 (0, 0))).cell? ⟨wr.heap.size, 1, none⟩ = some (.string v) := by rw [cell_of_row _ _ _ _ _ _ HF102.out]; rfl
          go_wp2_with fail
          go_ret
          exact ⟨by first | (rw [← HR.out]; done) | (rw [← HR.out]; rfl), HB103.out⟩
        have d2 : decide ((64 : Int) < (s.size : Int)) = false := decide_eq_false (by omega)
        cases hh : haveB lv v with
        | false =>
          have HR := Lib.hid (show (2 : Int) = chW lv es cs by rw [← HV.out, ← HS.out, HA.out, if_pos (by unfold okE; rw [hh, Bool.and_false])])
          rw [hh] at HHV
          clear hh
          have HF101 := Lib.hid (blk_alloc HC.out (.cells #[.string s, .string v] 36 (0, 0)))
          have HF102 := Lib.hid (blk_new wr (.cells #[.string s, .string v] 36 (0, 0)))
          have HB103 := Lib.hid (HB.out.alloc HB.out.size (.cells #[.string s, .string v] 36 (0, 0)))
          clear HB
          have hc104 : (wr.alloc (.cells #[.string s, .string v] 36 (0, 0))).cell? ⟨w.heap.size, 0, none⟩ = some (.int .i64 lv) := by rw [cell_of_row _ _ _ _ _ _ HF101.out]; rfl
          have hc105 : wr.cell? ⟨w.heap.size, 0, none⟩ = some (.int .i64 lv) := by rw [cell_of_row _ _ _ _ _ _ HC.out]; rfl
          have hc106 : (wr.alloc (.cells #[.string s, .string v] 36 (0, 0))).cell? ⟨w.heap.size, 1, none⟩ = some (.slice (some ⟨b, off, none⟩) en ec) := by rw [cell_of_row _ _ _ _ _ _ HF101.out]; rfl
          have hc107 : wr.cell? ⟨w.heap.size, 1, none⟩ = some (.slice (some ⟨b, off, none⟩) en ec) := by rw [cell_of_row _ _ _ _ _ _ HC.out]; rfl
          have hc108 : (wr.alloc (.cells #[.string s, .string v] 36 (0, 0))).cell? ⟨w.heap.size, 2, none⟩ = some (.slice ca cn cc) := by rw [cell_of_row _ _ _ _ _ _ HF101.out]; rfl
          have hc109 : wr.cell? ⟨w.heap.size, 2, none⟩ = some (.slice ca cn cc) := by rw [cell_of_row _ _ _ _ _ _ HC.out]; rfl
          have hl110 : w.heap.size < wr.heap.size := lt_of_block HC.out
          have hl111 : ¬ w.heap.size = wr.heap.size := by omega
          have hc112 : (wr.alloc (.cells #[.string s, .string v] 36 (0, 0))).cell? ⟨wr.heap.size, 0, none⟩ = some (.string s) := by rw [cell_of_row _ _ _ _ _ _ HF102.out]; rfl
          have hc113 : (wr.alloc (.cells #[.string s, .string v] 36 (0, 0))).cell? ⟨wr.heap.size, 1, none⟩ = some (.string v) := by rw [cell_of_row _ _ _ _ _ _ HF102.out]; rfl
          go_wp2_with fail
          refine (HHV.out _).mono ?_
          rintro e w' ⟨rfl, rfl⟩
          go_wp2_with fail
          go_ret
          exact ⟨by first | (rw [← HR.out]; done) | (rw [← HR.out]; rfl), HB103.out⟩
        | true =>
          have HOK : Hid (okE lv (s, v) = true) := Lib.hid (by unfold okE; rw [hh, decide_eq_true (show 1 ≤ s.size ∧ s.size ≤ 64 by omega)]; rfl)
          rw [hh] at HHV
          clear hh
          rcases Nat.eq_zero_or_pos k with h0 | hpos
          · subst h0
            have HR := Lib.hid (show entW lv (prevK es (0 + 1)) (es.drop (0 + 1)) = entW lv none es by rw [← HS.out, HA.out, if_neg (by rw [HOK.out]; simp), if_neg (by simp [prevK, ordB])])
            have a0' : wr.cell? ⟨b, off, none⟩ = some (.string s) := by simpa using a0
            have a1' : wr.cell? ⟨b, off + 1, none⟩ = some (.string v) := by simpa using a1
            have HF101 := Lib.hid (blk_alloc HC.out (.cells #[.string s, .string v] 36 (0, 0)))
            have HF102 := Lib.hid (blk_new wr (.cells #[.string s, .string v] 36 (0, 0)))
            have HB103 := Lib.hid (HB.out.alloc HB.out.size (.cells #[.string s, .string v] 36 (0, 0)))
            clear HB
            have hc104 : (wr.alloc (.cells #[.string s, .string v] 36 (0, 0))).cell? ⟨w.heap.size, 0, none⟩ = some (.int .i64 lv) := by rw [cell_of_row _ _ _ _ _ _ HF101.out]; rfl
            have hc105 : wr.cell? ⟨w.heap.size, 0, none⟩ = some (.int .i64 lv) := by rw [cell_of_row _ _ _ _ _ _ HC.out]; rfl
            have hc106 : (wr.alloc (.cells #[.string s, .string v] 36 (0, 0))).cell? ⟨w.heap.size, 1, none⟩ = some (.slice (some ⟨b, off, none⟩) en ec) := by rw [cell_of_row _ _ _ _ _ _ HF101.out]; rfl
            have hc107 : wr.cell? ⟨w.heap.size, 1, none⟩ = some (.slice (some ⟨b, off, none⟩) en ec) := by rw [cell_of_row _ _ _ _ _ _ HC.out]; rfl
            have hc108 : (wr.alloc (.cells #[.string s, .string v] 36 (0, 0))).cell? ⟨w.heap.size, 2, none⟩ = some (.slice ca cn cc) := by rw [cell_of_row _ _ _ _ _ _ HF101.out]; rfl
            have hc109 : wr.cell? ⟨w.heap.size, 2, none⟩ = some (.slice ca cn cc) := by rw [cell_of_row _ _ _ _ _ _ HC.out]; rfl
            have hl110 : w.heap.size < wr.heap.size := lt_of_block HC.out
            have hl111 : ¬ w.heap.size = wr.heap.size := by omega
            have hc112 : (wr.alloc (.cells #[.string s, .string v] 36 (0, 0))).cell? ⟨wr.heap.size, 0, none⟩ = some (.string s) := by rw [cell_of_row _ _ _ _ _ _ HF102.out]; rfl
            have hc113 : (wr.alloc (.cells #[.string s, .string v] 36 (0, 0))).cell? ⟨wr.heap.size, 1, none⟩ = some (.string v) := by rw [cell_of_row _ _ _ _ _ _ HF102.out]; rfl
            go_wp2_with fail
            refine (HHV.out _).mono ?_
            rintro e w' ⟨rfl, rfl⟩
            go_upto_region 8 with (fail)
            have hr114 := fun d os => cell_regrown hc104 d os
            have hr115 := fun d os => cell_regrown hc105 d os
            have hr116 := fun d os => cell_regrown hc106 d os
            have hr117 := fun d os => cell_regrown hc107 d os
            have hr118 := fun d os => cell_regrown hc108 d os
            have hr119 := fun d os => cell_regrown hc109 d os
            have hr120 := fun d os => cell_regrown hc112 d os
            have hr121 := fun d os => cell_regrown hc113 d os
            refine wp_region_quiet_below (by kernel_rfl) (by kernel_rfl) ?_
            repeat (any_goals (first | go_big_quiet_step (fail) | quiet_step (fail)))
            refine wpQuiet_nil ?_
            intro w11 hw11
            have hb11 := below_anyY hw11
            clear hw11 hr114 hr115 hr116 hr117 hr118 hr119 hr120 hr121
            clear hc104 hc105 hc106 hc107 hc108 hc109 hl110 hl111 hc112 hc113
            have HF122 := Lib.hid (blk_below HF101.out hb11)
            have HF123 := Lib.hid (blk_below HF102.out hb11)
            have HB124 := Lib.hid (HB103.out.trans (hb11.mono HB103.out.size))
            clear hb11 HB103 HF101 HC HF102
            go_wp2_with fail
            go_roundw
            case rel => exact ⟨_, by go_num, by omega, HR.out, HF122.out, HB124.out⟩
            case measure => simp [intOf] <;> omega
          · obtain ⟨m, rfl⟩ : ∃ m, k = m + 1 := ⟨k - 1, by omega⟩
            have hml : m < es.length := by omega
            obtain ⟨b2, off2, hl2, e2, _, hc2⟩ := RE.out.at (k := m) (by omega)
            cases e2
            have c2 := hc2 0 _ rfl
            obtain ⟨p, hp⟩ : ∃ p, p = es[m].1 := ⟨_, rfl⟩
            rw [← hp] at c2
            have HPK := Lib.hid (show prevK es (m + 1) = some p by show (es[m]?).map (·.1) = _; rw [List.getElem?_eq_getElem hml, hp]; rfl)
            have HPC := Lib.hid (show (wr.alloc (.cells #[.string s, .string v] 36 (0, 0))).cell? ⟨b, off + m * 2, none⟩ = some (.string p) from ((Below.refl _ wr).alloc (Nat.le_refl _) _).cell (p := ⟨b, _, none⟩) hbb |>.trans c2)
            clear hc2 c2 hp
            have hi0 : (0 : Int) ≤ (m : Int) := by omega
            have hi1 : (m : Int) < (en : Int) := by omega
            rcases leS_cases s p with ⟨g1, hg⟩ | ⟨g1, g2, hg⟩ | ⟨g1, g2, hg⟩
            · have HR := Lib.hid (show (4 : Int) = chW lv es cs by rw [← HV.out, ← HS.out, HA.out, if_neg (by rw [HOK.out]; simp), if_pos (by rw [HPK.out]; simp [ordB, hg])])
              clear hg
              have HF101 := Lib.hid (blk_alloc HC.out (.cells #[.string s, .string v] 36 (0, 0)))
              have HF102 := Lib.hid (blk_new wr (.cells #[.string s, .string v] 36 (0, 0)))
              have HB103 := Lib.hid (HB.out.alloc HB.out.size (.cells #[.string s, .string v] 36 (0, 0)))
              clear HB
              have hc104 : (wr.alloc (.cells #[.string s, .string v] 36 (0, 0))).cell? ⟨w.heap.size, 0, none⟩ = some (.int .i64 lv) := by rw [cell_of_row _ _ _ _ _ _ HF101.out]; rfl
              have hc105 : wr.cell? ⟨w.heap.size, 0, none⟩ = some (.int .i64 lv) := by rw [cell_of_row _ _ _ _ _ _ HC.out]; rfl
              have hc106 : (wr.alloc (.cells #[.string s, .string v] 36 (0, 0))).cell? ⟨w.heap.size, 1, none⟩ = some (.slice (some ⟨b, off, none⟩) en ec) := by rw [cell_of_row _ _ _ _ _ _ HF101.out]; rfl
              have hc107 : wr.cell? ⟨w.heap.size, 1, none⟩ = some (.slice (some ⟨b, off, none⟩) en ec) := by rw [cell_of_row _ _ _ _ _ _ HC.out]; rfl
              have hc108 : (wr.alloc (.cells #[.string s, .string v] 36 (0, 0))).cell? ⟨w.heap.size, 2, none⟩ = some (.slice ca cn cc) := by rw [cell_of_row _ _ _ _ _ _ HF101.out]; rfl
              have hc109 : wr.cell? ⟨w.heap.size, 2, none⟩ = some (.slice ca cn cc) := by rw [cell_of_row _ _ _ _ _ _ HC.out]; rfl
              have hl110 : w.heap.size < wr.heap.size := lt_of_block HC.out
              have hl111 : ¬ w.heap.size = wr.heap.size := by omega
              have hc112 : (wr.alloc (.cells #[.string s, .string v] 36 (0, 0))).cell? ⟨wr.heap.size, 0, none⟩ = some (.string s) := by rw [cell_of_row _ _ _ _ _ _ HF102.out]; rfl
              have hc113 : (wr.alloc (.cells #[.string s, .string v] 36 (0, 0))).cell? ⟨wr.heap.size, 1, none⟩ = some (.string v) := by rw [cell_of_row _ _ _ _ _ _ HF102.out]; rfl
              go_wp2_with fail
              refine (HHV.out _).mono ?_
              rintro e w' ⟨rfl, rfl⟩
              have hcp : (wr.alloc (.cells #[.string s, .string v] 36 (0, 0))).cell? ⟨b, off + m * 2, none⟩ = some (.string p) := HPC.out
              go_upto_region 8 with (fail)
              have hr114 := fun d os => cell_regrown hc104 d os
              have hr115 := fun d os => cell_regrown hc105 d os
              have hr116 := fun d os => cell_regrown hc106 d os
              have hr117 := fun d os => cell_regrown hc107 d os
              have hr118 := fun d os => cell_regrown hc108 d os
              have hr119 := fun d os => cell_regrown hc109 d os
              have hr120 := fun d os => cell_regrown hc112 d os
              have hr121 := fun d os => cell_regrown hc113 d os
              have hr122 := fun d os => cell_regrown hcp d os
              refine wp_region_quiet_below (by kernel_rfl) (by kernel_rfl) ?_
              repeat (any_goals (first | go_big_quiet_step (fail) | quiet_step (fail)))
              refine wpQuiet_nil ?_
              intro w11 hw11
              have hb11 := below_anyY hw11
              clear hw11 hr114 hr115 hr116 hr117 hr118 hr119 hr120 hr121 hr122
              clear hc104 hc105 hc106 hc107 hc108 hc109 hl110 hl111 hc112 hc113 hcp
              have HF123 := Lib.hid (blk_below HF101.out hb11)
              have HF124 := Lib.hid (blk_below HF102.out hb11)
              have HB125 := Lib.hid (HB103.out.trans (hb11.mono HB103.out.size))
              clear hb11 HB103 HF101 HC HF102
              go_wp2_with fail
              go_ret
              exact ⟨by first | (rw [← HR.out]; done) | (rw [← HR.out]; rfl), HB125.out⟩
            · have HR := Lib.hid (show (4 : Int) = chW lv es cs by rw [← HV.out, ← HS.out, HA.out, if_neg (by rw [HOK.out]; simp), if_pos (by rw [HPK.out]; simp [ordB, hg])])
              clear hg
              have HF101 := Lib.hid (blk_alloc HC.out (.cells #[.string s, .string v] 36 (0, 0)))
              have HF102 := Lib.hid (blk_new wr (.cells #[.string s, .string v] 36 (0, 0)))
              have HB103 := Lib.hid (HB.out.alloc HB.out.size (.cells #[.string s, .string v] 36 (0, 0)))
              clear HB
              have hc104 : (wr.alloc (.cells #[.string s, .string v] 36 (0, 0))).cell? ⟨w.heap.size, 0, none⟩ = some (.int .i64 lv) := by rw [cell_of_row _ _ _ _ _ _ HF101.out]; rfl
              have hc105 : wr.cell? ⟨w.heap.size, 0, none⟩ = some (.int .i64 lv) := by rw [cell_of_row _ _ _ _ _ _ HC.out]; rfl
              have hc106 : (wr.alloc (.cells #[.string s, .string v] 36 (0, 0))).cell? ⟨w.heap.size, 1, none⟩ = some (.slice (some ⟨b, off, none⟩) en ec) := by rw [cell_of_row _ _ _ _ _ _ HF101.out]; rfl
              have hc107 : wr.cell? ⟨w.heap.size, 1, none⟩ = some (.slice (some ⟨b, off, none⟩) en ec) := by rw [cell_of_row _ _ _ _ _ _ HC.out]; rfl
              have hc108 : (wr.alloc (.cells #[.string s, .string v] 36 (0, 0))).cell? ⟨w.heap.size, 2, none⟩ = some (.slice ca cn cc) := by rw [cell_of_row _ _ _ _ _ _ HF101.out]; rfl
              have hc109 : wr.cell? ⟨w.heap.size, 2, none⟩ = some (.slice ca cn cc) := by rw [cell_of_row _ _ _ _ _ _ HC.out]; rfl
              have hl110 : w.heap.size < wr.heap.size := lt_of_block HC.out
              have hl111 : ¬ w.heap.size = wr.heap.size := by omega
              have hc112 : (wr.alloc (.cells #[.string s, .string v] 36 (0, 0))).cell? ⟨wr.heap.size, 0, none⟩ = some (.string s) := by rw [cell_of_row _ _ _ _ _ _ HF102.out]; rfl
              have hc113 : (wr.alloc (.cells #[.string s, .string v] 36 (0, 0))).cell? ⟨wr.heap.size, 1, none⟩ = some (.string v) := by rw [cell_of_row _ _ _ _ _ _ HF102.out]; rfl
              go_wp2_with fail
              refine (HHV.out _).mono ?_
              rintro e w' ⟨rfl, rfl⟩
              have hcp : (wr.alloc (.cells #[.string s, .string v] 36 (0, 0))).cell? ⟨b, off + m * 2, none⟩ = some (.string p) := HPC.out
              go_upto_region 8 with (fail)
              have hr114 := fun d os => cell_regrown hc104 d os
              have hr115 := fun d os => cell_regrown hc105 d os
              have hr116 := fun d os => cell_regrown hc106 d os
              have hr117 := fun d os => cell_regrown hc107 d os
              have hr118 := fun d os => cell_regrown hc108 d os
              have hr119 := fun d os => cell_regrown hc109 d os
              have hr120 := fun d os => cell_regrown hc112 d os
              have hr121 := fun d os => cell_regrown hc113 d os
              have hr122 := fun d os => cell_regrown hcp d os
              refine wp_region_quiet_below (by kernel_rfl) (by kernel_rfl) ?_
              repeat (any_goals (first | go_big_quiet_step (fail) | quiet_step (fail)))
              refine wpQuiet_nil ?_
              intro w11 hw11
              have hb11 := below_anyY hw11
              clear hw11 hr114 hr115 hr116 hr117 hr118 hr119 hr120 hr121 hr122
              clear hc104 hc105 hc106 hc107 hc108 hc109 hl110 hl111 hc112 hc113 hcp
              have HF123 := Lib.hid (blk_below HF101.out hb11)
              have HF124 := Lib.hid (blk_below HF102.out hb11)
              have HB125 := Lib.hid (HB103.out.trans (hb11.mono HB103.out.size))
              clear hb11 HB103 HF101 HC HF102
              go_wp2_with fail
              go_ret
              exact ⟨by first | (rw [← HR.out]; done) | (rw [← HR.out]; rfl), HB125.out⟩
            · have HR := Lib.hid (show entW lv (prevK es (m + 1 + 1)) (es.drop (m + 1 + 1)) = entW lv none es by rw [← HS.out, HA.out, if_neg (by rw [HOK.out]; simp), if_neg (by rw [HPK.out]; simp [ordB, hg])])
              clear hg
              have HF101 := Lib.hid (blk_alloc HC.out (.cells #[.string s, .string v] 36 (0, 0)))
              have HF102 := Lib.hid (blk_new wr (.cells #[.string s, .string v] 36 (0, 0)))
              have HB103 := Lib.hid (HB.out.alloc HB.out.size (.cells #[.string s, .string v] 36 (0, 0)))
              clear HB
              have hc104 : (wr.alloc (.cells #[.string s, .string v] 36 (0, 0))).cell? ⟨w.heap.size, 0, none⟩ = some (.int .i64 lv) := by rw [cell_of_row _ _ _ _ _ _ HF101.out]; rfl
              have hc105 : wr.cell? ⟨w.heap.size, 0, none⟩ = some (.int .i64 lv) := by rw [cell_of_row _ _ _ _ _ _ HC.out]; rfl
              have hc106 : (wr.alloc (.cells #[.string s, .string v] 36 (0, 0))).cell? ⟨w.heap.size, 1, none⟩ = some (.slice (some ⟨b, off, none⟩) en ec) := by rw [cell_of_row _ _ _ _ _ _ HF101.out]; rfl
              have hc107 : wr.cell? ⟨w.heap.size, 1, none⟩ = some (.slice (some ⟨b, off, none⟩) en ec) := by rw [cell_of_row _ _ _ _ _ _ HC.out]; rfl
              have hc108 : (wr.alloc (.cells #[.string s, .string v] 36 (0, 0))).cell? ⟨w.heap.size, 2, none⟩ = some (.slice ca cn cc) := by rw [cell_of_row _ _ _ _ _ _ HF101.out]; rfl
              have hc109 : wr.cell? ⟨w.heap.size, 2, none⟩ = some (.slice ca cn cc) := by rw [cell_of_row _ _ _ _ _ _ HC.out]; rfl
              have hl110 : w.heap.size < wr.heap.size := lt_of_block HC.out
              have hl111 : ¬ w.heap.size = wr.heap.size := by omega
              have hc112 : (wr.alloc (.cells #[.string s, .string v] 36 (0, 0))).cell? ⟨wr.heap.size, 0, none⟩ = some (.string s) := by rw [cell_of_row _ _ _ _ _ _ HF102.out]; rfl
              have hc113 : (wr.alloc (.cells #[.string s, .string v] 36 (0, 0))).cell? ⟨wr.heap.size, 1, none⟩ = some (.string v) := by rw [cell_of_row _ _ _ _ _ _ HF102.out]; rfl
              go_wp2_with fail
              refine (HHV.out _).mono ?_
              rintro e w' ⟨rfl, rfl⟩
              have hcp : (wr.alloc (.cells #[.string s, .string v] 36 (0, 0))).cell? ⟨b, off + m * 2, none⟩ = some (.string p) := HPC.out
              go_upto_region 8 with (fail)
              have hr114 := fun d os => cell_regrown hc104 d os
              have hr115 := fun d os => cell_regrown hc105 d os
              have hr116 := fun d os => cell_regrown hc106 d os
              have hr117 := fun d os => cell_regrown hc107 d os
              have hr118 := fun d os => cell_regrown hc108 d os
              have hr119 := fun d os => cell_regrown hc109 d os
              have hr120 := fun d os => cell_regrown hc112 d os
              have hr121 := fun d os => cell_regrown hc113 d os
              have hr122 := fun d os => cell_regrown hcp d os
              refine wp_region_quiet_below (by kernel_rfl) (by kernel_rfl) ?_
              repeat (any_goals (first | go_big_quiet_step (fail) | quiet_step (fail)))
              refine wpQuiet_nil ?_
              intro w11 hw11
              have hb11 := below_anyY hw11
              clear hw11 hr114 hr115 hr116 hr117 hr118 hr119 hr120 hr121 hr122
              clear hc104 hc105 hc106 hc107 hc108 hc109 hl110 hl111 hc112 hc113 hcp
              have HF123 := Lib.hid (blk_below HF101.out hb11)
              have HF124 := Lib.hid (blk_below HF102.out hb11)
              have HB125 := Lib.hid (HB103.out.trans (hb11.mono HB103.out.size))
              clear hb11 HB103 HF101 HC HF102
              go_wp2_with fail
              go_roundw
              case rel => exact ⟨_, by go_num, by omega, HR.out, HF123.out, HB125.out⟩
              case measure => simp [intOf] <;> omega
      · have hd1 : decide ((k : Int) < (en : Int)) = false := decide_eq_false (by omega)
        have HR := Lib.hid (show (0 : Int) = chW lv es cs by rw [← HV.out, ← HS.out, entW_end lv es k (by rw [LE.out]; omega)])
        go_wp2_with fail
        go_ret
        exact ⟨by first | (rw [← HR.out]; done) | (rw [← HR.out]; rfl), HB.out⟩
end Go.Proofs.Ytdjjabjegmbmaaa
