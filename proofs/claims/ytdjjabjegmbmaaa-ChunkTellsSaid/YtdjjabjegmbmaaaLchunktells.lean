/- The walk of ChunkTells over this translation. No condition. -/
import Derived.Test.YtdjjabjegmbmaaaMc
import Derived.Test.YtdjjabjegmbmaaaMd
import Derived.Test.YtdjjabjegmbmaaaMn
import Derived.Test.YtdjjabjegmbmaaaMl
import Derived.Test.YtdjjabjegmbmaaaMo
import Derived.Deep.DeepCutAuto
import Derived.Deep.RegionHeld3
namespace Go.Proofs.Ytdjjabjegmbmaaa.LChunkTells
open Go.RowKit Vi

structure CT (lv : Int) (ea ca : Option Addr) (en ec cn cc : Nat) (es : List En) (cs : List Int) (B1 B2 : Nat) (a b : ByteArray) (c : Int) (vv : Int) (oe oc : Option Addr) (es2 : List En) (cs2 : List Int) (w W : World) : Prop where
  box : W.heap[w.heap.size]? = some (.cells #[.int .i64 lv, .slice ea en ec, .slice ca cn cc] 26 (0, 0))
  tw : W.heap[B1]? = some (.cells #[.string a, .string b, .int .i64 c] 39 (0, 0))
  ov : W.heap[B2]? = some (.cells #[.int .i64 vv, .slice oe 2 2, .slice oc 2 2] 26 (0, 0))
  ch : ChR W ea ca en cn es cs
  oh : ChR W oe oc 2 2 es2 cs2
  bel : Below w.heap.size w W
section
variable {lv : Int} {ea ca : Option Addr} {en ec cn cc : Nat} {es : List En} {cs : List Int} {B1 B2 : Nat} {a b : ByteArray} {c : Int} {vv : Int} {oe oc : Option Addr} {es2 : List En} {cs2 : List Int} {w W W' : World}
theorem CT.later (h : CT lv ea ca en ec cn cc es cs B1 B2 a b c vv oe oc es2 cs2 w W) (hb : Below W.heap.size W W') : CT lv ea ca en ec cn cc es cs B1 B2 a b c vv oe oc es2 cs2 w W' :=
  ⟨blk_below h.box hb, blk_below h.tw hb, blk_below h.ov hb, h.ch.below hb, h.oh.below hb, h.bel.trans (hb.mono h.bel.size)⟩
theorem CT.drew (h : CT lv ea ca en ec cn cc es cs B1 B2 a b c vv oe oc es2 cs2 w W) : CT lv ea ca en ec cn cc es cs B1 B2 a b c vv oe oc es2 cs2 w W.drew :=
  ⟨h.box, h.tw, h.ov, ⟨h.ch.e.drew, h.ch.c.drew⟩, ⟨h.oh.e.drew, h.oh.c.drew⟩, h.bel.drew⟩
theorem CT.alloc (h : CT lv ea ca en ec cn cc es cs B1 B2 a b c vv oe oc es2 cs2 w W) (o : Obj) : CT lv ea ca en ec cn cc es cs B1 B2 a b c vv oe oc es2 cs2 w (W.alloc o) := h.later ((Below.refl _ _).alloc (Nat.le_refl _) _)
theorem CT.nine (h : CT lv ea ca en ec cn cc es cs B1 B2 a b c vv oe oc es2 cs2 w W) : W.cell? ⟨w.heap.size, 0, none⟩ = some (.int .i64 lv) ∧ W.cell? ⟨w.heap.size, 1, none⟩ = some (.slice ea en ec) ∧ W.cell? ⟨w.heap.size, 2, none⟩ = some (.slice ca cn cc) ∧ W.cell? ⟨B1, 0, none⟩ = some (.string a) ∧ W.cell? ⟨B1, 1, none⟩ = some (.string b) ∧ W.cell? ⟨B1, 2, none⟩ = some (.int .i64 c) ∧ W.cell? ⟨B2, 0, none⟩ = some (.int .i64 vv) ∧ W.cell? ⟨B2, 1, none⟩ = some (.slice oe 2 2) ∧ W.cell? ⟨B2, 2, none⟩ = some (.slice oc 2 2) :=
  ⟨(cell_of_row _ _ _ _ _ _ h.box).trans rfl, (cell_of_row _ _ _ _ _ _ h.box).trans rfl, (cell_of_row _ _ _ _ _ _ h.box).trans rfl, (cell_of_row _ _ _ _ _ _ h.tw).trans rfl, (cell_of_row _ _ _ _ _ _ h.tw).trans rfl, (cell_of_row _ _ _ _ _ _ h.tw).trans rfl, (cell_of_row _ _ _ _ _ _ h.ov).trans rfl, (cell_of_row _ _ _ _ _ _ h.ov).trans rfl, (cell_of_row _ _ _ _ _ _ h.ov).trans rfl⟩
end
set_option maxRecDepth 100000 in
set_option maxHeartbeats 8000000 in
theorem walk (lv : Int) (ea ca : Option Addr) (en ec cn cc : Nat) (es : List En) (cs : List Int) (key name : ByteArray) (level : Int) (w : World) (h : ChR w ea ca en cn es cs) (hn : en ≤ maxLen) (hm : cn ≤ maxLen) :
    Calls Try.prog 4 #[.agg #[.int .i64 lv, .slice ea en ec, .slice ca cn cc], .string key, .string name, .int .i64 level] w fun e w' => e = .returned (.bool true) ∧ Below w.heap.size w w' := by
  unfold maxLen at hn hm
  have hn' : (en : Int) ≤ 9223372036854775807 := by omega
  have hm' : (cn : Int) ≤ 9223372036854775807 := by omega
  have H := Lib.hid h
  have LE := Lib.hid h.e.1
  clear h hm
  have HFW := Lib.hid (fun (W : World) (g : ChR W ea ca en cn es cs) => few19_any lv ea ca en ec cn cc es cs W g hn' hm')
  have HTO := Lib.hid (fun (W : World) (g : ChR W ea ca en cn es cs) => ctotal_any lv ea ca en ec cn cc es cs W g hn' hm')
  have HRT := Lib.hid (fun (W : World) (g : ChR W ea ca en cn es cs) => rtotal_any lv ea ca en ec cn cc es cs W g hn' hm')
  have HLA := Lib.hid (fun (W : World) (g : ChR W ea ca en cn es cs) => clast_any lv ea ca en ec cn cc es cs W g hn' hm')
  have HFI := Lib.hid (fun (W : World) (g : ChR W ea ca en cn es cs) => cfind_any lv ea ca en ec cn cc es cs W g hn' hm' key)
  have HTW := Lib.hid (fun (W : World) (g : ChR W ea ca en cn es cs) => ctwig_any lv ea ca en ec cn cc es cs W g hn' hm' name)
  have HB1 := Lib.hid (Below.refl w.heap.size w)
  go_enter Try.func4, Try.ntmps4
  have HF2 := Lib.hid (blk_new w (.cells #[.int .i64 lv, .slice ea en ec, .slice ca cn cc] 26 (0, 0)))
  have HB3 := Lib.hid (HB1.out.alloc HB1.out.size (.cells #[.int .i64 lv, .slice ea en ec, .slice ca cn cc] 26 (0, 0)))
  clear HB1
  have hc0 : (w.alloc (.cells #[.int .i64 lv, .slice ea en ec, .slice ca cn cc] 26 (0, 0))).cell? ⟨w.heap.size, 0, none⟩ = some (.int .i64 lv) := by rw [cell_of_row _ _ _ _ _ _ HF2.out]; rfl
  have hc1 : (w.alloc (.cells #[.int .i64 lv, .slice ea en ec, .slice ca cn cc] 26 (0, 0))).cell? ⟨w.heap.size, 1, none⟩ = some (.slice ea en ec) := by rw [cell_of_row _ _ _ _ _ _ HF2.out]; rfl
  have hc2 : (w.alloc (.cells #[.int .i64 lv, .slice ea en ec, .slice ca cn cc] 26 (0, 0))).cell? ⟨w.heap.size, 2, none⟩ = some (.slice ca cn cc) := by rw [cell_of_row _ _ _ _ _ _ HF2.out]; rfl
  go_wp2_with fail
  clear hc0 hc1 hc2
  refine (HFW.out (w.alloc (.cells #[.int .i64 lv, .slice ea en ec, .slice ca cn cc] 26 (0, 0))) (H.out.below HB3.out)).mono ?_
  rintro e w1 ⟨b, rfl, _, hb1⟩
  have HF7 := Lib.hid (blk_below HF2.out hb1)
  have HB8 := Lib.hid (HB3.out.trans (hb1.mono (by have := HB3.out.size; simp at this ⊢ <;> omega)))
  clear hb1 HB3 HF2 HFW
  cases b with
  | false =>
    go_wp2_with fail
    refine (awake19 w1).mono ?_
    rintro e w2 ⟨rfl, hb2⟩
    have HB10 := Lib.hid (HB8.out.trans (hb2.mono HB8.out.size))
    clear hb2 HB8 HF7
    go_wp2_with fail
    go_ret
    exact ⟨rfl, HB10.out⟩
  | true =>
    have hc0 : w1.cell? ⟨w.heap.size, 0, none⟩ = some (.int .i64 lv) := by rw [cell_of_row _ _ _ _ _ _ HF7.out]; rfl
    have hc1 : w1.cell? ⟨w.heap.size, 1, none⟩ = some (.slice ea en ec) := by rw [cell_of_row _ _ _ _ _ _ HF7.out]; rfl
    have hc2 : w1.cell? ⟨w.heap.size, 2, none⟩ = some (.slice ca cn cc) := by rw [cell_of_row _ _ _ _ _ _ HF7.out]; rfl
    go_wp2_with fail
    clear hc0 hc1 hc2
    go_loopw [9, 10, 22] (fun n s i wr => ∃ (k m : Nat) (L : ByteArray), n = .int .i64 (m : Int) ∧ s = .string L ∧ i = .int .i64 (k : Int) ∧ k ≤ en ∧ m = cntE key es k ∧ L = lastK (es.take k) ∧ wr.heap[w.heap.size]? = some (.cells #[.int .i64 lv, .slice ea en ec, .slice ca cn cc] 26 (0, 0)) ∧ Below w.heap.size w wr) (fun _ _ i _ => en - (intOf i).toNat)
    case atStart => exact ⟨0, 0, _, rfl, rfl, rfl, Nat.zero_le _, rfl, rfl, HF7.out, HB8.out⟩
    case round =>
      obtain ⟨k, m, L, rfl, rfl, rfl, hk, hmc, hL, hbx, hb⟩ := hrel
      have HMC := Lib.hid hmc
      have HL := Lib.hid hL
      have HC := Lib.hid hbx
      have HB := Lib.hid hb
      clear hmc hL hbx hb HF7 HB8
      by_cases hlt : k < en
      · have hd1 : decide ((k : Int) < (en : Int)) = true := decide_eq_true (by omega)
        obtain ⟨b, off, hl, hea, hbb, hc⟩ := (H.out.below HB.out).e.at hlt
        have HST := Lib.hid (cntE_step key es k hl)
        have HLT := Lib.hid (lastK_take es k hl)
        obtain ⟨y, hy⟩ : ∃ y, es[k] = y := ⟨_, rfl⟩
        rw [hy] at hc HST HLT
        obtain ⟨s, v⟩ := y
        have a0 := hc 0 _ rfl
        have a1 := hc 1 _ rfl
        rw [Nat.add_zero] at a0
        have hi0 : (0 : Int) ≤ (k : Int) := by omega
        clear hc hy
        subst hea
        have HCA := Lib.hid (blk_alloc HC.out (.cells #[.string s, .string v] 36 (0, 0)))
        have HBA := Lib.hid (HB.out.alloc HB.out.size (.cells #[.string s, .string v] 36 (0, 0)))
        clear HC HB
        by_cases hmk : m = k
        · have HMK := Lib.hid hmk
          have e1 : ((m : Int) == (k : Int)) = true := by rw [hmk]; simp
          have hwm : IntKind.i64.wrap ((m : Int) + 1) = (m : Int) + 1 := IntWalk.i64_in _ (by omega)
          clear hmk
          cases hp : ltE key (s, v) with
          | true =>
            have hp2 : Op.bytesLess s.toList key.toList = true := hp
            have HR := Lib.hid (show cntE key es (k + 1) = m + 1 by rw [HST.out, if_pos ⟨by rw [← HMC.out, HMK.out], hp⟩, HMK.out])
            clear hp
            go_wp2_with fail
            go_roundw
            case rel => exact ⟨k + 1, m + 1, s, by first | rfl | (simp; done) | (rw [hwm]; rfl) | go_num, rfl, by go_num, by omega, HR.out.symm, HLT.out.symm, HCA.out, HBA.out⟩
            case measure => simp [intOf] <;> omega
          | false =>
            have hp2 : Op.bytesLess s.toList key.toList = false := hp
            have HR := Lib.hid (show cntE key es (k + 1) = m by rw [HST.out, if_neg (fun q => by rw [hp] at q; exact absurd q.2 (by simp)), ← HMC.out])
            clear hp
            go_wp2_with fail
            go_roundw
            case rel => exact ⟨k + 1, m, s, rfl, rfl, by go_num, by omega, HR.out.symm, HLT.out.symm, HCA.out, HBA.out⟩
            case measure => simp [intOf] <;> omega
        · have e1 : ((m : Int) == (k : Int)) = false := by rw [beq_eq_false_iff_ne]; omega
          have HR := Lib.hid (show cntE key es (k + 1) = m by rw [HST.out, if_neg (fun q => hmk (HMC.out.trans q.1)), ← HMC.out])
          go_wp2_with fail
          go_roundw
          case rel => exact ⟨k + 1, m, s, rfl, rfl, by go_num, by omega, HR.out.symm, HLT.out.symm, HCA.out, HBA.out⟩
          case measure => simp [intOf] <;> omega
      · have hd1 : decide ((k : Int) < (en : Int)) = false := decide_eq_false (by omega)
        obtain rfl : k = en := by omega
        have HN := Lib.hid (show findN key es = m by rw [HMC.out, ← LE.out]; rfl)
        have HLL := Lib.hid (show lastK es = L by rw [HL.out, ← LE.out, List.take_length])
        rw [HN.out] at HFI
        rw [HLL.out] at HLA HTW
        obtain ⟨V, hV⟩ : ∃ V, V = totW lv k cs := ⟨_, rfl⟩
        rw [← hV] at HTO HRT HTW
        clear hV HN HLL HMC HL LE
        have hc0 : wr.cell? ⟨w.heap.size, 0, none⟩ = some (.int .i64 lv) := by rw [cell_of_row _ _ _ _ _ _ HC.out]; rfl
        have hc1 : wr.cell? ⟨w.heap.size, 1, none⟩ = some (.slice ea k ec) := by rw [cell_of_row _ _ _ _ _ _ HC.out]; rfl
        have hc2 : wr.cell? ⟨w.heap.size, 2, none⟩ = some (.slice ca cn cc) := by rw [cell_of_row _ _ _ _ _ _ HC.out]; rfl
        go_wp2_with fail
        refine (HRT.out wr (H.out.below HB.out)).mono ?_
        rintro e w1 ⟨rfl, hb1⟩
        have HC1 := Lib.hid (blk_alloc (blk_alloc (blk_below HC.out hb1) (.cells #[.string L, .string name, .int .i64 V] 39 (0, 0))) (.cells #[.string L, .string name, .string key, .string ⟨#[120]⟩] 36 (0, 0)))
        have HT1 := Lib.hid (blk_alloc (blk_new w1 (.cells #[.string L, .string name, .int .i64 V] 39 (0, 0))) (.cells #[.string L, .string name, .string key, .string ⟨#[120]⟩] 36 (0, 0)))
        have HE1 := Lib.hid (two_blk w1 (.cells #[.string L, .string name, .int .i64 V] 39 (0, 0)) (.cells #[.string L, .string name, .string key, .string ⟨#[120]⟩] 36 (0, 0)))
        have HB1 := Lib.hid (HB.out.trans (hb1.mono HB.out.size))
        have HB2 := Lib.hid ((HB1.out.alloc HB1.out.size (.cells #[.string L, .string name, .int .i64 V] 39 (0, 0))).alloc (HB1.out.alloc HB1.out.size (.cells #[.string L, .string name, .int .i64 V] 39 (0, 0))).size (.cells #[.string L, .string name, .string key, .string ⟨#[120]⟩] 36 (0, 0)))
        clear hb1 HC HB hc0 hc1 hc2
        have hc0 : ((w1.alloc (.cells #[.string L, .string name, .int .i64 V] 39 (0, 0))).alloc (.cells #[.string L, .string name, .string key, .string ⟨#[120]⟩] 36 (0, 0))).cell? ⟨w.heap.size, 0, none⟩ = some (.int .i64 lv) := by rw [cell_of_row _ _ _ _ _ _ HC1.out]; rfl
        have hc1 : ((w1.alloc (.cells #[.string L, .string name, .int .i64 V] 39 (0, 0))).alloc (.cells #[.string L, .string name, .string key, .string ⟨#[120]⟩] 36 (0, 0))).cell? ⟨w.heap.size, 1, none⟩ = some (.slice ea k ec) := by rw [cell_of_row _ _ _ _ _ _ HC1.out]; rfl
        have hc2 : ((w1.alloc (.cells #[.string L, .string name, .int .i64 V] 39 (0, 0))).alloc (.cells #[.string L, .string name, .string key, .string ⟨#[120]⟩] 36 (0, 0))).cell? ⟨w.heap.size, 2, none⟩ = some (.slice ca cn cc) := by rw [cell_of_row _ _ _ _ _ _ HC1.out]; rfl
        go_wp2_with fail
        refine (HRT.out ((w1.alloc (.cells #[.string L, .string name, .int .i64 V] 39 (0, 0))).alloc (.cells #[.string L, .string name, .string key, .string ⟨#[120]⟩] 36 (0, 0))) (H.out.below HB2.out)).mono ?_
        rintro e w2 ⟨rfl, hb2⟩
        have HC2 := Lib.hid (blk_alloc (blk_alloc (blk_below HC1.out hb2) (.cells #[.int .i64 V, .int .i64 3] 3 (0, 0))) (.cells #[.int .i64 level, .slice (some ⟨w1.heap.size + 1, 0, none⟩) 2 2, .slice (some ⟨w2.heap.size, 0, none⟩) 2 2] 26 (0, 0)))
        have HT2 := Lib.hid (blk_alloc (blk_alloc (blk_below HT1.out hb2) (.cells #[.int .i64 V, .int .i64 3] 3 (0, 0))) (.cells #[.int .i64 level, .slice (some ⟨w1.heap.size + 1, 0, none⟩) 2 2, .slice (some ⟨w2.heap.size, 0, none⟩) 2 2] 26 (0, 0)))
        have HE2 := Lib.hid (blk_alloc (blk_alloc (blk_below HE1.out hb2) (.cells #[.int .i64 V, .int .i64 3] 3 (0, 0))) (.cells #[.int .i64 level, .slice (some ⟨w1.heap.size + 1, 0, none⟩) 2 2, .slice (some ⟨w2.heap.size, 0, none⟩) 2 2] 26 (0, 0)))
        have HI2 := Lib.hid (blk_alloc (blk_new w2 (.cells #[.int .i64 V, .int .i64 3] 3 (0, 0))) (.cells #[.int .i64 level, .slice (some ⟨w1.heap.size + 1, 0, none⟩) 2 2, .slice (some ⟨w2.heap.size, 0, none⟩) 2 2] 26 (0, 0)))
        have HO2 := Lib.hid (two_blk w2 (.cells #[.int .i64 V, .int .i64 3] 3 (0, 0)) (.cells #[.int .i64 level, .slice (some ⟨w1.heap.size + 1, 0, none⟩) 2 2, .slice (some ⟨w2.heap.size, 0, none⟩) 2 2] 26 (0, 0)))
        have HB3 := Lib.hid (HB2.out.trans (hb2.mono HB2.out.size))
        have HB4 := Lib.hid ((HB3.out.alloc HB3.out.size (.cells #[.int .i64 V, .int .i64 3] 3 (0, 0))).alloc (HB3.out.alloc HB3.out.size (.cells #[.int .i64 V, .int .i64 3] 3 (0, 0))).size (.cells #[.int .i64 level, .slice (some ⟨w1.heap.size + 1, 0, none⟩) 2 2, .slice (some ⟨w2.heap.size, 0, none⟩) 2 2] 26 (0, 0)))
        clear hb2 HC1 HT1 HE1 HB1 HB2 HB3 hc0 hc1 hc2
        go_upto_region 13 with (fail)
        have ST : CT lv ea ca k ec cn cc es cs w1.heap.size (w2.heap.size + 1) L name V level (some ⟨w1.heap.size + 1, 0, none⟩) (some ⟨w2.heap.size, 0, none⟩) [(L, name), (key, ⟨#[120]⟩)] [V, 3] w ((w2.alloc (.cells #[.int .i64 V, .int .i64 3] 3 (0, 0))).alloc (.cells #[.int .i64 level, .slice (some ⟨w1.heap.size + 1, 0, none⟩) 2 2, .slice (some ⟨w2.heap.size, 0, none⟩) 2 2] 26 (0, 0))) :=
          ⟨HC2.out, HT2.out, HO2.out, H.out.below HB4.out, ⟨rd_blkM enC_len [(L, name), (key, ⟨#[120]⟩)] HE2.out rfl, rd_blkM inC_len [V, 3] HI2.out rfl⟩, HB4.out⟩
        generalize ((w2.alloc (.cells #[.int .i64 V, .int .i64 3] 3 (0, 0))).alloc (.cells #[.int .i64 level, .slice (some ⟨w1.heap.size + 1, 0, none⟩) 2 2, .slice (some ⟨w2.heap.size, 0, none⟩) 2 2] 26 (0, 0))) = w3 at *
        clear HC2 HT2 HE2 HI2 HO2 HB4
        go_region_held3 (fun w' => w'.cell? ⟨w.heap.size, 0, none⟩ = some (.int .i64 lv) ∧ w'.cell? ⟨w.heap.size, 1, none⟩ = some (.slice ea k ec) ∧ w'.cell? ⟨w.heap.size, 2, none⟩ = some (.slice ca cn cc) ∧ w'.cell? ⟨w1.heap.size, 0, none⟩ = some (.string L) ∧ w'.cell? ⟨w1.heap.size, 1, none⟩ = some (.string name) ∧ w'.cell? ⟨w1.heap.size, 2, none⟩ = some (.int .i64 V) ∧ w'.cell? ⟨w2.heap.size + 1, 0, none⟩ = some (.int .i64 level) ∧ w'.cell? ⟨w2.heap.size + 1, 1, none⟩ = some (.slice (some ⟨w1.heap.size + 1, 0, none⟩) 2 2) ∧ w'.cell? ⟨w2.heap.size + 1, 2, none⟩ = some (.slice (some ⟨w2.heap.size, 0, none⟩) 2 2))
          (first | exact ST.nine | exact ST.drew.nine | exact (ST.alloc _).nine | exact (ST.alloc _).drew.nine)
          (first
          | (go_at_call 19; (first | (with_reducible refine (HTO.out _ ST.ch).mono ?_) | (with_reducible refine (HTO.out _ ST.drew.ch).mono ?_)); rintro e v1 ⟨rfl, hbv⟩; (first | have ST := ST.later hbv | have ST := ST.drew.later hbv | have ST := (ST.alloc _).later hbv | have ST := (ST.alloc _).drew.later hbv); clear hbv)
          | (go_at_call 18; (first | (with_reducible refine (HRT.out _ ST.ch).mono ?_) | (with_reducible refine (HRT.out _ ST.drew.ch).mono ?_)); rintro e v2 ⟨rfl, hbv⟩; (first | have ST := ST.later hbv | have ST := ST.drew.later hbv | have ST := (ST.alloc _).later hbv | have ST := (ST.alloc _).drew.later hbv); clear hbv)
          | (go_at_call 20; (first | (with_reducible refine (HLA.out _ ST.ch).mono ?_) | (with_reducible refine (HLA.out _ ST.drew.ch).mono ?_)); rintro e v3 ⟨rfl, hbv⟩; (first | have ST := ST.later hbv | have ST := ST.drew.later hbv | have ST := (ST.alloc _).later hbv | have ST := (ST.alloc _).drew.later hbv); clear hbv)
          | (go_at_call 21; (first | (with_reducible refine (HFI.out _ ST.ch).mono ?_) | (with_reducible refine (HFI.out _ ST.drew.ch).mono ?_)); rintro e v4 ⟨rfl, hbv⟩; (first | have ST := ST.later hbv | have ST := ST.drew.later hbv | have ST := (ST.alloc _).later hbv | have ST := (ST.alloc _).drew.later hbv); clear hbv)
          | (go_at_call 22; (first | (with_reducible refine (HTW.out _ ST.ch).mono ?_) | (with_reducible refine (HTW.out _ ST.drew.ch).mono ?_)); rintro e v5 ⟨rfl, hbv⟩; (first | have ST := ST.later hbv | have ST := ST.drew.later hbv | have ST := (ST.alloc _).later hbv | have ST := (ST.alloc _).drew.later hbv); clear hbv)
          | (go_at_call 23; (first | (with_reducible refine (cover2_any level _ 2 L name key ⟨#[120]⟩ V 3 39 (0, 0) _ (blk_new v5 _)).mono ?_) | (with_reducible refine (cover2_any level _ 2 L name key ⟨#[120]⟩ V 3 39 (0, 0) (World.drew _) (blk_new v5 _)).mono ?_)); rintro e v6 ⟨A1, c1, A2, c2, rfl, hch, hbv⟩; (first | have ST := ST.later hbv | have ST := ST.drew.later hbv | have ST := (ST.alloc _).later hbv | have ST := (ST.alloc _).drew.later hbv); clear hbv)
          | (go_at_call 16; (first | (with_reducible refine (rsame19_yes level A1 A2 (some ⟨w1.heap.size + 1, 0, none⟩) (some ⟨w2.heap.size, 0, none⟩) 2 c1 2 c2 2 2 [(L, name), (key, ⟨#[120]⟩)] [V, 3] _ hch ST.oh (by omega) (by omega)).mono ?_)); rintro e v7 ⟨rfl, hbv⟩; (first | have ST := ST.later hbv | have ST := ST.drew.later hbv | have ST := (ST.alloc _).later hbv | have ST := (ST.alloc _).drew.later hbv); clear hbv)
          | (go_at_call 13; refine (awake19 _).mono ?_; rintro e v8 ⟨rfl, hbv⟩; (first | have ST := ST.later hbv | have ST := ST.drew.later hbv | have ST := (ST.alloc _).later hbv | have ST := (ST.alloc _).drew.later hbv); clear hbv))
        all_goals go_wp2_with fail
        all_goals go_ret
        all_goals exact ⟨rfl, ST.bel⟩
end Go.Proofs.Ytdjjabjegmbmaaa.LChunkTells
