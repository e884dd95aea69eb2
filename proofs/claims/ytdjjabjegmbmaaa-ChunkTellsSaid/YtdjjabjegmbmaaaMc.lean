/- chunk.Put over this translation. Condition: slices of at most 2 to the 62nd. -/
import Derived.Test.YtdjjabjegmbmaaaMb
import Derived.Test.YtdjjabjegmbmaaaPk
import Derived.Test.YtdjjabjegmbmaaaZp
import Derived.Test.YtdjjabjegmbmaaaSput
import Derived.Deep.DeepCutAuto
import Derived.Deep.RegionWith
namespace Go.Proofs.Ytdjjabjegmbmaaa
open Go.RowKit Vi Zp

def putE (lv : Int) (e : En) (n : Int) : List UInt8 := (put e.1.size ++ e.1.data.toList) ++ if lv = 0 then put e.2.size ++ e.2.data.toList else e.2.data.toList ++ put n.toNat
def putK (lv : Int) (es : List En) (cs : List Int) : Nat → List UInt8
  | 0 => []
  | k + 1 => putK lv es cs k ++ putE lv (es.getD k (⟨#[]⟩, ⟨#[]⟩)) (cs.getD k 0)
def headC (lv : Int) (n : Nat) : List UInt8 := (if lv = 0 then [76] else 73 :: put lv.toNat) ++ put n
def putC (lv : Int) (es : List En) (cs : List Int) : List UInt8 := headC lv es.length ++ putK lv es cs es.length
def cputV (lv : Int) (es : List En) (cs : List Int) : Value := if chW lv es cs = 0 then .tuple #[.string ⟨(putC lv es cs).toArray⟩, .int .i64 0] else .tuple #[.string ⟨#[]⟩, .int .i64 (chW lv es cs)]
theorem entW_zero (lv : Int) : ∀ (p : Option ByteArray) (es : List En), entW lv p es = 0 → ∀ e ∈ es, okE lv e = true
  | _, [], _, e, he => by cases he
  | p, x :: r, h, e, he => by
    unfold entW at h
    split at h
    · cases h
    · next h1 =>
      split at h
      · cases h
      · rcases List.mem_cons.1 he with rfl | he
        · simpa using h1
        · exact entW_zero lv _ r h e he
theorem chW_zero {lv : Int} {es : List En} {cs : List Int} (h : chW lv es cs = 0) : fitB lv es cs = true ∧ ∀ e ∈ es, okE lv e = true := by
  unfold chW at h
  split at h
  · cases h
  · next h1 => exact ⟨by simpa using h1, entW_zero lv _ es h⟩
theorem fitB_yes {lv : Int} {es : List En} {cs : List Int} (h : fitB lv es cs = true) : 0 ≤ lv ∧ lv ≤ 40 ∧ es.length ≤ 8 ∧ (lv = 0 → cs = []) ∧ (lv ≠ 0 → es ≠ [] ∧ cs.length = es.length ∧ ∀ n ∈ cs, 1 ≤ n ∧ n ≤ 2147483648) := by
  unfold fitB at h
  split at h
  · cases h
  · next h1 =>
    refine ⟨by omega, by omega, by omega, fun h0 => ?_, fun h0 => ?_⟩
    · rw [if_pos h0] at h; exact List.eq_nil_of_length_eq_zero (of_decide_eq_true h)
    · rw [if_neg h0] at h
      split at h
      · cases h
      · next h2 =>
        refine ⟨fun e => h2 (Or.inl (by rw [e]; rfl)), by omega, fun n hn => ?_⟩
        have h3 : cs.any badI = false := by simpa using h
        have h4 := List.any_eq_false.1 h3 n hn
        unfold badI at h4
        simp at h4
        omega
theorem okE_yes {lv : Int} {e : En} (h : okE lv e = true) : 1 ≤ e.1.size ∧ e.1.size ≤ 64 ∧ e.2.size ≤ 2048 := by
  unfold okE at h
  rw [Bool.and_eq_true] at h
  have h1 := of_decide_eq_true h.1
  have h2 := h.2
  unfold haveB at h2
  split at h2 <;> (have := of_decide_eq_true h2; omega)
theorem getD_mem {α : Type} (l : List α) (k : Nat) (d : α) (h : k < l.length) : l.getD k d = l[k] := by
  rw [List.getD_eq_getElem?_getD, List.getElem?_eq_getElem h]; rfl
theorem putE_len (lv : Int) (e : En) (n : Int) (h : okE lv e = true) : (putE lv e n).length ≤ 2200 := by
  obtain ⟨h1, h2, h3⟩ := okE_yes h
  have b1 := put_len e.1.size
  have b2 := put_len e.2.size
  have b3 := put_len n.toNat
  unfold putE
  rw [List.length_append, List.length_append, ba_len]
  split <;> (rw [List.length_append, ba_len]; omega)
theorem putK_len (lv : Int) (es : List En) (cs : List Int) (h : ∀ e ∈ es, okE lv e = true) : ∀ k, k ≤ es.length → (putK lv es cs k).length ≤ 2200 * k
  | 0, _ => by simp [putK]
  | k + 1, hk => by
    have h1 := putK_len lv es cs h k (by omega)
    have h2 := putE_len lv (es.getD k (⟨#[]⟩, ⟨#[]⟩)) (cs.getD k 0) (by rw [getD_mem _ _ _ hk]; exact h _ (List.getElem_mem hk))
    unfold putK
    rw [List.length_append]
    omega
theorem headC_len (lv : Int) (n : Nat) : (headC lv n).length ≤ 30 := by
  unfold headC
  have b1 := put_len lv.toNat
  have b2 := put_len n
  split <;> simp <;> omega
theorem Bld.later {w w' : World} {B b : Nat} {l : List UInt8} (h : Bld w B b l) (hb : Below w.heap.size w w') : Bld w' B b l := by
  rcases h with h | h
  · exact .inl (bld_later h hb)
  · exact .inr (bld_later h hb)
theorem Bld.lt {w : World} {B b : Nat} {l : List UInt8} (h : Bld w B b l) : b < w.heap.size := by
  rcases h with ⟨_, v, h, _⟩ | ⟨_, v, h, _⟩
  · exact lt_of_block h
  · exact lt_of_block h
theorem bytes_sizeM (l : List UInt8) : (⟨l.toArray⟩ : ByteArray).size = l.length := by show l.toArray.size = _; simp
/-- what a region may count on while an entry is put -/
structure QU (lv : Int) (ea ca : Option Addr) (en ec cn cc : Nat) (s v : ByteArray) (b off : Nat) (n : Int) (C D X : Nat) (acc : List UInt8) (w W : World) : Prop where
  c : W.heap[C]? = some (.cells #[.int .i64 lv, .slice ea en ec, .slice ca cn cc] 26 (0, 0))
  x : W.heap[X]? = some (.cells #[.string s, .string v] 36 (0, 0))
  nl : b < W.heap.size
  n : W.cell? ⟨b, off, none⟩ = some (.int .i64 n)
  bld : Bld W D D acc
  bel : Below w.heap.size w W
  D : w.heap.size ≤ D
theorem QU.later {lv : Int} {ea ca : Option Addr} {en ec cn cc : Nat} {s v : ByteArray} {b off : Nat} {n : Int} {C D X : Nat} {acc : List UInt8} {w W W' : World} (h : QU lv ea ca en ec cn cc s v b off n C D X acc w W) (hb : Below W.heap.size W W') : QU lv ea ca en ec cn cc s v b off n C D X acc w W' :=
  ⟨blk_below h.c hb, blk_below h.x hb, Nat.lt_of_lt_of_le h.nl hb.size, (hb.cell (p := ⟨b, off, none⟩) h.nl).trans h.n, h.bld.later hb, h.bel.trans (hb.mono h.bel.size), h.D⟩
theorem QU.drew {lv : Int} {ea ca : Option Addr} {en ec cn cc : Nat} {s v : ByteArray} {b off : Nat} {n : Int} {C D X : Nat} {acc : List UInt8} {w W : World} (h : QU lv ea ca en ec cn cc s v b off n C D X acc w W) : QU lv ea ca en ec cn cc s v b off n C D X acc w W.drew := ⟨h.c, h.x, h.nl, h.n, h.bld, h.bel.drew, h.D⟩
set_option maxRecDepth 100000 in
set_option maxHeartbeats 4000000 in
theorem cput_any (lv : Int) (ea ca : Option Addr) (en ec cn cc : Nat) (es : List En) (cs : List Int) (w : World) (h : ChR w ea ca en cn es cs) (hn : (en : Int) ≤ 9223372036854775807) (hm : (cn : Int) ≤ 9223372036854775807) :
    Calls Try.prog 77 #[.agg #[.int .i64 lv, .slice ea en ec, .slice ca cn cc]] w fun e w' => e = .returned (cputV lv es cs) ∧ Below w.heap.size w w' := by
  have H := Lib.hid h
  have LE := Lib.hid h.e.1
  have HCK := Lib.hid (fun (W : World) (g : ChR W ea ca en cn es cs) => ccheck_any lv ea ca en ec cn cc es cs W g hn hm)
  clear h
  by_cases hz : chW lv es cs = 0
  · have HV := Lib.hid (show Value.tuple #[.string ⟨(putC lv es cs).toArray⟩, .int .i64 0] = cputV lv es cs by unfold cputV; rw [if_pos hz])
    obtain ⟨hfit, hok⟩ := chW_zero hz
    obtain ⟨f1, f2, f3, f4, f5⟩ := fitB_yes hfit
    rw [hz] at HCK
    have HOK := Lib.hid hok
    have HF4 := Lib.hid f4
    have HF5 := Lib.hid f5
    have hen : en ≤ 8 := by rw [← LE.out]; exact f3
    have HHL := Lib.hid (headC_len lv en)
    have HKL := Lib.hid (putK_len lv es cs hok)
    obtain ⟨N, hN⟩ : ∃ N : ByteArray, N = ⟨(put en).toArray⟩ := ⟨_, rfl⟩
    have PN := Lib.hid (fun W : World => putNum_any (en : Int) W (by omega))
    rw [Int.toNat_natCast, ← hN] at PN
    have HN := Lib.hid hN
    have hNs : N.size ≤ 10 := by have := put_len en; rw [hN, bytes_sizeM]; exact this
    clear hz hfit hok f3 f4 f5 hN
    by_cases h0 : lv = 0
    · have HLV := Lib.hid h0
      have hlz : (lv == 0) = true := by simpa using h0
      have HHD := Lib.hid (show ([] ++ (⟨#[76]⟩ : ByteArray).data.toList) ++ N.data.toList = headC lv en by unfold headC; rw [if_pos h0, HN.out]; rfl)
      clear h0
      have HB1 := Lib.hid (Below.refl w.heap.size w)
      go_enter Try.func77, Try.ntmps77
      have HF2 := Lib.hid (blk_new w (.cells #[.int .i64 lv, .slice ea en ec, .slice ca cn cc] 26 (0, 0)))
      have HB3 := Lib.hid (HB1.out.alloc HB1.out.size (.cells #[.int .i64 lv, .slice ea en ec, .slice ca cn cc] 26 (0, 0)))
      clear HB1
      have hc4 : (w.alloc (.cells #[.int .i64 lv, .slice ea en ec, .slice ca cn cc] 26 (0, 0))).cell? ⟨w.heap.size, 0, none⟩ = some (.int .i64 lv) := by rw [cell_of_row _ _ _ _ _ _ HF2.out]; rfl
      have hc5 : (w.alloc (.cells #[.int .i64 lv, .slice ea en ec, .slice ca cn cc] 26 (0, 0))).cell? ⟨w.heap.size, 1, none⟩ = some (.slice ea en ec) := by rw [cell_of_row _ _ _ _ _ _ HF2.out]; rfl
      have hc6 : (w.alloc (.cells #[.int .i64 lv, .slice ea en ec, .slice ca cn cc] 26 (0, 0))).cell? ⟨w.heap.size, 2, none⟩ = some (.slice ca cn cc) := by rw [cell_of_row _ _ _ _ _ _ HF2.out]; rfl
      go_wp2_with fail
      clear hc4 hc5 hc6
      refine (HCK.out (w.alloc (.cells #[.int .i64 lv, .slice ea en ec, .slice ca cn cc] 26 (0, 0))) (H.out.below HB3.out)).mono ?_
      rintro e w1 ⟨rfl, hb1⟩
      have HF7 := Lib.hid (blk_below HF2.out hb1)
      have HB8 := Lib.hid (HB3.out.trans (hb1.mono HB3.out.size))
      clear hb1 HB3 HF2
      have hc9 : w1.cell? ⟨w.heap.size, 0, none⟩ = some (.int .i64 lv) := by rw [cell_of_row _ _ _ _ _ _ HF7.out]; rfl
      have hc10 : w1.cell? ⟨w.heap.size, 1, none⟩ = some (.slice ea en ec) := by rw [cell_of_row _ _ _ _ _ _ HF7.out]; rfl
      have hc11 : w1.cell? ⟨w.heap.size, 2, none⟩ = some (.slice ca cn cc) := by rw [cell_of_row _ _ _ _ _ _ HF7.out]; rfl
      have HBD0 := HB8
      go_upto_region 5 with (fail)
      clear hc9 hc10 hc11
      obtain ⟨D, hDe⟩ : ∃ D, D = w1.heap.size := ⟨_, rfl⟩
      have HDE := Lib.hid hDe
      have HF12 := Lib.hid (blk_alloc HF7.out (.cells #[.pointer none, .slice none 0 0] 190 (0, 0)))
      have HF13 := Lib.hid (blk_new w1 (.cells #[.pointer none, .slice none 0 0] 190 (0, 0)))
      have HB14 := Lib.hid (HB8.out.alloc HB8.out.size (.cells #[.pointer none, .slice none 0 0] 190 (0, 0)))
      clear HB8
      have HD15 : Hid (Bld (w1.alloc (.cells #[.pointer none, .slice none 0 0] 190 (0, 0))) D D []) := Lib.hid (by rw [hDe]; exact Bld.new w1)
      have hDw : w.heap.size ≤ D := by rw [hDe]; exact HBD0.out.size
      clear HF13 hDe
      rw [← HDE.out]
      have hCl : w.heap.size < D := by rw [HDE.out]; exact lt_of_block HF7.out
      have hc16 : (w1.alloc (.cells #[.pointer none, .slice none 0 0] 190 (0, 0))).cell? ⟨w.heap.size, 0, none⟩ = some (.int .i64 lv) := by rw [cell_of_row _ _ _ _ _ _ HF12.out]; rfl
      have hc17 : w1.cell? ⟨w.heap.size, 0, none⟩ = some (.int .i64 lv) := by rw [cell_of_row _ _ _ _ _ _ HF7.out]; rfl
      have hc18 : (w1.alloc (.cells #[.pointer none, .slice none 0 0] 190 (0, 0))).cell? ⟨w.heap.size, 1, none⟩ = some (.slice ea en ec) := by rw [cell_of_row _ _ _ _ _ _ HF12.out]; rfl
      have hc19 : w1.cell? ⟨w.heap.size, 1, none⟩ = some (.slice ea en ec) := by rw [cell_of_row _ _ _ _ _ _ HF7.out]; rfl
      have hc20 : (w1.alloc (.cells #[.pointer none, .slice none 0 0] 190 (0, 0))).cell? ⟨w.heap.size, 2, none⟩ = some (.slice ca cn cc) := by rw [cell_of_row _ _ _ _ _ _ HF12.out]; rfl
      have hc21 : w1.cell? ⟨w.heap.size, 2, none⟩ = some (.slice ca cn cc) := by rw [cell_of_row _ _ _ _ _ _ HF7.out]; rfl
      have hl22 : w.heap.size < w1.heap.size := lt_of_block HF7.out
      have hl23 : ¬ w.heap.size = w1.heap.size := by omega
      go_wp2_with fail
      clear hc16 hc17 hc18 hc19 hc20 hc21 hl22 hl23
      refine (write_keep D D ([]) ⟨#[76]⟩ (w1.alloc (.cells #[.pointer none, .slice none 0 0] 190 (0, 0))) HD15.out (by simp [ByteArray.size]) (by have := HD15.out.lt; omega)).mono ?_
      rintro e w2 ⟨rfl, hbl2, hbe2, hkp2⟩
      have HF24 := Lib.hid (hkp2 _ _ HF12.out (by omega) (by intro cs fr e; injection e with _ h _; exact absurd h (by decide)))
      have HB25 := Lib.hid (HB14.out.trans (hbe2.mono hDw))
      have HD26 := Lib.hid hbl2
      clear hbl2 hbe2 hkp2 HD15 HB14 HF12 HF7
      have hDl2 : D < w2.heap.size := HD26.out.lt
      have hc27 : w2.cell? ⟨w.heap.size, 0, none⟩ = some (.int .i64 lv) := by rw [cell_of_row _ _ _ _ _ _ HF24.out]; rfl
      have hc28 : w2.cell? ⟨w.heap.size, 1, none⟩ = some (.slice ea en ec) := by rw [cell_of_row _ _ _ _ _ _ HF24.out]; rfl
      have hc29 : w2.cell? ⟨w.heap.size, 2, none⟩ = some (.slice ca cn cc) := by rw [cell_of_row _ _ _ _ _ _ HF24.out]; rfl
      go_wp2_with fail
      clear hc27 hc28 hc29
      refine (PN.out w2).mono ?_
      rintro e w3 ⟨rfl, hb3⟩
      have HF30 := Lib.hid (blk_below HF24.out hb3)
      have HB31 := Lib.hid (HB25.out.trans (hb3.mono HB25.out.size))
      have HD32 := Lib.hid (HD26.out.later hb3)
      clear HD26
      clear hb3 HB25 HF24
      go_wp2_with fail
      refine (write_keep D D ([] ++ (⟨#[76]⟩ : ByteArray).data.toList) N w3 HD32.out (by simp <;> omega) (by have := HD32.out.lt; omega)).mono ?_
      rintro e w4 ⟨rfl, hbl4, hbe4, hkp4⟩
      have HF33 := Lib.hid (hkp4 _ _ HF30.out (by omega) (by intro cs fr e; injection e with _ h _; exact absurd h (by decide)))
      have HB34 := Lib.hid (HB31.out.trans (hbe4.mono hDw))
      have HD35 := Lib.hid hbl4
      clear hbl4 hbe4 hkp4 HD32 HB31 HF30
      have hDl4 : D < w4.heap.size := HD35.out.lt
      have hc36 : w4.cell? ⟨w.heap.size, 0, none⟩ = some (.int .i64 lv) := by rw [cell_of_row _ _ _ _ _ _ HF33.out]; rfl
      have hc37 : w4.cell? ⟨w.heap.size, 1, none⟩ = some (.slice ea en ec) := by rw [cell_of_row _ _ _ _ _ _ HF33.out]; rfl
      have hc38 : w4.cell? ⟨w.heap.size, 2, none⟩ = some (.slice ca cn cc) := by rw [cell_of_row _ _ _ _ _ _ HF33.out]; rfl
      go_wp2_with fail
      clear hc36 hc37 hc38
      have HD0 : Hid (Bld w4 D D (headC lv en ++ putK lv es cs 0)) := Lib.hid (by have := HD35.out; rw [HHD.out] at this; rw [show headC lv en ++ putK lv es cs 0 = headC lv en by unfold putK; rw [List.append_nil]]; exact this)
      go_loopw [30] (fun i wr => ∃ k : Nat, i = .int .i64 (k : Int) ∧ k ≤ en ∧ Bld wr D D (headC lv en ++ putK lv es cs k) ∧ wr.heap[w.heap.size]? = some (.cells #[.int .i64 lv, .slice ea en ec, .slice ca cn cc] 26 (0, 0)) ∧ Below w.heap.size w wr) (fun i _ => en - (intOf i).toNat)
      case atStart => exact ⟨0, rfl, Nat.zero_le _, HD0.out, HF33.out, HB34.out⟩
      case round =>
        obtain ⟨k, rfl, hk, hbd, hbx, hb⟩ := hrel
        have HD1 := Lib.hid hbd
        have HC := Lib.hid hbx
        have HB := Lib.hid hb
        have hDl := hbd.lt
        have hCw := lt_of_block hbx
        clear hbd hbx hb
        have hacc : (headC lv en ++ putK lv es cs k).length ≤ 20000 := by
          have h1 := HHL.out
          have h2 := HKL.out k (by rw [LE.out]; exact hk)
          rw [List.length_append]; omega
        by_cases hlt : k < en
        · have hd1 : decide ((k : Int) < (en : Int)) = true := decide_eq_true (by omega)
          have RE := Lib.hid (H.out.below HB.out)
          obtain ⟨b, off, hl, rfl, hbb, hc⟩ := RE.out.e.at hlt
          have hok := HOK.out es[k] (List.getElem_mem hl)
          have HGD := Lib.hid (getD_mem es k (⟨#[]⟩, ⟨#[]⟩) hl)
          obtain ⟨x, hx⟩ : ∃ x, es[k] = x := ⟨_, rfl⟩
          rw [hx] at hc HGD hok
          obtain ⟨s, v⟩ := x
          obtain ⟨s1, s2, s3⟩ := okE_yes hok
          dsimp only at s1 s2 s3
          have a0 : wr.cell? ⟨b, off + k * 2, none⟩ = some (.string s) := hc 0 _ rfl
          have a1 : wr.cell? ⟨b, off + k * 2 + 1, none⟩ = some (.string v) := hc 1 _ rfl
          clear hc hx hok
          obtain ⟨T1, hT1⟩ : ∃ T1 : ByteArray, T1 = ⟨(put s.size).toArray⟩ ++ s := ⟨_, rfl⟩
          have PT1 := Lib.hid (fun W : World => putText_any s W (by omega))
          rw [← hT1] at PT1
          have hT1s : T1.size ≤ 80 := by have := put_len s.size; rw [hT1, ByteArray.size_append, bytes_sizeM]; omega
          have HT1 := Lib.hid (show T1.data.toList = put s.size ++ s.data.toList by rw [hT1, ba_app])
          clear hT1
          have HF101 := Lib.hid (blk_alloc HC.out (.cells #[.string s, .string v] 36 (0, 0)))
          have HF102 := Lib.hid (blk_new wr (.cells #[.string s, .string v] 36 (0, 0)))
          have HB103 := Lib.hid (HB.out.alloc HB.out.size (.cells #[.string s, .string v] 36 (0, 0)))
          clear HB
          have HD104 := Lib.hid (HD1.out.later ((Below.refl _ wr).alloc (Nat.le_refl _) (.cells #[.string s, .string v] 36 (0, 0))))
          clear HD1
          have hc105 : (wr.alloc (.cells #[.string s, .string v] 36 (0, 0))).cell? ⟨w.heap.size, 0, none⟩ = some (.int .i64 lv) := by rw [cell_of_row _ _ _ _ _ _ HF101.out]; rfl
          have hc106 : wr.cell? ⟨w.heap.size, 0, none⟩ = some (.int .i64 lv) := by rw [cell_of_row _ _ _ _ _ _ HC.out]; rfl
          have hc107 : (wr.alloc (.cells #[.string s, .string v] 36 (0, 0))).cell? ⟨w.heap.size, 1, none⟩ = some (.slice (some ⟨b, off, none⟩) en ec) := by rw [cell_of_row _ _ _ _ _ _ HF101.out]; rfl
          have hc108 : wr.cell? ⟨w.heap.size, 1, none⟩ = some (.slice (some ⟨b, off, none⟩) en ec) := by rw [cell_of_row _ _ _ _ _ _ HC.out]; rfl
          have hc109 : (wr.alloc (.cells #[.string s, .string v] 36 (0, 0))).cell? ⟨w.heap.size, 2, none⟩ = some (.slice ca cn cc) := by rw [cell_of_row _ _ _ _ _ _ HF101.out]; rfl
          have hc110 : wr.cell? ⟨w.heap.size, 2, none⟩ = some (.slice ca cn cc) := by rw [cell_of_row _ _ _ _ _ _ HC.out]; rfl
          have hl111 : w.heap.size < wr.heap.size := lt_of_block HC.out
          have hl112 : ¬ w.heap.size = wr.heap.size := by omega
          have hc113 : (wr.alloc (.cells #[.string s, .string v] 36 (0, 0))).cell? ⟨wr.heap.size, 0, none⟩ = some (.string s) := by rw [cell_of_row _ _ _ _ _ _ HF102.out]; rfl
          have hc114 : (wr.alloc (.cells #[.string s, .string v] 36 (0, 0))).cell? ⟨wr.heap.size, 1, none⟩ = some (.string v) := by rw [cell_of_row _ _ _ _ _ _ HF102.out]; rfl
          go_wp2_with fail
          clear hc105 hc106 hc107 hc108 hc109 hc110 hl111 hl112 hc113 hc114
          refine (PT1.out (wr.alloc (.cells #[.string s, .string v] 36 (0, 0)))).mono ?_
          rintro e w11 ⟨rfl, hb11⟩
          have HF115 := Lib.hid (blk_below HF101.out hb11)
          have HF116 := Lib.hid (blk_below HF102.out hb11)
          have HB117 := Lib.hid (HB103.out.trans (hb11.mono HB103.out.size))
          have HD118 := Lib.hid (HD104.out.later hb11)
          clear HD104
          clear hb11 HB103 HF101 HC HF102
          have hk119 : w.heap.size < w11.heap.size := lt_of_block HF115.out
          have hk120 : wr.heap.size < w11.heap.size := lt_of_block HF116.out
          go_wp2_with fail
          refine (write_keep D D (headC lv en ++ putK lv es cs k) T1 w11 HD118.out (by omega) (by have := HD118.out.lt; omega)).mono ?_
          rintro e w12 ⟨rfl, hbl12, hbe12, hkp12⟩
          have HF121 := Lib.hid (hkp12 _ _ HF115.out (by omega) (by intro cs fr e; injection e with _ h _; exact absurd h (by decide)))
          have HF122 := Lib.hid (hkp12 _ _ HF116.out (by omega) (by intro cs fr e; injection e with _ h _; exact absurd h (by decide)))
          have HB123 := Lib.hid (HB117.out.trans (hbe12.mono hDw))
          have HD124 := Lib.hid hbl12
          clear hbl12 hbe12 hkp12 HD118 HB117 HF115 HF116
          have hDl12 : D < w12.heap.size := HD124.out.lt
          have hk125 : w.heap.size < w12.heap.size := lt_of_block HF121.out
          have hk126 : wr.heap.size < w12.heap.size := lt_of_block HF122.out
          obtain ⟨T2, hT2⟩ : ∃ T2 : ByteArray, T2 = ⟨(put v.size).toArray⟩ ++ v := ⟨_, rfl⟩
          have PT2 := Lib.hid (fun W : World => putText_any v W (by omega))
          rw [← hT2] at PT2
          have hT2s : T2.size ≤ 2060 := by have := put_len v.size; rw [hT2, ByteArray.size_append, bytes_sizeM]; omega
          have HT2 := Lib.hid (show T2.data.toList = put v.size ++ v.data.toList by rw [hT2, ba_app])
          clear hT2
          have hc127 : w12.cell? ⟨w.heap.size, 0, none⟩ = some (.int .i64 lv) := by rw [cell_of_row _ _ _ _ _ _ HF121.out]; rfl
          have hc128 : w12.cell? ⟨w.heap.size, 1, none⟩ = some (.slice (some ⟨b, off, none⟩) en ec) := by rw [cell_of_row _ _ _ _ _ _ HF121.out]; rfl
          have hc129 : w12.cell? ⟨w.heap.size, 2, none⟩ = some (.slice ca cn cc) := by rw [cell_of_row _ _ _ _ _ _ HF121.out]; rfl
          have hc130 : w12.cell? ⟨wr.heap.size, 0, none⟩ = some (.string s) := by rw [cell_of_row _ _ _ _ _ _ HF122.out]; rfl
          have hc131 : w12.cell? ⟨wr.heap.size, 1, none⟩ = some (.string v) := by rw [cell_of_row _ _ _ _ _ _ HF122.out]; rfl
          go_wp2_with fail
          clear hc127 hc128 hc129 hc130 hc131
          refine (PT2.out w12).mono ?_
          rintro e w13 ⟨rfl, hb13⟩
          have HF132 := Lib.hid (blk_below HF121.out hb13)
          have HF133 := Lib.hid (blk_below HF122.out hb13)
          have HB134 := Lib.hid (HB123.out.trans (hb13.mono HB123.out.size))
          have HD135 := Lib.hid (HD124.out.later hb13)
          clear HD124
          clear hb13 HB123 HF121 HF122
          have hk136 : w.heap.size < w13.heap.size := lt_of_block HF132.out
          have hk137 : wr.heap.size < w13.heap.size := lt_of_block HF133.out
          go_wp2_with fail
          refine (write_keep D D ((headC lv en ++ putK lv es cs k) ++ T1.data.toList) T2 w13 HD135.out (by rw [List.length_append, ba_len]; omega) (by have := HD135.out.lt; omega)).mono ?_
          rintro e w14 ⟨rfl, hbl14, hbe14, hkp14⟩
          have HF138 := Lib.hid (hkp14 _ _ HF132.out (by omega) (by intro cs fr e; injection e with _ h _; exact absurd h (by decide)))
          have HF139 := Lib.hid (hkp14 _ _ HF133.out (by omega) (by intro cs fr e; injection e with _ h _; exact absurd h (by decide)))
          have HB140 := Lib.hid (HB134.out.trans (hbe14.mono hDw))
          have HD141 := Lib.hid hbl14
          clear hbl14 hbe14 hkp14 HD135 HB134 HF132 HF133
          have hDl14 : D < w14.heap.size := HD141.out.lt
          go_wp2_with fail
          have HE := Lib.hid (show ((headC lv en ++ putK lv es cs k) ++ T1.data.toList) ++ T2.data.toList = headC lv en ++ putK lv es cs (k + 1) by show _ = headC lv en ++ (putK lv es cs k ++ putE lv (es.getD k (⟨#[]⟩, ⟨#[]⟩)) (cs.getD k 0)); rw [HGD.out]; unfold putE; rw [if_pos HLV.out, HT1.out, HT2.out]; simp only [List.append_assoc])
          go_roundw
          case rel => exact ⟨k + 1, by go_num, by omega, HE.out ▸ HD141.out, HF138.out, HB140.out⟩
          case measure => simp [intOf] <;> omega
        · obtain rfl : k = en := by omega
          have hd1 : decide ((k : Int) < (k : Int)) = false := decide_eq_false (by omega)
          have hne : headC lv k ++ putK lv es cs k ≠ [] := by unfold headC; split <;> simp
          go_wp2_with fail
          refine (bstr_some D D _ wr HD1.out hne).mono ?_
          rintro e w2 ⟨rfl, hb2⟩
          have HB2 := Lib.hid (HB.out.trans (hb2.mono hDw))
          clear hb2
          go_wp2_with fail
          go_ret2
          exact ⟨congrArg Ending.returned ((show Value.tuple #[.string ⟨(headC lv k ++ putK lv es cs k).toArray⟩, .int .i64 0] = _ by rw [← HV.out]; unfold putC; rw [LE.out])), HB2.out⟩
    · have HLV := Lib.hid h0
      have hlz : (lv == 0) = false := by simpa using h0
      obtain ⟨L1, hL1⟩ : ∃ L1 : ByteArray, L1 = ⟨(put lv.toNat).toArray⟩ := ⟨_, rfl⟩
      have PL := Lib.hid (fun W : World => putNum_any lv W (by omega))
      rw [← hL1] at PL
      have hL1s : L1.size ≤ 10 := by have := put_len lv.toNat; rw [hL1, bytes_sizeM]; exact this
      obtain ⟨L0, hL0⟩ : ∃ L0 : ByteArray, L0 = ⟨#[73]⟩ ++ L1 := ⟨_, rfl⟩
      have hL0s : L0.size ≤ 11 := by rw [hL0, ByteArray.size_append]; have : (⟨#[73]⟩ : ByteArray).size = 1 := rfl; omega
      have q0 : ∀ W, (Op.stringOp .add ⟨#[73]⟩ L1).run Try.prog W = .ok (.string L0) W := fun W => by rw [hL0]; exact run_string_add_sum W _ _ (by have : (⟨#[73]⟩ : ByteArray).size = 1 := rfl; omega)
      have HHD := Lib.hid (show ([] ++ L0.data.toList) ++ N.data.toList = headC lv en by unfold headC; rw [if_neg h0, HN.out, hL0, hL1]; simp)
      clear h0 hL0 hL1
      have HB1 := Lib.hid (Below.refl w.heap.size w)
      go_enter Try.func77, Try.ntmps77
      have HF2 := Lib.hid (blk_new w (.cells #[.int .i64 lv, .slice ea en ec, .slice ca cn cc] 26 (0, 0)))
      have HB3 := Lib.hid (HB1.out.alloc HB1.out.size (.cells #[.int .i64 lv, .slice ea en ec, .slice ca cn cc] 26 (0, 0)))
      clear HB1
      have hc4 : (w.alloc (.cells #[.int .i64 lv, .slice ea en ec, .slice ca cn cc] 26 (0, 0))).cell? ⟨w.heap.size, 0, none⟩ = some (.int .i64 lv) := by rw [cell_of_row _ _ _ _ _ _ HF2.out]; rfl
      have hc5 : (w.alloc (.cells #[.int .i64 lv, .slice ea en ec, .slice ca cn cc] 26 (0, 0))).cell? ⟨w.heap.size, 1, none⟩ = some (.slice ea en ec) := by rw [cell_of_row _ _ _ _ _ _ HF2.out]; rfl
      have hc6 : (w.alloc (.cells #[.int .i64 lv, .slice ea en ec, .slice ca cn cc] 26 (0, 0))).cell? ⟨w.heap.size, 2, none⟩ = some (.slice ca cn cc) := by rw [cell_of_row _ _ _ _ _ _ HF2.out]; rfl
      go_wp2_with fail
      clear hc4 hc5 hc6
      refine (HCK.out (w.alloc (.cells #[.int .i64 lv, .slice ea en ec, .slice ca cn cc] 26 (0, 0))) (H.out.below HB3.out)).mono ?_
      rintro e w1 ⟨rfl, hb1⟩
      have HF7 := Lib.hid (blk_below HF2.out hb1)
      have HB8 := Lib.hid (HB3.out.trans (hb1.mono HB3.out.size))
      clear hb1 HB3 HF2
      have hc9 : w1.cell? ⟨w.heap.size, 0, none⟩ = some (.int .i64 lv) := by rw [cell_of_row _ _ _ _ _ _ HF7.out]; rfl
      have hc10 : w1.cell? ⟨w.heap.size, 1, none⟩ = some (.slice ea en ec) := by rw [cell_of_row _ _ _ _ _ _ HF7.out]; rfl
      have hc11 : w1.cell? ⟨w.heap.size, 2, none⟩ = some (.slice ca cn cc) := by rw [cell_of_row _ _ _ _ _ _ HF7.out]; rfl
      have HBD0 := HB8
      go_upto_region 5 with (fail)
      clear hc9 hc10 hc11
      obtain ⟨D, hDe⟩ : ∃ D, D = w1.heap.size := ⟨_, rfl⟩
      have HDE := Lib.hid hDe
      have HF12 := Lib.hid (blk_alloc HF7.out (.cells #[.pointer none, .slice none 0 0] 190 (0, 0)))
      have HF13 := Lib.hid (blk_new w1 (.cells #[.pointer none, .slice none 0 0] 190 (0, 0)))
      have HB14 := Lib.hid (HB8.out.alloc HB8.out.size (.cells #[.pointer none, .slice none 0 0] 190 (0, 0)))
      clear HB8
      have HD15 : Hid (Bld (w1.alloc (.cells #[.pointer none, .slice none 0 0] 190 (0, 0))) D D []) := Lib.hid (by rw [hDe]; exact Bld.new w1)
      have hDw : w.heap.size ≤ D := by rw [hDe]; exact HBD0.out.size
      clear HF13 hDe
      rw [← HDE.out]
      have hCl : w.heap.size < D := by rw [HDE.out]; exact lt_of_block HF7.out
      have hc16 : (w1.alloc (.cells #[.pointer none, .slice none 0 0] 190 (0, 0))).cell? ⟨w.heap.size, 0, none⟩ = some (.int .i64 lv) := by rw [cell_of_row _ _ _ _ _ _ HF12.out]; rfl
      have hc17 : w1.cell? ⟨w.heap.size, 0, none⟩ = some (.int .i64 lv) := by rw [cell_of_row _ _ _ _ _ _ HF7.out]; rfl
      have hc18 : (w1.alloc (.cells #[.pointer none, .slice none 0 0] 190 (0, 0))).cell? ⟨w.heap.size, 1, none⟩ = some (.slice ea en ec) := by rw [cell_of_row _ _ _ _ _ _ HF12.out]; rfl
      have hc19 : w1.cell? ⟨w.heap.size, 1, none⟩ = some (.slice ea en ec) := by rw [cell_of_row _ _ _ _ _ _ HF7.out]; rfl
      have hc20 : (w1.alloc (.cells #[.pointer none, .slice none 0 0] 190 (0, 0))).cell? ⟨w.heap.size, 2, none⟩ = some (.slice ca cn cc) := by rw [cell_of_row _ _ _ _ _ _ HF12.out]; rfl
      have hc21 : w1.cell? ⟨w.heap.size, 2, none⟩ = some (.slice ca cn cc) := by rw [cell_of_row _ _ _ _ _ _ HF7.out]; rfl
      have hl22 : w.heap.size < w1.heap.size := lt_of_block HF7.out
      have hl23 : ¬ w.heap.size = w1.heap.size := by omega
      go_wp2_with fail
      clear hc16 hc17 hc18 hc19 hc20 hc21 hl22 hl23
      refine (PL.out (w1.alloc (.cells #[.pointer none, .slice none 0 0] 190 (0, 0)))).mono ?_
      rintro e w2 ⟨rfl, hb2⟩
      have HF24 := Lib.hid (blk_below HF12.out hb2)
      have HB25 := Lib.hid (HB14.out.trans (hb2.mono HB14.out.size))
      have HD26 := Lib.hid (HD15.out.later hb2)
      clear HD15
      clear hb2 HB14 HF12 HF7
      go_wp2_with fail
      refine (write_keep D D ([]) L0 w2 HD26.out (by rw [List.length_nil]; omega) (by have := HD26.out.lt; omega)).mono ?_
      rintro e w3 ⟨rfl, hbl3, hbe3, hkp3⟩
      have HF27 := Lib.hid (hkp3 _ _ HF24.out (by omega) (by intro cs fr e; injection e with _ h _; exact absurd h (by decide)))
      have HB28 := Lib.hid (HB25.out.trans (hbe3.mono hDw))
      have HD29 := Lib.hid hbl3
      clear hbl3 hbe3 hkp3 HD26 HB25 HF24
      have hDl3 : D < w3.heap.size := HD29.out.lt
      have hc30 : w3.cell? ⟨w.heap.size, 0, none⟩ = some (.int .i64 lv) := by rw [cell_of_row _ _ _ _ _ _ HF27.out]; rfl
      have hc31 : w3.cell? ⟨w.heap.size, 1, none⟩ = some (.slice ea en ec) := by rw [cell_of_row _ _ _ _ _ _ HF27.out]; rfl
      have hc32 : w3.cell? ⟨w.heap.size, 2, none⟩ = some (.slice ca cn cc) := by rw [cell_of_row _ _ _ _ _ _ HF27.out]; rfl
      go_wp2_with fail
      clear hc30 hc31 hc32
      refine (PN.out w3).mono ?_
      rintro e w4 ⟨rfl, hb4⟩
      have HF33 := Lib.hid (blk_below HF27.out hb4)
      have HB34 := Lib.hid (HB28.out.trans (hb4.mono HB28.out.size))
      have HD35 := Lib.hid (HD29.out.later hb4)
      clear HD29
      clear hb4 HB28 HF27
      go_wp2_with fail
      refine (write_keep D D ([] ++ L0.data.toList) N w4 HD35.out (by simp <;> omega) (by have := HD35.out.lt; omega)).mono ?_
      rintro e w5 ⟨rfl, hbl5, hbe5, hkp5⟩
      have HF36 := Lib.hid (hkp5 _ _ HF33.out (by omega) (by intro cs fr e; injection e with _ h _; exact absurd h (by decide)))
      have HB37 := Lib.hid (HB34.out.trans (hbe5.mono hDw))
      have HD38 := Lib.hid hbl5
      clear hbl5 hbe5 hkp5 HD35 HB34 HF33
      have hDl5 : D < w5.heap.size := HD38.out.lt
      have hc39 : w5.cell? ⟨w.heap.size, 0, none⟩ = some (.int .i64 lv) := by rw [cell_of_row _ _ _ _ _ _ HF36.out]; rfl
      have hc40 : w5.cell? ⟨w.heap.size, 1, none⟩ = some (.slice ea en ec) := by rw [cell_of_row _ _ _ _ _ _ HF36.out]; rfl
      have hc41 : w5.cell? ⟨w.heap.size, 2, none⟩ = some (.slice ca cn cc) := by rw [cell_of_row _ _ _ _ _ _ HF36.out]; rfl
      go_wp2_with fail
      clear hc39 hc40 hc41
      have HD0 : Hid (Bld w5 D D (headC lv en ++ putK lv es cs 0)) := Lib.hid (by have := HD38.out; rw [HHD.out] at this; rw [show headC lv en ++ putK lv es cs 0 = headC lv en by unfold putK; rw [List.append_nil]]; exact this)
      go_loopw [30] (fun i wr => ∃ k : Nat, i = .int .i64 (k : Int) ∧ k ≤ en ∧ Bld wr D D (headC lv en ++ putK lv es cs k) ∧ wr.heap[w.heap.size]? = some (.cells #[.int .i64 lv, .slice ea en ec, .slice ca cn cc] 26 (0, 0)) ∧ Below w.heap.size w wr) (fun i _ => en - (intOf i).toNat)
      case atStart => exact ⟨0, rfl, Nat.zero_le _, HD0.out, HF36.out, HB37.out⟩
      case round =>
        obtain ⟨k, rfl, hk, hbd, hbx, hb⟩ := hrel
        have HD1 := Lib.hid hbd
        have HC := Lib.hid hbx
        have HB := Lib.hid hb
        have hDl := hbd.lt
        have hCw := lt_of_block hbx
        clear hbd hbx hb
        have hacc : (headC lv en ++ putK lv es cs k).length ≤ 20000 := by
          have h1 := HHL.out
          have h2 := HKL.out k (by rw [LE.out]; exact hk)
          rw [List.length_append]; omega
        by_cases hlt : k < en
        · have hd1 : decide ((k : Int) < (en : Int)) = true := decide_eq_true (by omega)
          have RE := Lib.hid (H.out.below HB.out)
          obtain ⟨b, off, hl, rfl, hbb, hc⟩ := RE.out.e.at hlt
          have hok := HOK.out es[k] (List.getElem_mem hl)
          have HGD := Lib.hid (getD_mem es k (⟨#[]⟩, ⟨#[]⟩) hl)
          obtain ⟨x, hx⟩ : ∃ x, es[k] = x := ⟨_, rfl⟩
          rw [hx] at hc HGD hok
          obtain ⟨s, v⟩ := x
          obtain ⟨s1, s2, s3⟩ := okE_yes hok
          dsimp only at s1 s2 s3
          have a0 : wr.cell? ⟨b, off + k * 2, none⟩ = some (.string s) := hc 0 _ rfl
          have a1 : wr.cell? ⟨b, off + k * 2 + 1, none⟩ = some (.string v) := hc 1 _ rfl
          clear hc hx hok
          obtain ⟨T1, hT1⟩ : ∃ T1 : ByteArray, T1 = ⟨(put s.size).toArray⟩ ++ s := ⟨_, rfl⟩
          have PT1 := Lib.hid (fun W : World => putText_any s W (by omega))
          rw [← hT1] at PT1
          have hT1s : T1.size ≤ 80 := by have := put_len s.size; rw [hT1, ByteArray.size_append, bytes_sizeM]; omega
          have HT1 := Lib.hid (show T1.data.toList = put s.size ++ s.data.toList by rw [hT1, ba_app])
          clear hT1
          have HF101 := Lib.hid (blk_alloc HC.out (.cells #[.string s, .string v] 36 (0, 0)))
          have HF102 := Lib.hid (blk_new wr (.cells #[.string s, .string v] 36 (0, 0)))
          have HB103 := Lib.hid (HB.out.alloc HB.out.size (.cells #[.string s, .string v] 36 (0, 0)))
          clear HB
          have HD104 := Lib.hid (HD1.out.later ((Below.refl _ wr).alloc (Nat.le_refl _) (.cells #[.string s, .string v] 36 (0, 0))))
          clear HD1
          have hc105 : (wr.alloc (.cells #[.string s, .string v] 36 (0, 0))).cell? ⟨w.heap.size, 0, none⟩ = some (.int .i64 lv) := by rw [cell_of_row _ _ _ _ _ _ HF101.out]; rfl
          have hc106 : wr.cell? ⟨w.heap.size, 0, none⟩ = some (.int .i64 lv) := by rw [cell_of_row _ _ _ _ _ _ HC.out]; rfl
          have hc107 : (wr.alloc (.cells #[.string s, .string v] 36 (0, 0))).cell? ⟨w.heap.size, 1, none⟩ = some (.slice (some ⟨b, off, none⟩) en ec) := by rw [cell_of_row _ _ _ _ _ _ HF101.out]; rfl
          have hc108 : wr.cell? ⟨w.heap.size, 1, none⟩ = some (.slice (some ⟨b, off, none⟩) en ec) := by rw [cell_of_row _ _ _ _ _ _ HC.out]; rfl
          have hc109 : (wr.alloc (.cells #[.string s, .string v] 36 (0, 0))).cell? ⟨w.heap.size, 2, none⟩ = some (.slice ca cn cc) := by rw [cell_of_row _ _ _ _ _ _ HF101.out]; rfl
          have hc110 : wr.cell? ⟨w.heap.size, 2, none⟩ = some (.slice ca cn cc) := by rw [cell_of_row _ _ _ _ _ _ HC.out]; rfl
          have hl111 : w.heap.size < wr.heap.size := lt_of_block HC.out
          have hl112 : ¬ w.heap.size = wr.heap.size := by omega
          have hc113 : (wr.alloc (.cells #[.string s, .string v] 36 (0, 0))).cell? ⟨wr.heap.size, 0, none⟩ = some (.string s) := by rw [cell_of_row _ _ _ _ _ _ HF102.out]; rfl
          have hc114 : (wr.alloc (.cells #[.string s, .string v] 36 (0, 0))).cell? ⟨wr.heap.size, 1, none⟩ = some (.string v) := by rw [cell_of_row _ _ _ _ _ _ HF102.out]; rfl
          go_wp2_with fail
          clear hc105 hc106 hc107 hc108 hc109 hc110 hl111 hl112 hc113 hc114
          refine (PT1.out (wr.alloc (.cells #[.string s, .string v] 36 (0, 0)))).mono ?_
          rintro e w11 ⟨rfl, hb11⟩
          have HF115 := Lib.hid (blk_below HF101.out hb11)
          have HF116 := Lib.hid (blk_below HF102.out hb11)
          have HB117 := Lib.hid (HB103.out.trans (hb11.mono HB103.out.size))
          have HD118 := Lib.hid (HD104.out.later hb11)
          clear HD104
          clear hb11 HB103 HF101 HC HF102
          have hk119 : w.heap.size < w11.heap.size := lt_of_block HF115.out
          have hk120 : wr.heap.size < w11.heap.size := lt_of_block HF116.out
          go_wp2_with fail
          refine (write_keep D D (headC lv en ++ putK lv es cs k) T1 w11 HD118.out (by omega) (by have := HD118.out.lt; omega)).mono ?_
          rintro e w12 ⟨rfl, hbl12, hbe12, hkp12⟩
          have HF121 := Lib.hid (hkp12 _ _ HF115.out (by omega) (by intro cs fr e; injection e with _ h _; exact absurd h (by decide)))
          have HF122 := Lib.hid (hkp12 _ _ HF116.out (by omega) (by intro cs fr e; injection e with _ h _; exact absurd h (by decide)))
          have HB123 := Lib.hid (HB117.out.trans (hbe12.mono hDw))
          have HD124 := Lib.hid hbl12
          clear hbl12 hbe12 hkp12 HD118 HB117 HF115 HF116
          have hDl12 : D < w12.heap.size := HD124.out.lt
          have hk125 : w.heap.size < w12.heap.size := lt_of_block HF121.out
          have hk126 : wr.heap.size < w12.heap.size := lt_of_block HF122.out
          obtain ⟨hne, hcl, hcn⟩ := HF5.out HLV.out
          have hkc : k < cs.length := by rw [hcl, LE.out]; exact hlt
          have hkn : k < cn := by rw [← RE.out.c.1]; exact hkc
          obtain ⟨b3, off3, hl3, rfl, hbb3, hc3⟩ := H.out.c.at hkn
          have hcm := hcn cs[k] (List.getElem_mem hkc)
          have HGC := Lib.hid (getD_mem cs k 0 hkc)
          obtain ⟨q, hq⟩ : ∃ q, cs[k] = q := ⟨_, rfl⟩
          rw [hq] at hc3 hcm HGC
          have a3 := hc3 0 _ rfl
          rw [Nat.add_zero, Nat.mul_one] at a3
          obtain ⟨hq1, hq2⟩ := hcm
          clear hc3 hq hcn hne hcl
          obtain ⟨N2, hN2⟩ : ∃ N2 : ByteArray, N2 = ⟨(put q.toNat).toArray⟩ := ⟨_, rfl⟩
          have PN2 := Lib.hid (fun W : World => putNum_any q W (by omega))
          rw [← hN2] at PN2
          obtain ⟨SS, hSS⟩ : ∃ SS : ByteArray, SS = v ++ N2 := ⟨_, rfl⟩
          have hNs2 : N2.size ≤ 10 := by have := put_len q.toNat; rw [hN2, bytes_sizeM]; exact this
          have q1 : ∀ W, (Op.stringOp .add v N2).run Try.prog W = .ok (.string SS) W := fun W => by rw [hSS]; exact run_string_add_sum W _ _ (by omega)
          have hSSs : SS.size ≤ 2060 := by rw [hSS, ByteArray.size_append]; omega
          have HE := Lib.hid (show ((headC lv en ++ putK lv es cs k) ++ T1.data.toList) ++ SS.data.toList = headC lv en ++ putK lv es cs (k + 1) by show _ = headC lv en ++ (putK lv es cs k ++ putE lv (es.getD k (⟨#[]⟩, ⟨#[]⟩)) (cs.getD k 0)); rw [HGD.out, HGC.out]; unfold putE; rw [if_neg HLV.out, HT1.out, hSS, ba_app, hN2]; simp only [List.append_assoc])
          clear hSS hN2
          have hacc2 : ((headC lv en ++ putK lv es cs k) ++ T1.data.toList).length ≤ 20080 := by rw [List.length_append, ba_len]; omega
          have ST : QU lv (some ⟨b, off, none⟩) (some ⟨b3, off3, none⟩) en ec cn cc s v b3 (off3 + k) q w.heap.size D wr.heap.size ((headC lv en ++ putK lv es cs k) ++ T1.data.toList) w w12 := ⟨HF121.out, HF122.out, Nat.lt_of_lt_of_le hbb3 HB123.out.size, (HB123.out.cell (p := ⟨b3, _, none⟩) hbb3).trans a3, HD124.out, HB123.out, hDw⟩
          have hc0 : w12.cell? ⟨w.heap.size, 0, none⟩ = some (.int .i64 lv) := (cell_of_row _ _ _ _ _ _ ST.c).trans rfl
          have hc2 : w12.cell? ⟨w.heap.size, 2, none⟩ = some (.slice (some ⟨b3, off3, none⟩) cn cc) := (cell_of_row _ _ _ _ _ _ ST.c).trans rfl
          have hx1 : w12.cell? ⟨wr.heap.size, 1, none⟩ = some (.string v) := (cell_of_row _ _ _ _ _ _ ST.x).trans rfl
          have hn0 : w12.cell? ⟨b3, off3 + k, none⟩ = some (.int .i64 q) := ST.n
          have hi0 : (0 : Int) ≤ (k : Int) := by omega
          have hi1 : (k : Int) < (cn : Int) := by omega
          go_upto_region 15 with (fail)
          go_region_with (first
            | (go_at_call 134; (first | (with_reducible refine (PN2.out _).mono ?_)); rintro e v9 ⟨rfl, hbv⟩; (first | have ST := ST.later hbv | have ST := ST.drew.later hbv); have hc0 : v9.cell? ⟨w.heap.size, 0, none⟩ = some (.int .i64 lv) := (cell_of_row _ _ _ _ _ _ ST.c).trans rfl; have hc2 : v9.cell? ⟨w.heap.size, 2, none⟩ = some (.slice (some ⟨b3, off3, none⟩) cn cc) := (cell_of_row _ _ _ _ _ _ ST.c).trans rfl; have hx1 : v9.cell? ⟨wr.heap.size, 1, none⟩ = some (.string v) := (cell_of_row _ _ _ _ _ _ ST.x).trans rfl; have hn0 : v9.cell? ⟨b3, off3 + k, none⟩ = some (.int .i64 q) := ST.n)
            | (go_at_call 133; (first | (with_reducible refine (write_keep D D ((headC lv en ++ putK lv es cs k) ++ T1.data.toList) SS _ ST.bld (by omega) (by have := ST.bld.lt; omega)).mono ?_) | (with_reducible refine (write_keep D D ((headC lv en ++ putK lv es cs k) ++ T1.data.toList) SS _ ST.drew.bld (by omega) (by have := ST.drew.bld.lt; omega)).mono ?_)); rintro e v8 ⟨rfl, hbl3, hbe3, hkp3⟩))
          all_goals go_wp2_with fail
          all_goals go_roundw
          all_goals first | exact ⟨k + 1, by go_num, by omega, HE.out ▸ hbl3, hkp3 _ _ (show QU _ _ _ _ _ _ _ _ _ _ _ _ _ _ _ _ _ _ from by first | exact ST | exact ST.drew).c (by omega) (by intro cs fr e; injection e with _ h _; exact absurd h (by decide)), (show QU _ _ _ _ _ _ _ _ _ _ _ _ _ _ _ _ _ _ from by first | exact ST | exact ST.drew).bel.trans (hbe3.mono hDw)⟩ | (simp [intOf] <;> omega)
        · obtain rfl : k = en := by omega
          have hd1 : decide ((k : Int) < (k : Int)) = false := decide_eq_false (by omega)
          have hne : headC lv k ++ putK lv es cs k ≠ [] := by unfold headC; split <;> simp
          go_wp2_with fail
          refine (bstr_some D D _ wr HD1.out hne).mono ?_
          rintro e w2 ⟨rfl, hb2⟩
          have HB2 := Lib.hid (HB.out.trans (hb2.mono hDw))
          clear hb2
          go_wp2_with fail
          go_ret2
          exact ⟨congrArg Ending.returned ((show Value.tuple #[.string ⟨(headC lv k ++ putK lv es cs k).toArray⟩, .int .i64 0] = _ by rw [← HV.out]; unfold putC; rw [LE.out])), HB2.out⟩
  · have HV := Lib.hid (show Value.tuple #[.string ⟨#[]⟩, .int .i64 (chW lv es cs)] = cputV lv es cs by unfold cputV; rw [if_neg hz])
    have hzz : (chW lv es cs != 0) = true := by simpa using hz
    generalize chW lv es cs = z at HV HCK hzz
    clear hz
    have HB1 := Lib.hid (Below.refl w.heap.size w)
    go_enter Try.func77, Try.ntmps77
    have HF2 := Lib.hid (blk_new w (.cells #[.int .i64 lv, .slice ea en ec, .slice ca cn cc] 26 (0, 0)))
    have HB3 := Lib.hid (HB1.out.alloc HB1.out.size (.cells #[.int .i64 lv, .slice ea en ec, .slice ca cn cc] 26 (0, 0)))
    clear HB1
    have hc4 : (w.alloc (.cells #[.int .i64 lv, .slice ea en ec, .slice ca cn cc] 26 (0, 0))).cell? ⟨w.heap.size, 0, none⟩ = some (.int .i64 lv) := by rw [cell_of_row _ _ _ _ _ _ HF2.out]; rfl
    have hc5 : (w.alloc (.cells #[.int .i64 lv, .slice ea en ec, .slice ca cn cc] 26 (0, 0))).cell? ⟨w.heap.size, 1, none⟩ = some (.slice ea en ec) := by rw [cell_of_row _ _ _ _ _ _ HF2.out]; rfl
    have hc6 : (w.alloc (.cells #[.int .i64 lv, .slice ea en ec, .slice ca cn cc] 26 (0, 0))).cell? ⟨w.heap.size, 2, none⟩ = some (.slice ca cn cc) := by rw [cell_of_row _ _ _ _ _ _ HF2.out]; rfl
    go_wp2_with fail
    clear hc4 hc5 hc6
    refine (HCK.out (w.alloc (.cells #[.int .i64 lv, .slice ea en ec, .slice ca cn cc] 26 (0, 0))) (H.out.below HB3.out)).mono ?_
    rintro e w1 ⟨rfl, hb1⟩
    have HF7 := Lib.hid (blk_below HF2.out hb1)
    have HB8 := Lib.hid (HB3.out.trans (hb1.mono HB3.out.size))
    clear hb1 HB3 HF2
    have hc9 : w1.cell? ⟨w.heap.size, 0, none⟩ = some (.int .i64 lv) := by rw [cell_of_row _ _ _ _ _ _ HF7.out]; rfl
    have hc10 : w1.cell? ⟨w.heap.size, 1, none⟩ = some (.slice ea en ec) := by rw [cell_of_row _ _ _ _ _ _ HF7.out]; rfl
    have hc11 : w1.cell? ⟨w.heap.size, 2, none⟩ = some (.slice ca cn cc) := by rw [cell_of_row _ _ _ _ _ _ HF7.out]; rfl
    go_wp2_with fail
    go_ret2
    exact ⟨congrArg Ending.returned HV.out, HB8.out⟩
set_option maxRecDepth 100000 in
theorem awake19 (w : World) : Calls Try.prog 13 #[] w fun e w' => e = .returned (.bool true) ∧ Below w.heap.size w w' := by
  have HP := Lib.hid (cput_any 0 none none 0 0 0 0 [] [] w ⟨RdX.nil, RdX.nil⟩ (by omega) (by omega))
  have e : cputV 0 [] [] = .tuple #[.string ⟨#[76, 0]⟩, .int .i64 0] := by
    have e1 : chW 0 [] [] = 0 := by decide
    have e2 : putC 0 [] [] = [76, 0] := by decide
    unfold cputV
    rw [if_pos e1, e2]
  rw [e] at HP
  clear e
  go_enter Try.func13, Try.ntmps13
  go_wp2_with fail
  refine HP.out.mono ?_
  rintro e w1 ⟨rfl, hb1⟩
  have HB1 := Lib.hid hb1
  clear hb1
  go_wp2_with fail
  go_ret
  exact ⟨rfl, HB1.out⟩
end Go.Proofs.Ytdjjabjegmbmaaa
