/- refs.Hashes over this translation: by the library's Sort and Compact of texts. Condition: at most 100,000 refs. -/
import Derived.Test.YtbjngbacnkmjhaaRFx
import Derived.Test.YtbjngbacnkmjhaaStC
import Derived.Test.YtbjngbacnkmjhaaElu
import Derived.Test.YtbjngbacnkmjhaaSl
import Derived.Sort.OwnSorted
import Derived.Lib.OwnBridge
import Derived.Lib.RowBridge
import Derived.Sort.Walk0
namespace Go.Proofs.Ytbjngbacnkmjhaa
open Go.RowKit Vi

theorem le_bl (x y : List UInt8) : decide (x ≤ y) = !Op.bytesLess y x := by
  rw [Go.Proofs.bytesLess_eq]
  by_cases h : y < x
  · rw [decide_eq_true h, decide_eq_false (by intro q; exact q h)]; rfl
  · rw [decide_eq_false h, decide_eq_true (show x ≤ y from h)]; rfl
theorem sort_le (ss : List (List UInt8)) : (ss.mergeSort fun x y => decide (x ≤ y)).Pairwise fun a b => Op.bytesLess b a = false := by
  have h := List.pairwise_mergeSort (le := fun x y : List UInt8 => decide (x ≤ y))
    (by
      intro a b c h1 h2
      rw [le_bl] at h1 h2 ⊢
      rw [Bool.not_eq_true'] at h1 h2 ⊢
      cases q : Op.bytesLess c a with
      | false => rfl
      | true =>
        cases q2 : Op.bytesLess a b with
        | true => rw [bl_trans _ _ _ q q2] at h2; cases h2
        | false => rw [bl_total _ _ q2 h1] at q; rw [q] at h2; cases h2)
    (by
      intro a b
      rw [le_bl, le_bl]
      cases q : Op.bytesLess b a with
      | false => rfl
      | true =>
        cases q2 : Op.bytesLess a b with
        | false => rfl
        | true => have := bl_trans _ _ _ q q2; rw [bl_irrefl] at this; cases this) ss
  exact h.imp (fun {a b} q => by rw [le_bl] at q; simpa using q)
/-- of texts that don't fall compact leaves each once -/
theorem compact_up (T : List (List UInt8)) (h : T.Pairwise fun a b => Op.bytesLess b a = false) : ∀ m, m ≤ T.length → (Lib.compactUpTo T.toArray m).Pairwise (fun a b => Op.bytesLess a b = true) ∧ ∀ x, x ∈ Lib.compactUpTo T.toArray m ↔ x ∈ T.take m
  | 0, _ => by simp [Lib.compactUpTo]
  | m + 1, hm => by
    obtain ⟨h1, h2⟩ := compact_up T h m (by omega)
    have hml : m < T.length := by omega
    have hd : T.toArray[m]! = T[m] := by simp [getElem!_pos, hml]
    rw [Lib.compactUpTo_succ, List.take_succ_eq_append_getElem hml]
    cases hk : Lib.keeps T.toArray m with
    | true =>
      rw [if_pos rfl, hd]
      refine ⟨List.pairwise_append.2 ⟨h1, List.pairwise_singleton _ _, fun a ha b hb => ?_⟩, fun x => by rw [List.mem_append, List.mem_append, h2 x]⟩
      obtain rfl : b = T[m] := by simpa using hb
      rw [h2 a] at ha
      obtain ⟨i, hi, rfl⟩ := List.getElem_of_mem ha
      rw [List.length_take] at hi
      rw [List.getElem_take]
      have him : i < m := by omega
      have q1 : Op.bytesLess T[m] T[i] = false := (List.pairwise_iff_getElem.1 h) i m (by omega) hml him
      cases q : Op.bytesLess T[i] T[m] with
      | true => rfl
      | false =>
        exfalso
        have e : T[i] = T[m] := bl_total _ _ q q1
        have q2 : Op.bytesLess T[m] (T[m - 1]'(by omega)) = false := (List.pairwise_iff_getElem.1 h) (m - 1) m (by omega) hml (by omega)
        have q3 : Op.bytesLess (T[m - 1]'(by omega)) T[m] = false := by
          rcases Nat.lt_or_ge i (m - 1) with g | g
          · rw [← e]; exact (List.pairwise_iff_getElem.1 h) i (m - 1) (by omega) (by omega) g
          · have : i = m - 1 := by omega
            subst this; rw [e]; exact bl_irrefl _
        have e2 : T[m - 1]'(by omega) = T[m] := bl_total _ _ q3 q2
        have hd2 : T.toArray[m - 1]! = T[m - 1]'(by omega) := by simp [getElem!_pos, show m - 1 < T.length by omega]
        rw [Lib.keeps_neg (by omega) (by rw [hd, hd2, e2])] at hk
        cases hk
    | false =>
      rw [if_neg (by simp), List.append_nil]
      refine ⟨h1, fun x => ?_⟩
      rw [h2 x, List.mem_append]
      refine ⟨Or.inl, fun q => ?_⟩
      rcases q with q | q
      · exact q
      · obtain rfl : x = T[m] := by simpa using q
        rcases Nat.eq_zero_or_pos m with h0 | hp
        · subst h0; rw [Lib.keeps_lt_one _ 0 (by omega)] at hk; cases hk
        · have hd2 : T.toArray[m - 1]! = T[m - 1]'(by omega) := by simp [getElem!_pos, show m - 1 < T.length by omega]
          by_cases e : T[m] = T[m - 1]'(by omega)
          · rw [e]
            exact List.mem_of_getElem? (i := m - 1) (by rw [List.getElem?_take, if_pos (by omega), List.getElem?_eq_getElem])
          · rw [Lib.keeps_pos (by rw [hd, hd2]; exact e)] at hk; cases hk
def baT (x : List UInt8) : ByteArray := ⟨x.toArray⟩
theorem baT_l (x : List UInt8) : (baT x).toList = x := by rw [ByteArray.toList_eq]; rfl
theorem baT_of (s : ByteArray) : baT s.data.toList = s := rfl
/-- texts, sorted and compacted, are the row that With makes of them -/
theorem sorted_with (L : List ByteArray) : (Lib.compact ((L.map fun s => s.data.toList).mergeSort fun x y => decide (x ≤ y))).map baT = L.foldl withL [] := by
  obtain ⟨T, hT⟩ : ∃ T, T = (L.map fun s => s.data.toList).mergeSort fun x y => decide (x ≤ y) := ⟨_, rfl⟩
  have hs := sort_le (L.map fun s => s.data.toList)
  have hm : ∀ x, x ∈ T ↔ x ∈ L.map fun s => s.data.toList := fun x => by rw [hT]; exact List.mem_mergeSort
  rw [← hT] at hs ⊢
  obtain ⟨h1, h2⟩ := compact_up T hs T.length (Nat.le_refl _)
  rw [show Lib.compactUpTo T.toArray T.length = Lib.compact T from rfl] at h1 h2
  refine rise_uniq _ _ ?_ (rise_fold L [] List.Pairwise.nil) (fun t => ?_)
  · unfold Rise
    rw [List.pairwise_map]
    exact h1.imp (fun {a b} q => by rw [baT_l, baT_l]; exact q)
  · rw [mem_fold, List.mem_map]
    constructor
    · rintro ⟨x, hx, rfl⟩
      rw [h2 x, List.take_length, hm x, List.mem_map] at hx
      obtain ⟨s, hs2, rfl⟩ := hx
      exact Or.inr hs2
    · rintro (q | q)
      · simp at q
      · exact ⟨t.data.toList, by rw [h2, List.take_length, hm]; exact List.mem_map.2 ⟨t, q, rfl⟩, rfl⟩
theorem below_ahead {B : Nat} {w0 w : World} (h : Below B w0 w) (hB : B ≤ w.heap.size) {g n : Nat} {os : Array Obj} (d : Array (List UInt8)) (hg : B ≤ g) : Below B w0 (Sort.grow (Sort.putRow encStr (Sort.ahead w n) g 0 d) os) :=
  h.grown (grownBy_sorted d) hB (fun k hk => by injection hk with hk; omega)
set_option maxRecDepth 100000 in
set_option maxHeartbeats 4000000 in
theorem rfhashes_any (A : Option Addr) (n c : Nat) (l : List Rf) (w : World) (h : RdX rfC 3 w A n l) (hn : n ≤ 100000) :
    Calls Try.prog 70 #[.slice A n c] w (RetTS w ((l.map (·.2.2)).foldl withL [])) := by
  have H := Lib.hid h
  have LL := Lib.hid h.1
  have HB1 := Lib.hid (Below.refl w.heap.size w)
  clear h
  go_enter Try.func70, Try.ntmps70
  go_wp2_with fail
  go_loopw [3, 8] (fun vv i wr => ∃ (k : Nat) (v : Value) (M : List ByteArray), v = vv ∧ i = .int .i64 (k : Int) ∧ k ≤ n ∧ M = (l.take k).map (·.2.2) ∧ OwX stC 1 9 wr w.heap.size v M ∧ Below w.heap.size w wr) (fun _ i _ => n - (intOf i).toNat)
  case atStart => exact ⟨0, _, [], rfl, rfl, Nat.zero_le _, rfl, OwX.nil _, HB1.out⟩
  case round =>
    clear HB1
    obtain ⟨k, v, M, rfl, rfl, hk, hM, how, hb⟩ := hrel
    have HM := Lib.hid hM
    have HO := Lib.hid how
    have HB := Lib.hid hb
    have hv := how.one
    clear hM how hb
    by_cases hlt : k < n
    · have hd1 : decide ((k : Int) < (n : Int)) = true := decide_eq_true (by omega)
      have hl : k < l.length := by rw [LL.out]; exact hlt
      obtain ⟨b, off, _, rfl, hbb, _⟩ := (H.out.below HB.out).at hlt
      obtain ⟨x, hx⟩ : ∃ x, l[k] = x := ⟨_, rfl⟩
      have HX := Lib.hid (show l[k]? = some x by rw [List.getElem?_eq_getElem hl, hx])
      obtain ⟨x1, x2, x3⟩ := x
      have HR := Lib.hid (show M ++ [x3] = (l.take (k + 1)).map (·.2.2) by rw [List.take_succ_eq_append_getElem hl, hx, List.map_append, HM.out]; rfl)
      have hML : M.length ≤ 100000 := by rw [HM.out, List.length_map, List.length_take]; omega
      have hi0 : (0 : Int) ≤ (k : Int) := by omega
      clear hx
      have hc101 : wr.cell? ⟨b, off + k * 3, none⟩ = some (.int .i64 x1) := (H.out.below HB.out).cellAt HX.out hlt 0 _ rfl
      have hc102 : wr.cell? ⟨b, off + k * 3 + 1, none⟩ = some (.string x2) := (H.out.below HB.out).cellAt HX.out hlt 1 _ rfl
      have hc103 : wr.cell? ⟨b, off + k * 3 + 2, none⟩ = some (.string x3) := (H.out.below HB.out).cellAt HX.out hlt 2 _ rfl
      have HF104 := Lib.hid (blk_new wr (.cells #[.int .i64 x1, .string x2, .string x3] 97 (0, 0)))
      have HB105 := Lib.hid (HB.out.alloc HB.out.size (.cells #[.int .i64 x1, .string x2, .string x3] 97 (0, 0)))
      clear HB
      have hc106 : (wr.alloc (.cells #[.int .i64 x1, .string x2, .string x3] 97 (0, 0))).cell? ⟨wr.heap.size, 0, none⟩ = some (.int .i64 x1) := by rw [cell_of_row _ _ _ _ _ _ HF104.out]; rfl
      have hc107 : (wr.alloc (.cells #[.int .i64 x1, .string x2, .string x3] 97 (0, 0))).cell? ⟨wr.heap.size, 1, none⟩ = some (.string x2) := by rw [cell_of_row _ _ _ _ _ _ HF104.out]; rfl
      have hc108 : (wr.alloc (.cells #[.int .i64 x1, .string x2, .string x3] 97 (0, 0))).cell? ⟨wr.heap.size, 2, none⟩ = some (.string x3) := by rw [cell_of_row _ _ _ _ _ _ HF104.out]; rfl
      have hrn : ((wr.alloc (.cells #[.int .i64 x1, .string x2, .string x3] 97 (0, 0))).alloc (.cells #[.string x3] 9 (0, 0))).heap[wr.heap.size + 1]? = some (.cells #[.string x3] 9 (0, 0)) := two_blk wr _ _
      go_wp2_with (at_builtin; refine wpList_appX rfl (.tmp 12) (.tmp 15) 29 9 _ 16 rfl Try.underlying29 info_stA rfl (by omega) (by omega) stC_len stC_one w.heap.size w (HB105.out.alloc HB105.out.size _) (by have := HB105.out.size; simp at this ⊢; omega) v M rfl ((HO.out.alloc _).alloc _) (wr.heap.size + 1) 1 x3 _ 9 (0, 0) rfl hrn rfl (by omega) ?_)
      intro v7 w7 HO7 HB7 HZ7 HG7
      clear hc101 hc102 hc103 hc106 hc107 hc108
      clear hrn
      have hv7 := HO7.out.one
      go_wp2_with fail
      go_roundw
      case rel => exact ⟨k + 1, v7, _, rfl, by go_num, by omega, HR.out, HO7.out, HB7.out⟩
      case measure => simp [intOf] <;> omega
    · have hd1 : decide ((k : Int) < (n : Int)) = false := decide_eq_false (by omega)
      have HE := Lib.hid (show M = l.map (·.2.2) by rw [HM.out, List.take_of_length_le (by rw [LL.out]; omega)])
      have hMl : M.length ≤ 100000 := by rw [HE.out, List.length_map, LL.out]; exact hn
      have HSW := Lib.hid (sorted_with M)
      have HSZ := Lib.hid HB.out.size
      have ho := HO.out
      clear HO HM
      rcases ho.2 with ⟨e0, h0⟩ | ⟨g, cap, cur, e0, hbase, hb, h1, h2, h3, h4⟩
      · subst e0
        have hM0 : M = [] := by
          have := ho.1
          rw [h0] at this
          cases M with
          | nil => rfl
          | cons a r => unfold flat stC at this; simp at this
        subst hM0
        clear ho h0 HSW
        go_wp2_with fail
        refine (Try.slices_Sort_string_none none 0 wr).mono ?_
        rintro e w' ⟨rfl, rfl⟩
        go_wp2_with fail
        refine (Try.slices_Compact_string_empty none 0 w').mono ?_
        rintro e w'' ⟨rfl, rfl⟩
        go_wp2_with fail
        go_ret
        exact ⟨_, rfl, by rw [← HE.out]; exact TS.of_own (own_nil _ w.heap.size), HB.out⟩
      · subst e0
        obtain ⟨ss, hss⟩ : ∃ ss, ss = M.map fun s => s.data.toList := ⟨_, rfl⟩
        have hfl : flat stC M = ss.map encStr := by
          rw [hss, List.map_map]
          unfold flat stC
          rw [← List.map_eq_flatMap]
          exact List.map_congr_left (fun a _ => rfl)
        have hlen : M.length = ss.length := by rw [hss, List.length_map]
        rw [hlen] at h1 h4 hMl
        rw [hfl, Nat.mul_one] at h4
        have HH := Lib.hid (holds_of_block hb h4)
        have hgl : g < wr.heap.size := (Array.getElem?_eq_some_iff.1 hb).1
        have HOS := fun n os => ownsRow_sorted (n := n) (os := os) (ss := ss) (ts := ss.mergeSort fun x y => decide (x ≤ y)) (List.length_mergeSort _) hbase hb h1 h2 h3
        have HHS := fun n os => heap_sorted (n := n) (os := os) (ss.mergeSort fun x y => decide (x ≤ y)).toArray hb
        have hsl : (ss.mergeSort fun x y => decide (x ≤ y)).length = ss.length := List.length_mergeSort _
        have hcur : ss.length ≤ cur.size := by rw [h3]; omega
        have HTK := Lib.hid (take_putCells cur (ss.mergeSort fun x y => decide (x ≤ y)) (by rw [hsl]; exact hcur))
        rw [hlen]
        rw [← hss] at HSW
        clear hlen hfl hb h3 h4 ho hss hcur
        have HOS := Lib.hid HOS
        have HHS := Lib.hid HHS
        go_wp2_with fail
        refine (Try.slices_Sort_string g 0 cap ss wr HH.out hgl (by omega)).mono ?_
        rintro e w2 ⟨rfl, n2, os2, hw2⟩
        have HO2 := Lib.hid (HOS.out n2 os2)
        have HK2 := Lib.hid (HHS.out n2 os2)
        have HB2 := Lib.hid (below_ahead (n := n2) (os := os2) HB.out HSZ.out (ss.mergeSort fun x y => decide (x ≤ y)).toArray hbase)
        rw [← hw2] at HO2 HK2 HB2
        obtain ⟨T, hT⟩ : ∃ T, T = ss.mergeSort fun x y => decide (x ≤ y) := ⟨_, rfl⟩
        rw [← hT] at HO2 HK2 HTK HSW hsl
        clear hw2 HOS HHS HH hT hgl
        have HH2 := Lib.hid (holds_of_block HK2.out (by rw [hsl] at HTK ⊢; exact HTK.out))
        rw [← hsl] at HO2 ⊢
        have h1' : T.length ≤ cap := by rw [hsl]; exact h1
        have hMl' : T.length ≤ 100000 := by rw [hsl]; exact hMl
        clear hsl h1 hMl
        go_wp2_with fail
        refine (Try.slices_Compact_string g 0 cap T w2 HH2.out (by omega) h1').mono ?_
        rintro e w3 ⟨rfl, q3, hw3⟩
        have hcl : (Lib.compact T).length ≤ T.length := Lib.compact_length_le T
        have HO3 := Lib.hid (Lib.ownsRow_putRow (q := q3) (k := (Lib.compact T).length) (ys := Lib.compact T ++ List.replicate (T.length - (Lib.compact T).length) []) HO2.out (by rw [List.length_append, List.length_replicate]; omega) hcl)
        have HB3 := Lib.hid (Lib.below_putRow (enc := encStr) (q := q3) (d := (Lib.compact T ++ List.replicate (T.length - (Lib.compact T).length) []).toArray) HB2.out hbase)
        rw [← hw3] at HO3 HB3
        rw [List.take_left] at HO3
        have HF := Lib.hid (show OwnS w3 w.heap.size (.slice (some ⟨g, 0, none⟩) (Lib.compact T).length cap) (M.foldl withL []) by
          unfold OwnS
          rw [← HSW.out, List.length_map, List.map_map]
          exact HO3.out)
        clear hw3 HO3
        go_wp2_with fail
        go_ret
        exact ⟨_, rfl, by rw [← HE.out]; exact TS.of_own HF.out, HB3.out⟩
end Go.Proofs.Ytbjngbacnkmjhaa
