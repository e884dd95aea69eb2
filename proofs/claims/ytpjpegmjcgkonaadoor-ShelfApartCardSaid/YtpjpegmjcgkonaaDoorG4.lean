/- Several texts of one family, merged for a claim. Conditions as in its parts. -/
import Derived.Test.YtpjpegmjcgkonaaDoorG3
import Derived.Test.YtpjpegmjcgkonaaDoorSm
import Derived.Defers
import Derived.Recover
import Derived.Test.YtpjpegmjcgkonaaDoorG2
import Derived.Test.YtpjpegmjcgkonaaDoorHn
import Derived.Lib.MinMax
namespace Go.Proofs.YtpjpegmjcgkonaaDoor
open Go.RowKit Vi

theorem results_cS {fn : Func} {p : Tmp} {ty : TypeId} (h : fn.results = #[.cell p ty]) (tmps : Array Value) (w : World) (g : Nat) (cs : Array Value)
    (hp : tmps.getD p undef = .pointer (some ⟨g, 0, none⟩)) (hr : (loadVar ty ⟨g, 0, none⟩).run Tryd.prog w = .ok (.agg cs) w) :
    (results fn tmps).run Tryd.prog w = .ok (.agg cs) w := by
  have hp' : tmps[p]?.getD undef = .pointer (some ⟨g, 0, none⟩) := by simpa using hp
  simp [results, h, hp', asAddr, hr]
theorem sliceS_to (a : Option Addr) (N c n : Nat) (h1 : n ≤ c) (W : World) :
    (Instr.slice 27 (.slice a N c) none (some (.int .i64 (n : Int))) none).run Tryd.prog W = .ok (.slice a n c) W := by
  rw [run_slice_h W _ _ N c und_ss .i64 n (by omega) (by omega), elem_ss, size_of_str]
  cases a with
  | none => simp [Result.andThen, sliced]
  | some a => simp [Result.andThen, sliced, Addr.add]
def RetRC (P : Nat → Prop) (L : List Ob) (c0 c1 : ByteArray) (w : World) (e : Ending) (w' : World) : Prop :=
  ∃ ta tn tc sa sn sc, e = .returned (rsv ta tn tc sa sn sc c0 c1) ∧ ShR P L ta tn tc sa sn sc w' ∧ Below w.heap.size w w'
set_option maxRecDepth 100000 in
set_option maxHeartbeats 2000000 in
theorem rscut_any (P : Nat → Prop) (L : List Ob) (c0 c1 : ByteArray) (K : Nat) (ta : Option Addr) (tn tc : Nat) (sa : Option Addr) (sn sc : Nat) (w : World) (h : ShR P L ta tn tc sa sn sc w) (hK : K ≤ L.length) :
    Calls Tryd.prog 43 #[rsv ta tn tc sa sn sc c0 c1, .int .i64 (K : Int)] w (RetRC P (L.take K) c0 c1 w) := by
  obtain rfl := h.tn_eq
  obtain rfl := h.sn_eq
  have HH := Lib.hid h
  have hs1 := fun W => sliceS_to ta L.length tc K (Nat.le_trans hK h.tl) W
  have hs2 := fun W => sliceS_to sa L.length sc K (Nat.le_trans hK h.sl) W
  have HK := Lib.hid hK
  clear h hK
  have HB1 := Lib.hid (Below.refl w.heap.size w)
  have HF2 := Lib.hid (blk_new w (.cells #[.slice ta L.length tc, .slice sa L.length sc, .string c0, .string c1] 29 (0, 0)))
  have HB3 := Lib.hid (HB1.out.alloc HB1.out.size (.cells #[.slice ta L.length tc, .slice sa L.length sc, .string c0, .string c1] 29 (0, 0)))
  clear HB1
  have HF4 := Lib.hid (blk_alloc HF2.out (.cells #[.slice none 0 0, .slice none 0 0, .string ⟨#[]⟩, .string ⟨#[]⟩] 29 (0, 0)))
  clear HF2
  have HF5 : Hid (((w.alloc (.cells #[.slice ta L.length tc, .slice sa L.length sc, .string c0, .string c1] 29 (0, 0))).alloc (.cells #[.slice none 0 0, .slice none 0 0, .string ⟨#[]⟩, .string ⟨#[]⟩] 29 (0, 0))).heap[w.heap.size + 1]? = some (.cells #[.slice none 0 0, .slice none 0 0, .string ⟨#[]⟩, .string ⟨#[]⟩] 29 (0, 0))) := Lib.hid (blk_newN (W := (w.alloc (.cells #[.slice ta L.length tc, .slice sa L.length sc, .string c0, .string c1] 29 (0, 0)))) (o := (.cells #[.slice none 0 0, .slice none 0 0, .string ⟨#[]⟩, .string ⟨#[]⟩] 29 (0, 0))) (by simp))
  have HB6 := Lib.hid (HB3.out.alloc (by have := HB3.out.size; simp at this ⊢ <;> omega) (.cells #[.slice none 0 0, .slice none 0 0, .string ⟨#[]⟩, .string ⟨#[]⟩] 29 (0, 0)))
  clear HB3
  obtain ⟨v, hv⟩ : ∃ v, v = ((w.alloc (.cells #[.slice ta L.length tc, .slice sa L.length sc, .string c0, .string c1] 29 (0, 0))).alloc (.cells #[.slice none 0 0, .slice none 0 0, .string ⟨#[]⟩, .string ⟨#[]⟩] 29 (0, 0))) := ⟨_, rfl⟩
  have HVv := Lib.hid hv
  rw [← hv] at HF4 HF5 HB6
  clear hv
  go_enter Tryd.func43, Tryd.ntmps43
  go_upto_region 1 with (fail)
  rw [← HVv.out]
  have hc7 : v.cell? ⟨w.heap.size, 0, none⟩ = some (.slice ta L.length tc) := by rw [cell_of_row _ _ _ _ _ _ HF4.out]; rfl
  have hc8 : v.cell? ⟨w.heap.size, 1, none⟩ = some (.slice sa L.length sc) := by rw [cell_of_row _ _ _ _ _ _ HF4.out]; rfl
  have hz9 : v.frozen? ⟨w.heap.size, 0, none⟩ = false := frozen_of_row _ _ _ _ _ HF4.out
  have hz10 : v.frozen? ⟨w.heap.size, 1, none⟩ = false := frozen_of_row _ _ _ _ _ HF4.out
  go_upto_region 3 with (fail)
  clear hc7 hc8 hz9 hz10
  have HKK11 := Lib.hid (((KK.refl [w.heap.size] v).set (b := w.heap.size) (by simp) 0 (.slice ta K tc)).set (b := w.heap.size) (by simp) 1 (.slice sa K sc))
  have HF12 := Lib.hid (show ((v.setCell ⟨w.heap.size, 0, none⟩ (.slice ta K tc)).setCell ⟨w.heap.size, 1, none⟩ (.slice sa K sc)).heap[w.heap.size]? = some (.cells #[.slice ta K tc, .slice sa K sc, .string c0, .string c1] 29 (0, 0)) by have q := heap_setCell_at (i := 1) (u := .slice sa K sc) (heap_setCell_at (i := 0) (u := .slice ta K tc) (HF4.out)); exact q)
  have HF13 := Lib.hid (HKK11.out.blk HF5.out (by simp <;> omega))
  have HB14 := Lib.hid (HKK11.out.below HB6.out (fun b hb => by obtain rfl : b = w.heap.size := (by simpa using hb); omega) HB6.out.size)
  clear HB6 HF4 HF5
  generalize ((v.setCell ⟨w.heap.size, 0, none⟩ (.slice ta K tc)).setCell ⟨w.heap.size, 1, none⟩ (.slice sa K sc)) = w1 at *
  clear hs1 hs2
  go_wp2_with (first
    | refine wpList_store_rowY rfl 29 (.tmp 4) (.tmp 15) rfl (w.heap.size + 1) #[.slice ta K tc, .slice sa K sc, .string c0, .string c1] rfl rfl 29 _ HF13.out (info_rs) rfl (by simp [Value.oneCell']) w.heap.size w HB14.out (by omega) ?_
    | refine wpList_load_row rfl 29 (.tmp 2) rfl (w.heap.size) rfl 29 #[.slice ta K tc, .slice sa K sc, .string c0, .string c1] (0, 0) _ HF12.out Tryd.underlying29 rfl (info_rs) ?_)
  intro w2 hbk hoth hbel _
  have HF15 := Lib.hid (blk_oth HF12.out hoth.out (by omega))
  have HF16 := Lib.hid hbk.out
  have HB17 := Lib.hid hbel.out
  clear hbk hoth hbel HB14 HF12 HF13
  go_wp2_with fail
  refine bodyPost_ret (results_cS rfl _ _ (w.heap.size + 1) #[.slice ta K tc, .slice sa K sc, .string c0, .string c1] rfl (run_loadVar_row _ (w.heap.size + 1) 29 29 _ (0, 0) _ HF16.out Tryd.underlying29 rfl (by kernel_rfl))) rfl ?_
  have q := HH.out.below HB17.out
  exact ⟨ta, K, tc, sa, K, sc, rfl, ⟨by rw [List.map_take]; exact q.t.take K HK.out, by rw [List.map_take]; exact q.s.take K HK.out, Nat.le_trans HK.out q.tl, q.tm, Nat.le_trans HK.out q.sl, q.sm, fun b o e hp => q.pt b o e (Nat.lt_of_lt_of_le hp HK.out), fun b o e hp => q.ps b o e (Nat.lt_of_lt_of_le hp HK.out)⟩, HB17.out⟩
set_option maxRecDepth 100000 in
set_option maxHeartbeats 2000000 in
theorem rsnames_any (P : Nat → Prop) (L : List Ob) (c0 c1 : ByteArray) (ta : Option Addr) (tn tc : Nat) (sa : Option Addr) (sn sc : Nat) (w : World) (h : ShR P L ta tn tc sa sn sc w) (hl : L.length ≤ 40000) :
    Calls Tryd.prog 44 #[rsv ta tn tc sa sn sc c0 c1] w (RetTS w (nmsL L)) := by
  obtain rfl := h.tn_eq
  obtain rfl := h.sn_eq
  have HH := Lib.hid h
  have HLL := Lib.hid hl
  have htI : (L.length : Int) ≤ 9223372036854775807 := by omega
  clear h
  have HB1 := Lib.hid (Below.refl w.heap.size w)
  have HF2 := Lib.hid (blk_new w (.cells #[.slice ta L.length tc, .slice sa L.length sc, .string c0, .string c1] 29 (0, 0)))
  have HB3 := Lib.hid (HB1.out.alloc HB1.out.size (.cells #[.slice ta L.length tc, .slice sa L.length sc, .string c0, .string c1] 29 (0, 0)))
  clear HB1
  obtain ⟨v, hv⟩ : ∃ v, v = (w.alloc (.cells #[.slice ta L.length tc, .slice sa L.length sc, .string c0, .string c1] 29 (0, 0))) := ⟨_, rfl⟩
  have HVv := Lib.hid hv
  rw [← hv] at HF2 HB3
  clear hv
  go_enter Tryd.func44, Tryd.ntmps44
  go_upto_region 2 with (fail)
  rw [← HVv.out]
  go_wp2_with fail
  go_loopw [3, 4, 18] (fun q i _ wr => ∃ j : Nat, i = .int .i64 (j : Int) ∧ j ≤ L.length ∧ TS wr q (((L.take j).map (·.1)).foldl withL []) ∧ Below v.heap.size v wr) (fun _ i _ _ => L.length - (intOf i).toNat)
  case atStart => exact ⟨0, rfl, Nat.zero_le _, ⟨none, 0, rfl, ⟨rfl, fun h => absurd h (by simp)⟩, Nat.le_refl _, Nat.zero_le _⟩, Below.refl _ _⟩
  case round =>
    obtain ⟨j, rfl, hj, ⟨A, C, rfl, hsl, hac, hcm⟩, hb⟩ := hrel
    have HSL := Lib.hid hsl
    have HB := Lib.hid hb
    have HAC := Lib.hid (And.intro hac hcm)
    have HXP := Lib.hid (blk_below HF2.out hb)
    have HBW := Lib.hid (HB3.out.trans (hb.mono HB3.out.size))
    clear hsl hb hac hcm
    have x1 : wr.cell? ⟨w.heap.size, 1, none⟩ = some (.slice sa L.length sc) := (cell_of_row _ _ 1 _ _ _ HXP.out).trans rfl
    by_cases hlt : j < L.length
    · skip
      have hd1 : decide ((j : Int) < (L.length : Int)) = true := decide_eq_true (by omega)
      have hi0 : (0 : Int) ≤ (j : Int) := by omega
      have hs1 : IntKind.i64.wrap ((j : Int) + 1) = (j : Int) + 1 := IntWalk.i64_in _ (by omega)
      obtain ⟨x, hx⟩ : ∃ x, L[j]? = some x := ⟨_, List.getElem?_eq_getElem hlt⟩
      obtain ⟨bS, oS, eS, _, hcS⟩ := (HH.out.below HBW.out).s.2 (by omega)
      have gS : wr.cell? ⟨bS, oS + j, none⟩ = some (.string x.1) := by have q := hcS j x.1 0 (.string x.1) (by rw [List.getElem?_map, hx]; rfl) rfl; simpa using q
      subst eS
      have HT := Lib.hid (show ((L.take (j + 1)).map (·.1)).foldl withL [] = withL (((L.take j).map (·.1)).foldl withL []) x.1 by obtain ⟨hj2, hx2⟩ := List.getElem?_eq_some_iff.1 hx; rw [List.take_succ_eq_append_getElem hj2, hx2, List.map_append, List.foldl_append]; rfl)
      have HLN := Lib.hid (show (((L.take j).map (·.1)).foldl withL []).length ≤ 100000 by refine Nat.le_trans (fold_len _ _) ?_; rw [List.length_map, List.length_take, List.length_nil]; omega)
      clear hcS hx
      obtain ⟨M, hM⟩ : ∃ M, M = ((L.take j).map (·.1)).foldl withL [] := ⟨_, rfl⟩
      rw [← hM] at HSL HAC HT HLN ⊢
      clear hM
      go_wp2_with fail
      refine (refWith_any A M.length C M x.1 wr HSL.out HLN.out HAC.out.1 HAC.out.2).mono ?_
      rintro e w5 ⟨V, rfl, hts, hb⟩
      have HTS := Lib.hid hts
      have HB5 := Lib.hid (HB.out.trans (hb.mono HB.out.size))
      clear hts hb x1 gS
      go_wp2_with fail
      go_roundw
      case rel => exact ⟨j + 1, by go_num, by omega, by rw [HT.out]; exact HTS.out, HB5.out⟩
      case measure => simp [intOf] <;> omega
    · skip
      obtain rfl : j = L.length := by omega
      have hd1 : decide ((L.length : Int) < (L.length : Int)) = false := decide_eq_false (by omega)
      go_wp2_with fail
      go_ret
      exact ⟨_, rfl, ⟨A, C, by rw [List.take_of_length_le (Nat.le_refl _)]; rfl, by have q := HSL.out; rw [List.take_of_length_le (Nat.le_refl _)] at q; exact q, by have q := HAC.out.1; rw [List.take_of_length_le (Nat.le_refl _)] at q; exact q, HAC.out.2⟩, HBW.out⟩
set_option maxRecDepth 100000 in
set_option maxHeartbeats 2000000 in
theorem rsget_any (P : Nat → Prop) (L : List Ob) (c0 c1 s : ByteArray) (ta : Option Addr) (tn tc : Nat) (sa : Option Addr) (sn sc : Nat) (w : World) (h : ShR P L ta tn tc sa sn sc w) (hl : L.length ≤ 40000) :
    Calls Tryd.prog 15 #[rsv ta tn tc sa sn sc c0 c1, .string s] w fun e w' => e = .returned (.tuple #[.string ((getO L s).getD ⟨#[]⟩), .bool (getO L s).isSome]) ∧ Below w.heap.size w w' := by
  obtain rfl := h.tn_eq
  obtain rfl := h.sn_eq
  have HH := Lib.hid h
  have htI : (L.length : Int) ≤ 9223372036854775807 := by omega
  clear h
  have HB1 := Lib.hid (Below.refl w.heap.size w)
  have HF2 := Lib.hid (blk_new w (.cells #[.slice ta L.length tc, .slice sa L.length sc, .string c0, .string c1] 29 (0, 0)))
  have HB3 := Lib.hid (HB1.out.alloc HB1.out.size (.cells #[.slice ta L.length tc, .slice sa L.length sc, .string c0, .string c1] 29 (0, 0)))
  clear HB1
  obtain ⟨v, hv⟩ : ∃ v, v = (w.alloc (.cells #[.slice ta L.length tc, .slice sa L.length sc, .string c0, .string c1] 29 (0, 0))) := ⟨_, rfl⟩
  have HVv := Lib.hid hv
  rw [← hv] at HF2 HB3
  clear hv
  go_enter Tryd.func15, Tryd.ntmps15
  go_upto_region 1 with (fail)
  rw [← HVv.out]
  go_wp2_with fail
  have hc4 : v.cell? ⟨w.heap.size, 0, none⟩ = some (.slice ta L.length tc) := by rw [cell_of_row _ _ _ _ _ _ HF2.out]; rfl
  have hc5 : v.cell? ⟨w.heap.size, 1, none⟩ = some (.slice sa L.length sc) := by rw [cell_of_row _ _ _ _ _ _ HF2.out]; rfl
  go_loop [6] (fun i => ∃ j : Nat, i = .int .i64 (j : Int) ∧ j ≤ L.length ∧ ∀ y ∈ L.take j, y.1 ≠ s) (fun i => L.length - (intOf i).toNat)
  case atStart => exact ⟨0, rfl, Nat.zero_le _, by simp⟩
  case round =>
    obtain ⟨j, rfl, hj, hne⟩ := hrel
    have HNE := Lib.hid hne
    clear hne
    by_cases hlt : j < L.length
    · skip
      have hd1 : decide ((j : Int) < (L.length : Int)) = true := decide_eq_true (by omega)
      have hi0 : (0 : Int) ≤ (j : Int) := by omega
      have hs1 : IntKind.i64.wrap ((j : Int) + 1) = (j : Int) + 1 := IntWalk.i64_in _ (by omega)
      obtain ⟨x, hx⟩ : ∃ x, L[j]? = some x := ⟨_, List.getElem?_eq_getElem hlt⟩
      have HX := Lib.hid hx
      obtain ⟨bT, oT, eT, _, hcT⟩ := (HH.out.below HB3.out).t.2 (by omega)
      have gT : v.cell? ⟨bT, oT + j, none⟩ = some (.string x.2) := by have q := hcT j x.2 0 (.string x.2) (by rw [List.getElem?_map, hx]; rfl) rfl; simpa using q
      subst eT
      clear hcT
      obtain ⟨bS, oS, eS, _, hcS⟩ := (HH.out.below HB3.out).s.2 (by omega)
      have gS : v.cell? ⟨bS, oS + j, none⟩ = some (.string x.1) := by have q := hcS j x.1 0 (.string x.1) (by rw [List.getElem?_map, hx]; rfl) rfl; simpa using q
      subst eS
      clear hcS
      clear hx
      obtain ⟨n, u⟩ := x
      by_cases hs : n = s
      · skip
        subst hs
        have HG := Lib.hid (get_at HX.out rfl HNE.out)
        obtain ⟨r1, r2⟩ := beq_same n
        go_wp2_with fail
        go_ret2
        exact ⟨by rw [HG.out]; rfl, HB3.out⟩
      · skip
        obtain ⟨r1, r2⟩ := beq_ne hs
        have HNE2 := Lib.hid (show ∀ y ∈ L.take (j + 1), y.1 ≠ s from fun y hy => by
          obtain ⟨hj2, hx2⟩ := List.getElem?_eq_some_iff.1 HX.out
          rw [List.take_succ_eq_append_getElem hj2, hx2] at hy
          rcases List.mem_append.1 hy with q | q
          · exact HNE.out y q
          · obtain rfl : y = (n, u) := by simpa using q
            exact hs)
        clear hs
        go_wp2_with fail
        go_round
        case rel => exact ⟨j + 1, by go_num, by omega, HNE2.out⟩
        case measure => simp [intOf] <;> omega
    · skip
      obtain rfl : j = L.length := by omega
      have hd1 : decide ((L.length : Int) < (L.length : Int)) = false := decide_eq_false (by omega)
      have HG := Lib.hid (get_end (fun y hy => HNE.out y (by rw [List.take_of_length_le (Nat.le_refl _)]; exact hy)))
      go_wp2_with fail
      go_ret2
      exact ⟨by rw [HG.out]; rfl, HB3.out⟩
end Go.Proofs.YtpjpegmjcgkonaaDoor

namespace Go.Proofs.YtpjpegmjcgkonaaDoor
open Go.RowKit Vi

theorem ne_facts {s : ByteArray} (hs : s.size ≠ 0) : (s.toList == []) = false ∧ s.toList.isEmpty = false ∧ (s == (⟨#[]⟩ : ByteArray)) = false ∧ (s != (⟨#[]⟩ : ByteArray)) = true := by
  have q : ∃ a l, s.data.toList = a :: l := by
    cases q : s.data.toList with
    | nil => exact absurd (by show s.data.size = 0; rw [← Array.length_toList, q]; rfl) hs
    | cons a l => exact ⟨a, l, rfl⟩
  obtain ⟨a, l, q⟩ := q
  have h3 : (s == (⟨#[]⟩ : ByteArray)) = false := by
    cases q3 : (s == (⟨#[]⟩ : ByteArray)) with
    | false => rfl
    | true => rw [ba_beq q3] at hs; exact absurd rfl hs
  exact ⟨by rw [Lib.toList_data, q]; rfl, by rw [Lib.toList_data, q]; rfl, h3, by simp [bne, h3]⟩
/-- is a text's first byte even? -/
def evB (s : ByteArray) : Bool := if h : 0 < s.size then (((s[0]'h).toNat : Int) % 2 == 0) else false
set_option maxRecDepth 100000 in
theorem even_any (s : ByteArray) (w : World) (hs : s.size ≠ 0) : Calls Tryd.prog 28 #[.string s] w fun e w' => e = .returned (.bool (evB s)) ∧ w = w' := by
  obtain ⟨h1, h2, h3, h4⟩ := ne_facts hs
  have h5 : (0 : Int) < (s.size : Int) := by omega
  have h6 : 0 < s.size := by omega
  go_enter Tryd.func28, Tryd.ntmps28
  go_wp2_with fail
  go_ret
  exact ⟨by unfold evB; rw [dif_pos h6]; rfl, rfl⟩
theorem tells1 (w : World) : CallsD Tryd.prog 81 #[] .returning w fun e u' w' => e = .returned (.tuple #[]) ∧ u' = .returning ∧ w' = w := by
  refine callsD_of_wpS Tryd.func81 rfl fun c₀ cs hu => ?_
  apply wpS_region
  simp [wpOpsS, go_sem, recoverD, hu, Tryd.ntmps81, bodyPostS, results, Tryd.results81]
  cases c₀
  simp_all
set_option maxRecDepth 100000 in
theorem tells_any (s : ByteArray) (w : World) (hs : s.size ≠ 0) : Calls Tryd.prog 55 #[.func (.func 28) #[] #[], .string s] w fun e w' => e = .returned (.bool (evB s)) ∧ w = w' := by
  have HE := Lib.hid (even_any s w hs)
  generalize evB s = b at HE ⊢
  go_enter_defers Tryd.func55, Tryd.ntmps55
  go_wp2_with fail
  refine HE.out.mono ?_
  rintro e w' ⟨rfl, rfl⟩
  go_wp2_with fail
  refine leaves_cons (f := 81) (args := #[]) (by simp) (by simp [go_sem]) ?_
  refine (tells1 _).mono ?_
  rintro e u' w'' ⟨rfl, rfl, rfl⟩
  exact ⟨_, results_tmp rfl _ _ _, rfl, rfl⟩
/-- those alone whose names' first bytes are even -/
def onO (L : List Ob) : List Ob := L.filter fun x => evB x.1
def RetOnly (n : Nat) (w0 : World) (D : Nat) (L : List Ob) (c0 c1 : ByteArray) (k : Nat) (w : World) (e : Ending) (w' : World) : Prop := ∃ D2, e = .returned (.pointer (some ⟨D2, 0, none⟩)) ∧ SW w.heap.size w D2 (onO L) ⟨#[]⟩ ⟨#[]⟩ L.length w' ∧ SW n w0 D L c0 c1 k w'
theorem onO_take (L : List Ob) (j : Nat) (x : Ob) (hx : L[j]? = some x) : onO (L.take (j + 1)) = onO (L.take j) ++ (if evB x.1 = true then [x] else []) := by
  obtain ⟨hj, rfl⟩ := List.getElem?_eq_some_iff.1 hx
  unfold onO
  rw [List.take_succ_eq_append_getElem hj, List.filter_append]
  congr 1
  cases q : evB L[j].1 <;> simp [q]
theorem onO_pos (L : List Ob) (hn : (L.map (·.1)).Nodup) (j : Nat) (x : Ob) (hx : L[j]? = some x) : posO (onO (L.take j)) x.1 = none := by
  obtain ⟨hj, rfl⟩ := List.getElem?_eq_some_iff.1 hx
  unfold posO
  rw [Option.map_eq_none_iff, List.findIdx?_eq_none_iff]
  intro y hy
  cases q : (y.1.toList == L[j].1.toList) with
  | false => rfl
  | true =>
    exfalso
    have hy2 := (List.mem_filter.1 hy).1
    obtain ⟨i, hi, rfl⟩ := List.getElem_of_mem hy2
    rw [List.length_take] at hi
    have e := ba_eq.1 q
    rw [List.getElem_take] at e
    have e2 := List.pairwise_iff_getElem.1 hn i j (by simp; omega) (by simp; omega) (by omega)
    rw [List.getElem_map, List.getElem_map] at e2
    exact e2 e
set_option maxRecDepth 100000 in
set_option maxHeartbeats 4000000 in
theorem sonly_any (n : Nat) (w0 : World) (D : Nat) (L : List Ob) (c0 c1 : ByteArray) (k : Nat) (w : World) (h : SW n w0 D L c0 c1 k w) (hn : (L.map (·.1)).Nodup) (hz : ∀ x ∈ L, x.1.size ≠ 0 ∧ x.1.size ≤ maxLen) (hl : L.length ≤ 900000) :
    Calls Tryd.prog 27 #[.pointer (some ⟨D, 0, none⟩), .func (.func 28) #[] #[]] w (RetOnly n w0 D L c0 c1 k w) := by
  have HSW := Lib.hid h
  obtain ⟨oa, on, oc, B, h1, h2, h3⟩ := h.sk
  have HM := Lib.hid (smade_any D oa on oc (some B) c0 c1 w h1)
  have HW1 := Lib.hid h1
  obtain ⟨A', c', e, hr, hle, hcm⟩ := h2.rd obC_len
  injection e with e1 e2 e3
  subst e1 e2 e3
  have HR := Lib.hid hr
  have HNn := Lib.hid hn
  have HZz := Lib.hid hz
  have hlI : (L.length : Int) ≤ 9223372036854775807 := by omega
  clear h1 h2 h3 hr h hn hz hle hcm
  go_enter Tryd.func27, Tryd.ntmps27
  go_wp2_with fail
  refine HM.out.mono ?_
  rintro e w' ⟨rfl, rfl⟩
  go_wp2_with fail
  refine (snew_any w).mono ?_
  rintro e w1 hr
  obtain ⟨D2, rfl, hs2⟩ := NewS.sw (Below.refl _ w) hr
  have HS1 := Lib.hid hs2
  have HD1 := Lib.hid (blk_below HW1.out hs2.bel)
  have x0 : w1.cell? ⟨D, 0, none⟩ = some (.slice oa L.length oc) := (cell_of_row _ _ 0 _ _ _ HD1.out).trans rfl
  clear hr hs2
  go_wp2_with fail
  go_loopw [17] (fun i wr => ∃ j : Nat, i = .int .i64 (j : Int) ∧ j ≤ L.length ∧ SW w.heap.size w D2 (onO (L.take j)) ⟨#[]⟩ ⟨#[]⟩ j wr) (fun i _ => L.length - (intOf i).toNat)
  case atStart => exact ⟨0, rfl, Nat.zero_le _, HS1.out⟩
  case round =>
    obtain ⟨j, rfl, hj, hs⟩ := hrel
    have HS := Lib.hid hs
    clear hs x0 HS1 HD1
    by_cases hlt : j < L.length
    · have hd1 : decide ((j : Int) < (L.length : Int)) = true := decide_eq_true (by omega)
      have hi0 : (0 : Int) ≤ (j : Int) := by omega
      have hs1 : IntKind.i64.wrap ((j : Int) + 1) = (j : Int) + 1 := IntWalk.i64_in _ (by omega)
      obtain ⟨ba, oa2, hl1, rfl, hba, hca⟩ := (HR.out.below HS.out.bel).at hlt
      have g0 : wr.cell? ⟨ba, oa2 + j * 2, none⟩ = some (.string (L[j]'hl1).1) := by have q := hca 0 _ rfl; simpa using q
      have g1 := hca 1 (.string (L[j]'hl1).2) rfl
      obtain ⟨x, hx⟩ : ∃ x, L[j]? = some x := ⟨_, List.getElem?_eq_getElem hl1⟩
      have hx2 : L[j]'hl1 = x := by rw [List.getElem?_eq_getElem hl1] at hx; exact Option.some.inj hx
      rw [hx2] at g0 g1
      have HT := Lib.hid (onO_take L j x hx)
      have HP := Lib.hid (onO_pos L HNn.out j x hx)
      have HX := Lib.hid (HZz.out x (List.mem_of_getElem? hx))
      have HLE := Lib.hid (show (onO (L.take j)).length < 1000000 from by
        have := List.length_filter_le (fun x : Ob => evB x.1) (L.take j)
        unfold onO
        rw [List.length_take] at this
        omega)
      clear hca hba hx hx2 hl1
      obtain ⟨s, t⟩ := x
      have HB0 := Lib.hid ((Below.refl wr.heap.size wr).alloc (Nat.le_refl _) (.cells #[.string ⟨#[]⟩, .string ⟨#[]⟩] 81 (0, 0)))
      have HN0 := Lib.hid (blk_new wr (.cells #[.string ⟨#[]⟩, .string ⟨#[]⟩] 81 (0, 0)))
      go_wp2_with (refine wpList_store_rowY rfl 81 (.tmp 7) (.tmp 20) rfl wr.heap.size #[.string s, .string t] rfl rfl 81 _ HN0.out (by kernel_rfl) rfl (by simp [Value.oneCell']) wr.heap.size wr HB0.out (Nat.le_refl _) ?_)
      intro w6 hbk hoth hbel _
      have HX6 := Lib.hid hbk.out
      have HS6 := Lib.hid (HS.out.below hbel.out)
      clear hbk hoth hbel HB0 HN0 HS g0 g1
      generalize wr.heap.size = y at *
      have z0 : w6.cell? ⟨y, 0, none⟩ = some (.string s) := (cell_of_row _ _ 0 _ _ _ HX6.out).trans rfl
      have z1 : w6.cell? ⟨y, 1, none⟩ = some (.string t) := (cell_of_row _ _ 1 _ _ _ HX6.out).trans rfl
      have HTL := Lib.hid (tells_any s w6 HX.out.1)
      cases hv : evB s with
      | true =>
        have HT2 := Lib.hid (show onO (L.take (j + 1)) = onO (L.take j) ++ [(s, t)] by rw [HT.out]; simp [hv])
        rw [hv] at HTL
        have HA := Lib.hid (sadd_any D2 (onO (L.take j)) ⟨#[]⟩ ⟨#[]⟩ j s t w6 HS6.out.sk HP.out HX.out.2 (by omega) HLE.out)
        clear hv HT HP
        go_wp2_with fail
        refine HTL.out.mono ?_
        rintro e w' ⟨rfl, rfl⟩
        go_wp2_with fail
        refine HA.out.mono ?_
        rintro e w7 ⟨rfl, q1, q2⟩
        have HS7 := Lib.hid (HS6.out.ks q2 q1)
        clear q1 q2 z0 z1 HA HTL HX6 HS6
        go_wp2_with fail
        go_roundw
        case rel => exact ⟨j + 1, by go_num, by omega, by rw [HT2.out]; exact HS7.out⟩
        case measure => simp [intOf] <;> omega
      | false =>
        have HT2 := Lib.hid (show onO (L.take (j + 1)) = onO (L.take j) by rw [HT.out]; simp [hv])
        rw [hv] at HTL
        clear hv HT HP
        go_wp2_with fail
        refine HTL.out.mono ?_
        rintro e w' ⟨rfl, rfl⟩
        go_wp2_with fail
        go_roundw
        case rel => exact ⟨j + 1, by go_num, by omega, by rw [HT2.out]; exact HS6.out.le (by omega)⟩
        case measure => simp [intOf] <;> omega
    · have hd1 : decide ((j : Int) < (L.length : Int)) = false := decide_eq_false (by omega)
      obtain rfl : j = L.length := by omega
      have HF := Lib.hid (show SW w.heap.size w D2 (onO L) ⟨#[]⟩ ⟨#[]⟩ L.length wr by have := HS.out; rwa [List.take_of_length_le (Nat.le_refl _)] at this)
      go_wp2_with fail
      go_ret
      exact ⟨D2, rfl, HF.out, HSW.out.below HF.out.bel⟩
set_option maxRecDepth 100000 in
set_option maxHeartbeats 800000 in
theorem sclone_ob (A : Option Addr) (n c : Nat) (l : List Ob) (w : World) (h : RdX obC 2 w A n l) (hn : n ≤ 900000) :
    Calls Tryd.prog 51 #[.slice A n c] w fun e w' => ∃ v, e = .returned v ∧ OwX obC 2 81 w' w.heap.size v l ∧ Below w.heap.size w w' := by
  have q24 : ∀ (w : World) (a : Option Addr) (n c n' c' : Nat), (binOp .eql 51 (.slice a n c) (.slice none n' c')).run Tryd.prog w = .ok (.bool a.isNone) w := fun w a n c n' c' => Lib.run_eql_slice_nil w _ _ a n c n' c' Tryd.underlying51
  have H := Lib.hid h
  rcases A with _ | ad
  · have h0 : l = [] := by
      rcases Nat.eq_zero_or_pos n with h0 | h0
      · exact List.length_eq_zero_iff.1 (by rw [h.1]; exact h0)
      · obtain ⟨b, off, e, _⟩ := h.2 h0
        cases e
    subst h0
    clear h
    go_enter Tryd.func51, Tryd.ntmps51
    go_wp2
    go_ret
    exact ⟨_, rfl, OwX.nil w, Below.refl _ _⟩
  · clear h
    go_enter Tryd.func51, Tryd.ntmps51
    go_wp2_with (at_builtin; refine wpList_appXs rfl _ _ 51 81 _ 32 rfl Tryd.underlying51 info_ob rfl (by omega) (by omega) obC_len obC_one w.heap.size w ((Below.refl _ w).alloc (Nat.le_refl _) _) (by simp) _ [] rfl (OwX.zero (blk_new w _) (Nat.le_refl _) (Nat.zero_le _) rfl) (some ad) n c l rfl (H.out.below ((Below.refl _ w).alloc (Nat.le_refl _) _)) (by simp; omega) ?_)
    intro v1 w1 HO HB HZ HG
    have hv1 := HO.out.one
    go_wp2_with fail
    go_ret
    exact ⟨v1, rfl, HO.out, HB.out⟩
def RetCopy (n : Nat) (w0 : World) (D : Nat) (L : List Ob) (c0 c1 : ByteArray) (k : Nat) (w : World) (e : Ending) (w' : World) : Prop := ∃ D2, e = .returned (.pointer (some ⟨D2, 0, none⟩)) ∧ SW w.heap.size w D2 L c0 c1 k w' ∧ SW n w0 D L c0 c1 k w'
set_option linter.unusedSimpArgs false in
set_option maxRecDepth 100000 in
set_option maxHeartbeats 4000000 in
theorem scopy_any (n : Nat) (w0 : World) (D : Nat) (L : List Ob) (c0 c1 : ByteArray) (k : Nat) (w : World) (h : SW n w0 D L c0 c1 k w) (hl : L.length ≤ 900000) :
    Calls Tryd.prog 23 #[.pointer (some ⟨D, 0, none⟩)] w (RetCopy n w0 D L c0 c1 k w) := by
  have HSW := Lib.hid h
  obtain ⟨oa, on, oc, B, h1, h2, h3⟩ := h.sk
  have HM := Lib.hid (smade_any D oa on oc (some B) c0 c1 w h1)
  obtain ⟨A', c', e, hr, hle, hcm⟩ := h2.rd obC_len
  injection e with e1 e2 e3
  subst e1 e2 e3
  have HX0 := Lib.hid (show w.drew.heap[D]? = some (shO oa L.length oc (some B) c0 c1) from h1)
  have HR := Lib.hid hr.drew
  have HMP := Lib.hid (h3.kept (w' := w.drew) rfl)
  have HB0 := Lib.hid (Below.refl w.heap.size w).drew
  clear h1 h2 h3 hr h hle hcm
  go_enter Tryd.func23, Tryd.ntmps23
  go_wp2_with fail
  refine HM.out.mono ?_
  rintro e w' ⟨rfl, rfl⟩
  go_upto_region 3 with (fail)
  refine wp_region_L_drew (S := fun _ W => W.heap[D]? = some (shO oa L.length oc (some B) c0 c1)) (by kernel_rfl) HX0.out (fun hS hC => ?_)
  generalize w.drew = v0 at *
  refine wpAnyL_take (i := 0) (oi := { dst := some 6, op := .move (.tmp 0), type := _, pos := _, after := _, guard := none }) (v := ?_) rfl (by kernel_rfl) (by kernel_rfl) (by kernel_rfl) (fun _ _ _ h => h) (fun _ _ => Iff.rfl) hC (Or.inl ⟨by rfl, ?_⟩) hS (fun hC hS => ?_)
  rotate_left
  · intro W9 hSw; skip; go_simp; try (with_reducible rfl)
  try simp only [Act.put, List.setIfInBounds_toArray, List.set_cons_zero, List.set_cons_succ]
  refine wpAnyL_take (i := 1) (oi := { dst := some 7, op := .nilCheck (.tmp 6), type := _, pos := _, after := _, guard := none }) (v := ?_) rfl (by kernel_rfl) (by kernel_rfl) (by kernel_rfl) (fun _ _ _ h => h) (fun _ _ => Iff.rfl) hC (Or.inl ⟨by rfl, ?_⟩) hS (fun hC hS => ?_)
  rotate_left
  · intro W9 hSw; skip; go_simp; try (with_reducible rfl)
  try simp only [Act.put, List.setIfInBounds_toArray, List.set_cons_zero, List.set_cons_succ]
  refine wpAnyL_take (i := 2) (oi := { dst := some 8, op := .fieldAddr 55 (.tmp 7) 0, type := _, pos := _, after := _, guard := none }) (v := ?_) rfl (by kernel_rfl) (by kernel_rfl) (by kernel_rfl) (fun _ _ _ h => h) (fun _ _ => Iff.rfl) hC (Or.inl ⟨by rfl, ?_⟩) hS (fun hC hS => ?_)
  rotate_left
  · intro W9 hSw; skip; go_simp; try (with_reducible rfl)
  try simp only [Act.put, List.setIfInBounds_toArray, List.set_cons_zero, List.set_cons_succ]
  refine wpAnyL_take (i := 3) (oi := { dst := some 9, op := .load 51 (.tmp 8), type := _, pos := _, after := _, guard := none }) (v := ?_) rfl (by kernel_rfl) (by kernel_rfl) (by kernel_rfl) (fun _ _ _ h => h) (fun _ _ => Iff.rfl) hC (Or.inl ⟨by rfl, ?_⟩) hS (fun hC hS => ?_)
  rotate_left
  · intro W9 hSw; have q0 := (cell_of_row _ _ 0 _ _ _ (hSw.choose_spec.2.2)).trans rfl; go_simp; try (with_reducible rfl)
  try simp only [Act.put, List.setIfInBounds_toArray, List.set_cons_zero, List.set_cons_succ]
  refine wpAnyL_take (i := 5) (oi := { dst := some 11, op := .move (.tmp 0), type := _, pos := _, after := _, guard := none }) (v := ?_) rfl (by kernel_rfl) (by kernel_rfl) (by kernel_rfl) (fun _ _ _ h => h) (fun _ _ => Iff.rfl) hC (Or.inl ⟨by rfl, ?_⟩) hS (fun hC hS => ?_)
  rotate_left
  · intro W9 hSw; skip; go_simp; try (with_reducible rfl)
  try simp only [Act.put, List.setIfInBounds_toArray, List.set_cons_zero, List.set_cons_succ]
  refine wpAnyL_take (i := 6) (oi := { dst := some 12, op := .nilCheck (.tmp 11), type := _, pos := _, after := _, guard := none }) (v := ?_) rfl (by kernel_rfl) (by kernel_rfl) (by kernel_rfl) (fun _ _ _ h => h) (fun _ _ => Iff.rfl) hC (Or.inl ⟨by rfl, ?_⟩) hS (fun hC hS => ?_)
  rotate_left
  · intro W9 hSw; skip; go_simp; try (with_reducible rfl)
  try simp only [Act.put, List.setIfInBounds_toArray, List.set_cons_zero, List.set_cons_succ]
  refine wpAnyL_take (i := 7) (oi := { dst := some 13, op := .fieldAddr 55 (.tmp 12) 1, type := _, pos := _, after := _, guard := none }) (v := ?_) rfl (by kernel_rfl) (by kernel_rfl) (by kernel_rfl) (fun _ _ _ h => h) (fun _ _ => Iff.rfl) hC (Or.inl ⟨by rfl, ?_⟩) hS (fun hC hS => ?_)
  rotate_left
  · intro W9 hSw; skip; go_simp; try (with_reducible rfl)
  try simp only [Act.put, List.setIfInBounds_toArray, List.set_cons_zero, List.set_cons_succ]
  refine wpAnyL_take (i := 8) (oi := { dst := some 14, op := .load 52 (.tmp 13), type := _, pos := _, after := _, guard := none }) (v := ?_) rfl (by kernel_rfl) (by kernel_rfl) (by kernel_rfl) (fun _ _ _ h => h) (fun _ _ => Iff.rfl) hC (Or.inl ⟨by rfl, ?_⟩) hS (fun hC hS => ?_)
  rotate_left
  · intro W9 hSw; have q1 := (cell_of_row _ _ 1 _ _ _ (hSw.choose_spec.2.2)).trans rfl; go_simp; try (with_reducible rfl)
  try simp only [Act.put, List.setIfInBounds_toArray, List.set_cons_zero, List.set_cons_succ]
  refine wpAnyL_take (i := 10) (oi := { dst := some 16, op := .move (.tmp 0), type := _, pos := _, after := _, guard := none }) (v := ?_) rfl (by kernel_rfl) (by kernel_rfl) (by kernel_rfl) (fun _ _ _ h => h) (fun _ _ => Iff.rfl) hC (Or.inl ⟨by rfl, ?_⟩) hS (fun hC hS => ?_)
  rotate_left
  · intro W9 hSw; skip; go_simp; try (with_reducible rfl)
  try simp only [Act.put, List.setIfInBounds_toArray, List.set_cons_zero, List.set_cons_succ]
  refine wpAnyL_take (i := 11) (oi := { dst := some 17, op := .nilCheck (.tmp 16), type := _, pos := _, after := _, guard := none }) (v := ?_) rfl (by kernel_rfl) (by kernel_rfl) (by kernel_rfl) (fun _ _ _ h => h) (fun _ _ => Iff.rfl) hC (Or.inl ⟨by rfl, ?_⟩) hS (fun hC hS => ?_)
  rotate_left
  · intro W9 hSw; skip; go_simp; try (with_reducible rfl)
  try simp only [Act.put, List.setIfInBounds_toArray, List.set_cons_zero, List.set_cons_succ]
  refine wpAnyL_take (i := 12) (oi := { dst := some 18, op := .fieldAddr 55 (.tmp 17) 2, type := _, pos := _, after := _, guard := none }) (v := ?_) rfl (by kernel_rfl) (by kernel_rfl) (by kernel_rfl) (fun _ _ _ h => h) (fun _ _ => Iff.rfl) hC (Or.inl ⟨by rfl, ?_⟩) hS (fun hC hS => ?_)
  rotate_left
  · intro W9 hSw; skip; go_simp; try (with_reducible rfl)
  try simp only [Act.put, List.setIfInBounds_toArray, List.set_cons_zero, List.set_cons_succ]
  refine wpAnyL_take (i := 13) (oi := { dst := some 19, op := .load 53 (.tmp 18), type := _, pos := _, after := _, guard := none }) (v := ?_) rfl (by kernel_rfl) (by kernel_rfl) (by kernel_rfl) (fun _ _ _ h => h) (fun _ _ => Iff.rfl) hC (Or.inl ⟨by rfl, ?_⟩) hS (fun hC hS => ?_)
  rotate_left
  · intro W9 hSw; have q2 := (cell_of_row _ _ 2 _ _ _ (hSw.choose_spec.2.2)).trans rfl; have q3 := (cell_of_row _ _ 3 _ _ _ (hSw.choose_spec.2.2)).trans rfl; go_simp; try (with_reducible rfl)
  try simp only [Act.put, List.setIfInBounds_toArray, List.set_cons_zero, List.set_cons_succ]
  refine wpAnyL_ready (rs := [4]) (by kernel_rfl) (by simp) hC ?_
  refine AllReadyL.cons (o := { dst := some 10, op := .call { callee := .value (.func 51), args := #[.tmp 9], argTypes := #[51] }, type := _, pos := _, after := _, guard := none }) rfl (fun K9 hK => ?_) ?_
  · skip
    go_simp
    refine (sclone_ob oa L.length oc L v0 HR.out hl).mono ?_
    rintro e v1 ⟨V, rfl, ho, hb⟩
    have HO1 := Lib.hid ho
    have HB1 := Lib.hid (HB0.out.trans (hb.mono HB0.out.size))
    have HX1 := Lib.hid (blk_below HX0.out hb)
    have HM1 := Lib.hid (HMP.out.kept (hb.block B HMP.out.lt))
    have HLV := Lib.hid hb
    obtain ⟨A, nV, cV, rfl⟩ := ho.sl3
    clear hb ho HX0 HMP HR
    refine hK _ _ HX1.out (fun hC => ?_)
    clear hK K9
    try simp only [Act.put, List.setIfInBounds_toArray, List.set_cons_zero, List.set_cons_succ]
    refine wpAnyL_ready (rs := [9]) (by kernel_rfl) (by simp) hC ?_
    refine AllReadyL.cons (o := { dst := some 15, op := .call { callee := .value (.func 52), args := #[.tmp 14], argTypes := #[52] }, type := _, pos := _, after := _, guard := none }) rfl (fun K9 hK => ?_) ?_
    · skip
      go_simp
      obtain ⟨nn, Dm, m1, m2, m3⟩ := HM1.out
      refine (AnyW.maps_Clone_owns Tryd.cloneL 9 _ B nn Dm v1 m1).mono ?_
      rintro e v2 ⟨rfl, k1, _, hb⟩
      have HM2 := Lib.hid (show MapI v2 v1.heap.size k (posO L) from ⟨nn, Dm, k1, m2, m3⟩)
      have HB2 := Lib.hid (HB1.out.trans (hb.mono HB1.out.size))
      have HX2 := Lib.hid (blk_below HX1.out hb)
      have HO2 := Lib.hid (HO1.out.kept hb)
      have HN := Lib.hid (show w.heap.size ≤ v1.heap.size from HB1.out.size)
      clear hb k1 m1 m2 m3 HX1 HO1 HB1 HM1
      generalize v1.heap.size = mb at *
      refine hK _ _ HX2.out (fun hC => ?_)
      clear hK K9
      try simp only [Act.put, List.setIfInBounds_toArray, List.set_cons_zero, List.set_cons_succ]
      refine wpAnyL_take (i := 14) (oi := { dst := some 20, op := .build 55 #[(0, .tmp 10), (1, .tmp 15), (2, .tmp 19)], type := _, pos := _, after := _, guard := none }) (v := ?_) rfl (by kernel_rfl) (by kernel_rfl) (by kernel_rfl) (fun _ _ _ h => h) (fun _ _ => Iff.rfl) hC (Or.inl ⟨by rfl, ?_⟩) HX2.out (fun hC hS => ?_)
      rotate_left
      · intro W9 hSw; skip; go_simp; try (with_reducible rfl)
      try simp only [Act.put, List.setIfInBounds_toArray, List.set_cons_zero, List.set_cons_succ]
      refine wpAnyL_ready (rs := [15]) (by kernel_rfl) (by simp) hC ?_
      refine AllReadyL.cons (o := { dst := some 21, op := .box 55 (.tmp 20), type := _, pos := _, after := _, guard := none }) rfl (fun K9 hK => ?_) ?_
      · skip
        go_simp
        have HB3 := Lib.hid (HB2.out.alloc HB2.out.size (.cells #[.slice A nV cV, .map (some mb), .string c0, .string c1] 55 (0, 0)))
        have HX3 := Lib.hid (blk_alloc HX2.out (.cells #[.slice A nV cV, .map (some mb), .string c0, .string c1] 55 (0, 0)))
        have HM3 := Lib.hid (HM2.out.kept (w' := v2.alloc (.cells #[.slice A nV cV, .map (some mb), .string c0, .string c1] 55 (0, 0))) (Below.heap_alloc _ _ mb HM2.out.lt))
        have HO3 := Lib.hid (HO2.out.alloc (.cells #[.slice A nV cV, .map (some mb), .string c0, .string c1] 55 (0, 0)))
        have HN3 := Lib.hid (blk_new v2 (.cells #[.slice A nV cV, .map (some mb), .string c0, .string c1] 55 (0, 0)))
        refine hK _ _ HX3.out (fun hC => ?_)
        clear hK K9
        try simp only [Act.put, List.setIfInBounds_toArray, List.set_cons_zero, List.set_cons_succ]
        refine wpAnyL_take (i := 16) (oi := { dst := some 2, op := .assign (.tmp 21), type := _, pos := _, after := _, guard := none }) (v := ?_) rfl (by kernel_rfl) (by kernel_rfl) (by kernel_rfl) (fun _ _ _ h => h) (fun _ _ => Iff.rfl) hC (Or.inl ⟨by rfl, ?_⟩) HX3.out (fun hC hS => ?_)
        rotate_left
        · intro W9 hSw; skip; go_simp; try (with_reducible rfl)
        try simp only [Act.put, List.setIfInBounds_toArray, List.set_cons_zero, List.set_cons_succ]
        refine wpAnyL_done (by kernel_rfl) ?_ _
        clear hS hC
        go_wp2_with fail
        go_ret
        refine ⟨_, rfl, ⟨⟨A, nV, cV, mb, HN3.out, .inl (HO3.out.mono (Nat.zero_le _)), HM3.out⟩, fun b q => ?_, HB3.out, HB3.out.size⟩, HSW.out.below HB3.out⟩
        rcases q.cases HN3.out with q | ⟨o, q⟩ | q
        · subst q; exact HB2.out.size
        · subst q; exact Nat.le_trans HB0.out.size (World.ownsRow.lt HO3.out _ rfl).1
        · cases q; exact HN.out
      exact AllReadyL.nil
    exact AllReadyL.nil
  exact AllReadyL.nil
end Go.Proofs.YtpjpegmjcgkonaaDoor

namespace Go.Proofs.YtpjpegmjcgkonaaDoor
open Go.RowKit Vi

theorem rd_sln {w : World} {A : Option Addr} {n : Nat} {l : List ByteArray} (h : RdX stC 1 w A n l) : SlN w A n l := by
  refine ⟨h.1, fun hp => ?_⟩
  obtain ⟨b, off, rfl, _, hc⟩ := h.2 hp
  exact ⟨b, off, rfl, fun i hi => by have q := hc i l[i] 0 (.string l[i]) (List.getElem?_eq_getElem hi) rfl; simpa using q⟩
theorem tx_all (L : List Ob) : txO L 0 = L.map (·.2) := by unfold txO; rw [if_pos (by omega)]; simp
theorem same_texts (A : Option Addr) (ca : Nat) (B : Option Addr) (cb n : Nat) (l : List ByteArray) (w : World) (h1 : SlN w A n l) (h2 : SlN w B n l) (hn : n ≤ 1000000) :
    Calls Tryd.prog 17 #[.slice A n ca, .slice B n cb] w fun e w' => e = .returned (.bool true) ∧ Below w.heap.size w w' := of_drew (texts_same A ca B cb n l w h1 h2 hn)
/-- what the acts keep of a shelf and of the document's -/
structure Inv (L : List Ob) (c0 c1 : ByteArray) : Prop where
  li : LI L
  ci : CI c0 c1
  nd : (L.map (·.1)).Nodup
theorem Inv.nm {L : List Ob} {c0 c1 : ByteArray} (h : Inv L c0 c1) : ∀ x ∈ L, x.1.size ≠ 0 ∧ x.1.size ≤ maxLen := fun x hx => by
  rw [(h.li x hx).1, nm_size]
  exact ⟨by decide, by decide⟩
set_option linter.unusedSimpArgs false in
set_option maxRecDepth 100000 in
set_option maxHeartbeats 8000000 in
theorem ssame_any (P : Nat → Prop) (D : Nat) (L : List Ob) (c0 c1 : ByteArray) (k : Nat) (ta : Option Addr) (tn tc : Nat) (sa : Option Addr) (sn sc : Nat) (w : World) (h : SK D L c0 c1 k w) (hr : ShR P L ta tn tc sa sn sc w) (hi : Inv L c0 c1) (hl : L.length ≤ 40000) (hk : k ≤ 1000000) :
    Calls Tryd.prog 13 #[.pointer (some ⟨D, 0, none⟩), rsv ta tn tc sa sn sc c0 c1] w fun e w' => e = .returned (.bool true) ∧ Below w.heap.size w w' := by
  obtain rfl := hr.tn_eq
  obtain rfl := hr.sn_eq
  have HB0 := Lib.hid ((Below.refl w.heap.size w).alloc (Nat.le_refl _) (.cells #[.slice ta L.length tc, .slice sa L.length sc, .string c0, .string c1] 29 (0, 0)))
  have HX0 := Lib.hid (blk_new w (.cells #[.slice ta L.length tc, .slice sa L.length sc, .string c0, .string c1] 29 (0, 0)))
  have HS0 := Lib.hid (h.kept HB0.out)
  have HR0 := Lib.hid (hr.below HB0.out)
  have HI := Lib.hid hi
  have HLL := Lib.hid hl
  have HKK := Lib.hid hk
  obtain ⟨v, hv⟩ : ∃ v, v = w.alloc (.cells #[.slice ta L.length tc, .slice sa L.length sc, .string c0, .string c1] 29 (0, 0)) := ⟨_, rfl⟩
  have HV := Lib.hid hv
  rw [← hv] at HB0 HX0 HS0 HR0
  have HCL := Lib.hid (sclash_any D L c0 c1 k v HS0.out)
  clear hv h hr hi hl hk
  rcases HI.out.ci with ⟨e0, e1⟩ | e0
  · subst e0 e1
    rw [show metO ⟨#[]⟩ ⟨#[]⟩ = false from rfl] at HCL
    go_enter Tryd.func13, Tryd.ntmps13
    go_upto_region 1 with (fail)
    rw [← HV.out]
    go_wp2_with fail
    refine HCL.out.mono ?_
    rintro e w1 ⟨rfl, hb⟩
    have HS1 := Lib.hid (HS0.out.kept hb)
    have HR1 := Lib.hid (HR0.out.below hb)
    have HX1 := Lib.hid (blk_below HX0.out hb)
    have HB1 := Lib.hid (HB0.out.trans (hb.mono HB0.out.size))
    clear hb HCL HS0 HR0 HX0 HB0
    go_upto_region 2 with (fail)
    have HX1 := Lib.hid (show w1.drew.heap[w.heap.size]? = some (.cells #[.slice ta L.length tc, .slice sa L.length sc, .string ⟨#[]⟩, .string ⟨#[]⟩] 29 (0, 0)) from HX1.out)
    have HB1 := Lib.hid HB1.out.drew
    have HS1 := Lib.hid (HS1.out.kept (Below.refl _ _).drew)
    have HR1 := Lib.hid (HR1.out.below (Below.refl _ _).drew)
    refine wp_region_L_drew (S := fun _ W => W.heap[w.heap.size]? = some (.cells #[.slice ta L.length tc, .slice sa L.length sc, .string ⟨#[]⟩, .string ⟨#[]⟩] 29 (0, 0))) (by kernel_rfl) HX1.out (fun hS hC => ?_)
    generalize w1.drew = v1 at *
    refine wpAnyL_take (i := 0) (oi := { dst := some 14, op := .move (.tmp 0), type := _, pos := _, after := _, guard := none }) (v := ?_) rfl (by kernel_rfl) (by kernel_rfl) (by kernel_rfl) (fun _ _ _ h => h) (fun _ _ => Iff.rfl) hC (Or.inl ⟨by rfl, ?_⟩) hS (fun hC hS => ?_)
    rotate_left
    · intro W9 hSw; skip; go_simp; try (with_reducible rfl)
    try simp only [Act.put, List.setIfInBounds_toArray, List.set_cons_zero, List.set_cons_succ]
    refine wpAnyL_take (i := 2) (oi := { dst := some 16, op := .fieldAddr 29 (.tmp 3) 0, type := _, pos := _, after := _, guard := none }) (v := ?_) rfl (by kernel_rfl) (by kernel_rfl) (by kernel_rfl) (fun _ _ _ h => h) (fun _ _ => Iff.rfl) hC (Or.inl ⟨by rfl, ?_⟩) hS (fun hC hS => ?_)
    rotate_left
    · intro W9 hSw; skip; go_simp; try (with_reducible rfl)
    try simp only [Act.put, List.setIfInBounds_toArray, List.set_cons_zero, List.set_cons_succ]
    refine wpAnyL_take (i := 3) (oi := { dst := some 17, op := .load 27 (.tmp 16), type := _, pos := _, after := _, guard := none }) (v := ?_) rfl (by kernel_rfl) (by kernel_rfl) (by kernel_rfl) (fun _ _ _ h => h) (fun _ _ => Iff.rfl) hC (Or.inl ⟨by rfl, ?_⟩) hS (fun hC hS => ?_)
    rotate_left
    · intro W9 hSw; have q0 := (cell_of_row _ _ 0 _ _ _ (hSw.choose_spec.2.2)).trans rfl; go_simp; try (with_reducible rfl)
    try simp only [Act.put, List.setIfInBounds_toArray, List.set_cons_zero, List.set_cons_succ]
    refine wpAnyL_ready (rs := [1]) (by kernel_rfl) (by simp) hC ?_
    refine AllReadyL.cons (o := { dst := some 15, op := .call { callee := .value (.func 18), args := #[.tmp 14, .const (.int Go.IntKind.i64 0)], argTypes := #[25, 3] }, type := _, pos := _, after := _, guard := none }) rfl (fun K9 hK => ?_) ?_
    · skip
      go_simp
      refine (stexts_any D L ⟨#[]⟩ ⟨#[]⟩ k 0 v1 HS1.out (by have := HLL.out; omega)).mono ?_
      rintro e v2 ⟨V, rfl, ho, hb⟩
      rw [tx_all] at ho
      obtain ⟨A1, C1, rfl, hrd, _, _⟩ := ho.rd stC_len
      rw [List.length_map] at hrd ⊢
      have HT1 := Lib.hid (rd_sln hrd)
      clear hrd ho
      have HS2 := Lib.hid (HS1.out.kept hb)
      have HR2 := Lib.hid (HR1.out.below hb)
      have HX2 := Lib.hid (blk_below HX1.out hb)
      have HB2 := Lib.hid (HB1.out.trans (hb.mono HB1.out.size))
      clear hb HS1 HR1 HX1 HB1
      refine hK _ _ HX2.out (fun hC => ?_)
      clear hK K9
      try simp only [Act.put, List.setIfInBounds_toArray, List.set_cons_zero, List.set_cons_succ]
      refine wpAnyL_ready (rs := [4]) (by kernel_rfl) (by simp) hC ?_
      refine AllReadyL.cons (o := { dst := some 18, op := .call { callee := .value (.func 17), args := #[.tmp 15, .tmp 17], argTypes := #[27, 27] }, type := _, pos := _, after := _, guard := none }) rfl (fun K9 hK => ?_) ?_
      · skip
        go_simp
        refine (same_texts A1 C1 ta tc L.length (L.map (·.2)) v2 HT1.out (rd_sln HR2.out.t) (by have := HLL.out; omega)).mono ?_
        rintro e v3 ⟨rfl, hb⟩
        clear HT1
        have HS3 := Lib.hid (HS2.out.kept hb)
        have HR3 := Lib.hid (HR2.out.below hb)
        have HX3 := Lib.hid (blk_below HX2.out hb)
        have HB3 := Lib.hid (HB2.out.trans (hb.mono HB2.out.size))
        clear hb HS2 HR2 HX2 HB2
        refine hK _ _ HX3.out (fun hC => ?_)
        clear hK K9
        try simp only [Act.put, List.setIfInBounds_toArray, List.set_cons_zero, List.set_cons_succ]
        refine wpAnyL_take (i := 5) (oi := { dst := some 19, op := .move (.tmp 18), type := _, pos := _, after := _, guard := none }) (v := ?_) rfl (by kernel_rfl) (by kernel_rfl) (by kernel_rfl) (fun _ _ _ h => h) (fun _ _ => Iff.rfl) hC (Or.inl ⟨by rfl, ?_⟩) HX3.out (fun hC hS => ?_)
        rotate_left
        · intro W9 hSw; skip; go_simp; try (with_reducible rfl)
        try simp only [Act.put, List.setIfInBounds_toArray, List.set_cons_zero, List.set_cons_succ]
        refine wpAnyL_take (i := 6) (oi := { dst := some 20, op := .move (.tmp 0), type := _, pos := _, after := _, guard := some (5, true) }) (v := ?_) rfl (by kernel_rfl) (by kernel_rfl) (by kernel_rfl) (fun _ _ _ h => h) (fun _ _ => Iff.rfl) hC (Or.inl ⟨by rfl, ?_⟩) HX3.out (fun hC hS => ?_)
        rotate_left
        · intro W9 hSw; skip; go_simp; try (with_reducible rfl)
        try simp only [Act.put, List.setIfInBounds_toArray, List.set_cons_zero, List.set_cons_succ]
        refine wpAnyL_take (i := 8) (oi := { dst := some 22, op := .fieldAddr 29 (.tmp 3) 0, type := _, pos := _, after := _, guard := some (5, true) }) (v := ?_) rfl (by kernel_rfl) (by kernel_rfl) (by kernel_rfl) (fun _ _ _ h => h) (fun _ _ => Iff.rfl) hC (Or.inl ⟨by rfl, ?_⟩) HX3.out (fun hC hS => ?_)
        rotate_left
        · intro W9 hSw; skip; go_simp; try (with_reducible rfl)
        try simp only [Act.put, List.setIfInBounds_toArray, List.set_cons_zero, List.set_cons_succ]
        refine wpAnyL_take (i := 9) (oi := { dst := some 23, op := .load 27 (.tmp 22), type := _, pos := _, after := _, guard := some (5, true) }) (v := ?_) rfl (by kernel_rfl) (by kernel_rfl) (by kernel_rfl) (fun _ _ _ h => h) (fun _ _ => Iff.rfl) hC (Or.inl ⟨by rfl, ?_⟩) HX3.out (fun hC hS => ?_)
        rotate_left
        · intro W9 hSw; have q0 := (cell_of_row _ _ 0 _ _ _ (hSw.choose_spec.2.2)).trans rfl; go_simp; try (with_reducible rfl)
        try simp only [Act.put, List.setIfInBounds_toArray, List.set_cons_zero, List.set_cons_succ]
        refine wpAnyL_take (i := 10) (oi := { dst := some 24, op := .call { callee := .builtin .len, args := #[.tmp 23], argTypes := #[27] }, type := _, pos := _, after := _, guard := some (5, true) }) (v := ?_) rfl (by kernel_rfl) (by kernel_rfl) (by kernel_rfl) (fun _ _ _ h => h) (fun _ _ => Iff.rfl) hC (Or.inl ⟨by rfl, ?_⟩) HX3.out (fun hC hS => ?_)
        rotate_left
        · intro W9 hSw; skip; go_simp; try (with_reducible rfl)
        try simp only [Act.put, List.setIfInBounds_toArray, List.set_cons_zero, List.set_cons_succ]
        refine wpAnyL_ready (rs := [7]) (by kernel_rfl) (by simp) hC ?_
        refine AllReadyL.cons (o := { dst := some 21, op := .call { callee := .value (.func 24), args := #[.tmp 20], argTypes := #[25] }, type := _, pos := _, after := _, guard := some (5, true) }) rfl (fun K9 hK => ?_) ?_
        · skip
          go_simp
          refine (slen_any D L ⟨#[]⟩ ⟨#[]⟩ k v3 HS3.out).mono ?_
          rintro e w' ⟨rfl, rfl⟩
          refine hK _ _ HX3.out (fun hC => ?_)
          clear hK K9
          try simp only [Act.put, List.setIfInBounds_toArray, List.set_cons_zero, List.set_cons_succ]
          refine wpAnyL_take (i := 11) (oi := { dst := some 25, op := .binOp .eql 3 (.tmp 21) (.tmp 24) 3, type := _, pos := _, after := _, guard := some (5, true) }) (v := ?_) rfl (by kernel_rfl) (by kernel_rfl) (by kernel_rfl) (fun _ _ _ h => h) (fun _ _ => Iff.rfl) hC (Or.inl ⟨by rfl, ?_⟩) HX3.out (fun hC hS => ?_)
          rotate_left
          · intro W9 hSw; skip; go_simp; try (with_reducible rfl)
          try simp only [Act.put, List.setIfInBounds_toArray, List.set_cons_zero, List.set_cons_succ]
          refine wpAnyL_take (i := 12) (oi := { dst := some 26, op := .pick (.tmp 19) (.tmp 25) (.const (.bool false)), type := _, pos := _, after := _, guard := none }) (v := ?_) rfl (by kernel_rfl) (by kernel_rfl) (by kernel_rfl) (fun _ _ _ h => h) (fun _ _ => Iff.rfl) hC (Or.inl ⟨by rfl, ?_⟩) HX3.out (fun hC hS => ?_)
          rotate_left
          · intro W9 hSw; skip; go_simp; try (with_reducible rfl)
          try simp only [Act.put, List.setIfInBounds_toArray, List.set_cons_zero, List.set_cons_succ]
          refine wpAnyL_take (i := 13) (oi := { dst := some 27, op := .move (.tmp 26), type := _, pos := _, after := _, guard := none }) (v := ?_) rfl (by kernel_rfl) (by kernel_rfl) (by kernel_rfl) (fun _ _ _ h => h) (fun _ _ => Iff.rfl) hC (Or.inl ⟨by rfl, ?_⟩) HX3.out (fun hC hS => ?_)
          rotate_left
          · intro W9 hSw; skip; go_simp; try (with_reducible rfl)
          try simp only [Act.put, List.setIfInBounds_toArray, List.set_cons_zero, List.set_cons_succ]
          refine wpAnyL_take (i := 14) (oi := { dst := some 28, op := .move (.tmp 0), type := _, pos := _, after := _, guard := some (13, true) }) (v := ?_) rfl (by kernel_rfl) (by kernel_rfl) (by kernel_rfl) (fun _ _ _ h => h) (fun _ _ => Iff.rfl) hC (Or.inl ⟨by rfl, ?_⟩) HX3.out (fun hC hS => ?_)
          rotate_left
          · intro W9 hSw; skip; go_simp; try (with_reducible rfl)
          try simp only [Act.put, List.setIfInBounds_toArray, List.set_cons_zero, List.set_cons_succ]
          refine wpAnyL_take (i := 16) (oi := { dst := some 30, op := .load 29 (.tmp 3), type := _, pos := _, after := _, guard := some (13, true) }) (v := ?_) rfl (by kernel_rfl) (by kernel_rfl) (by kernel_rfl) (fun _ _ _ h => h) (fun _ _ => Iff.rfl) hC (Or.inl ⟨by rfl, ?_⟩) HX3.out (fun hC hS => ?_)
          rotate_left
          · intro W9 hSw; have q0 := (cell_of_row _ _ 0 _ _ _ (hSw.choose_spec.2.2)).trans rfl; have q1 := (cell_of_row _ _ 1 _ _ _ (hSw.choose_spec.2.2)).trans rfl; have q2 := (cell_of_row _ _ 2 _ _ _ (hSw.choose_spec.2.2)).trans rfl; have q3 := (cell_of_row _ _ 3 _ _ _ (hSw.choose_spec.2.2)).trans rfl; go_simp; try (with_reducible rfl)
          try simp only [Act.put, List.setIfInBounds_toArray, List.set_cons_zero, List.set_cons_succ]
          refine wpAnyL_ready (rs := [15]) (by kernel_rfl) (by simp) hC ?_
          refine AllReadyL.cons (o := { dst := some 29, op := .call { callee := .value (.func 25), args := #[.tmp 28], argTypes := #[25] }, type := _, pos := _, after := _, guard := some (13, true) }) rfl (fun K9 hK => ?_) ?_
          · skip
            go_simp
            refine (snames_any D L ⟨#[]⟩ ⟨#[]⟩ k v3 HS3.out HI.out.nd (fun x hx => (HI.out.nm x hx).2) HKK.out).mono ?_
            rintro e v4 ⟨V, rfl, ho, hb⟩
            obtain ⟨A2, C2, rfl, hrd, _, _⟩ := ho.rd stC_len
            have HT2 := Lib.hid (rd_sln hrd)
            clear hrd ho
            have HS4 := Lib.hid (HS3.out.kept hb)
            have HR4 := Lib.hid (HR3.out.below hb)
            have HX4 := Lib.hid (blk_below HX3.out hb)
            have HB4 := Lib.hid (HB3.out.trans (hb.mono HB3.out.size))
            clear hb HS3 HR3 HX3 HB3
            refine hK _ _ HX4.out (fun hC => ?_)
            clear hK K9
            try simp only [Act.put, List.setIfInBounds_toArray, List.set_cons_zero, List.set_cons_succ]
            refine wpAnyL_ready (rs := [17]) (by kernel_rfl) (by simp) hC ?_
            refine AllReadyL.cons (o := { dst := some 31, op := .call { callee := .value (.func 44), args := #[.tmp 30], argTypes := #[29] }, type := _, pos := _, after := _, guard := some (13, true) }) rfl (fun K9 hK => ?_) ?_
            · skip
              go_simp
              refine (rsnames_any P L ⟨#[]⟩ ⟨#[]⟩ ta L.length tc sa L.length sc v4 HR4.out HLL.out).mono ?_
              rintro e v5 ⟨V, rfl, ⟨A3, C3, rfl, hs, _, _⟩, hb⟩
              have HS5 := Lib.hid (HS4.out.kept hb)
              have HR5 := Lib.hid (HR4.out.below hb)
              have HX5 := Lib.hid (blk_below HX4.out hb)
              have HB5 := Lib.hid (HB4.out.trans (hb.mono HB4.out.size))
              have HT3 := Lib.hid (HT2.out.later hb)
              clear hb HS4 HR4 HX4 HB4
              have HT4 := Lib.hid hs
              clear hs HT2
              refine hK _ _ HX5.out (fun hC => ?_)
              clear hK K9
              try simp only [Act.put, List.setIfInBounds_toArray, List.set_cons_zero, List.set_cons_succ]
              refine wpAnyL_ready (rs := [18]) (by kernel_rfl) (by simp) hC ?_
              refine AllReadyL.cons (o := { dst := some 32, op := .call { callee := .value (.func 17), args := #[.tmp 29, .tmp 31], argTypes := #[27, 27] }, type := _, pos := _, after := _, guard := some (13, true) }) rfl (fun K9 hK => ?_) ?_
              · skip
                go_simp
                refine (same_texts A2 C2 A3 C3 (nmsL L).length (nmsL L) v5 HT3.out HT4.out (by refine Nat.le_trans (fold_len _ _) ?_; rw [List.length_map, List.length_nil]; have := HLL.out; omega)).mono ?_
                rintro e v6 ⟨rfl, hb⟩
                clear HT3 HT4
                have HS6 := Lib.hid (HS5.out.kept hb)
                have HR6 := Lib.hid (HR5.out.below hb)
                have HX6 := Lib.hid (blk_below HX5.out hb)
                have HB6 := Lib.hid (HB5.out.trans (hb.mono HB5.out.size))
                clear hb HS5 HR5 HX5 HB5
                refine hK _ _ HX6.out (fun hC => ?_)
                clear hK K9
                try simp only [Act.put, List.setIfInBounds_toArray, List.set_cons_zero, List.set_cons_succ]
                refine wpAnyL_take (i := 19) (oi := { dst := some 33, op := .pick (.tmp 27) (.tmp 32) (.const (.bool false)), type := _, pos := _, after := _, guard := none }) (v := ?_) rfl (by kernel_rfl) (by kernel_rfl) (by kernel_rfl) (fun _ _ _ h => h) (fun _ _ => Iff.rfl) hC (Or.inl ⟨by rfl, ?_⟩) HX6.out (fun hC hS => ?_)
                rotate_left
                · intro W9 hSw; skip; go_simp; try (with_reducible rfl)
                try simp only [Act.put, List.setIfInBounds_toArray, List.set_cons_zero, List.set_cons_succ]
                refine wpAnyL_take (i := 20) (oi := { dst := some 34, op := .move (.tmp 33), type := _, pos := _, after := _, guard := none }) (v := ?_) rfl (by kernel_rfl) (by kernel_rfl) (by kernel_rfl) (fun _ _ _ h => h) (fun _ _ => Iff.rfl) hC (Or.inl ⟨by rfl, ?_⟩) HX6.out (fun hC hS => ?_)
                rotate_left
                · intro W9 hSw; skip; go_simp; try (with_reducible rfl)
                try simp only [Act.put, List.setIfInBounds_toArray, List.set_cons_zero, List.set_cons_succ]
                refine wpAnyL_take (i := 21) (oi := { dst := some 35, op := .move (.tmp 5), type := _, pos := _, after := _, guard := some (20, true) }) (v := ?_) rfl (by kernel_rfl) (by kernel_rfl) (by kernel_rfl) (fun _ _ _ h => h) (fun _ _ => Iff.rfl) hC (Or.inl ⟨by rfl, ?_⟩) HX6.out (fun hC hS => ?_)
                rotate_left
                · intro W9 hSw; skip; go_simp; try (with_reducible rfl)
                try simp only [Act.put, List.setIfInBounds_toArray, List.set_cons_zero, List.set_cons_succ]
                refine wpAnyL_take (i := 22) (oi := { dst := some 36, op := .fieldAddr 29 (.tmp 3) 2, type := _, pos := _, after := _, guard := some (20, true) }) (v := ?_) rfl (by kernel_rfl) (by kernel_rfl) (by kernel_rfl) (fun _ _ _ h => h) (fun _ _ => Iff.rfl) hC (Or.inl ⟨by rfl, ?_⟩) HX6.out (fun hC hS => ?_)
                rotate_left
                · intro W9 hSw; skip; go_simp; try (with_reducible rfl)
                try simp only [Act.put, List.setIfInBounds_toArray, List.set_cons_zero, List.set_cons_succ]
                refine wpAnyL_take (i := 23) (oi := { dst := some 37, op := .load 9 (.tmp 36), type := _, pos := _, after := _, guard := some (20, true) }) (v := ?_) rfl (by kernel_rfl) (by kernel_rfl) (by kernel_rfl) (fun _ _ _ h => h) (fun _ _ => Iff.rfl) hC (Or.inl ⟨by rfl, ?_⟩) HX6.out (fun hC hS => ?_)
                rotate_left
                · intro W9 hSw; have q2 := (cell_of_row _ _ 2 _ _ _ (hSw.choose_spec.2.2)).trans rfl; go_simp; try (with_reducible rfl)
                try simp only [Act.put, List.setIfInBounds_toArray, List.set_cons_zero, List.set_cons_succ]
                refine wpAnyL_take (i := 24) (oi := { dst := some 38, op := .binOp .eql 9 (.tmp 35) (.tmp 37) 9, type := _, pos := _, after := _, guard := some (20, true) }) (v := ?_) rfl (by kernel_rfl) (by kernel_rfl) (by kernel_rfl) (fun _ _ _ h => h) (fun _ _ => Iff.rfl) hC (Or.inl ⟨by rfl, ?_⟩) HX6.out (fun hC hS => ?_)
                rotate_left
                · intro W9 hSw; skip; go_simp; try (with_reducible rfl)
                try simp only [Act.put, List.setIfInBounds_toArray, List.set_cons_zero, List.set_cons_succ]
                refine wpAnyL_take (i := 25) (oi := { dst := some 39, op := .pick (.tmp 34) (.tmp 38) (.const (.bool false)), type := _, pos := _, after := _, guard := none }) (v := ?_) rfl (by kernel_rfl) (by kernel_rfl) (by kernel_rfl) (fun _ _ _ h => h) (fun _ _ => Iff.rfl) hC (Or.inl ⟨by rfl, ?_⟩) HX6.out (fun hC hS => ?_)
                rotate_left
                · intro W9 hSw; skip; go_simp; try (with_reducible rfl)
                try simp only [Act.put, List.setIfInBounds_toArray, List.set_cons_zero, List.set_cons_succ]
                refine wpAnyL_take (i := 26) (oi := { dst := some 40, op := .move (.tmp 39), type := _, pos := _, after := _, guard := none }) (v := ?_) rfl (by kernel_rfl) (by kernel_rfl) (by kernel_rfl) (fun _ _ _ h => h) (fun _ _ => Iff.rfl) hC (Or.inl ⟨by rfl, ?_⟩) HX6.out (fun hC hS => ?_)
                rotate_left
                · intro W9 hSw; skip; go_simp; try (with_reducible rfl)
                try simp only [Act.put, List.setIfInBounds_toArray, List.set_cons_zero, List.set_cons_succ]
                refine wpAnyL_take (i := 27) (oi := { dst := some 41, op := .move (.tmp 6), type := _, pos := _, after := _, guard := some (26, true) }) (v := ?_) rfl (by kernel_rfl) (by kernel_rfl) (by kernel_rfl) (fun _ _ _ h => h) (fun _ _ => Iff.rfl) hC (Or.inl ⟨by rfl, ?_⟩) HX6.out (fun hC hS => ?_)
                rotate_left
                · intro W9 hSw; skip; go_simp; try (with_reducible rfl)
                try simp only [Act.put, List.setIfInBounds_toArray, List.set_cons_zero, List.set_cons_succ]
                refine wpAnyL_take (i := 28) (oi := { dst := some 42, op := .fieldAddr 29 (.tmp 3) 3, type := _, pos := _, after := _, guard := some (26, true) }) (v := ?_) rfl (by kernel_rfl) (by kernel_rfl) (by kernel_rfl) (fun _ _ _ h => h) (fun _ _ => Iff.rfl) hC (Or.inl ⟨by rfl, ?_⟩) HX6.out (fun hC hS => ?_)
                rotate_left
                · intro W9 hSw; skip; go_simp; try (with_reducible rfl)
                try simp only [Act.put, List.setIfInBounds_toArray, List.set_cons_zero, List.set_cons_succ]
                refine wpAnyL_take (i := 29) (oi := { dst := some 43, op := .load 9 (.tmp 42), type := _, pos := _, after := _, guard := some (26, true) }) (v := ?_) rfl (by kernel_rfl) (by kernel_rfl) (by kernel_rfl) (fun _ _ _ h => h) (fun _ _ => Iff.rfl) hC (Or.inl ⟨by rfl, ?_⟩) HX6.out (fun hC hS => ?_)
                rotate_left
                · intro W9 hSw; have q3 := (cell_of_row _ _ 3 _ _ _ (hSw.choose_spec.2.2)).trans rfl; go_simp; try (with_reducible rfl)
                try simp only [Act.put, List.setIfInBounds_toArray, List.set_cons_zero, List.set_cons_succ]
                refine wpAnyL_take (i := 30) (oi := { dst := some 44, op := .binOp .eql 9 (.tmp 41) (.tmp 43) 9, type := _, pos := _, after := _, guard := some (26, true) }) (v := ?_) rfl (by kernel_rfl) (by kernel_rfl) (by kernel_rfl) (fun _ _ _ h => h) (fun _ _ => Iff.rfl) hC (Or.inl ⟨by rfl, ?_⟩) HX6.out (fun hC hS => ?_)
                rotate_left
                · intro W9 hSw; skip; go_simp; try (with_reducible rfl)
                try simp only [Act.put, List.setIfInBounds_toArray, List.set_cons_zero, List.set_cons_succ]
                refine wpAnyL_take (i := 31) (oi := { dst := some 45, op := .pick (.tmp 40) (.tmp 44) (.const (.bool false)), type := _, pos := _, after := _, guard := none }) (v := ?_) rfl (by kernel_rfl) (by kernel_rfl) (by kernel_rfl) (fun _ _ _ h => h) (fun _ _ => Iff.rfl) hC (Or.inl ⟨by rfl, ?_⟩) HX6.out (fun hC hS => ?_)
                rotate_left
                · intro W9 hSw; skip; go_simp; try (with_reducible rfl)
                try simp only [Act.put, List.setIfInBounds_toArray, List.set_cons_zero, List.set_cons_succ]
                refine wpAnyL_take (i := 32) (oi := { dst := some 46, op := .move (.tmp 45), type := _, pos := _, after := _, guard := none }) (v := ?_) rfl (by kernel_rfl) (by kernel_rfl) (by kernel_rfl) (fun _ _ _ h => h) (fun _ _ => Iff.rfl) hC (Or.inl ⟨by rfl, ?_⟩) HX6.out (fun hC hS => ?_)
                rotate_left
                · intro W9 hSw; skip; go_simp; try (with_reducible rfl)
                try simp only [Act.put, List.setIfInBounds_toArray, List.set_cons_zero, List.set_cons_succ]
                refine wpAnyL_take (i := 33) (oi := { dst := some 47, op := .move (.tmp 7), type := _, pos := _, after := _, guard := some (32, true) }) (v := ?_) rfl (by kernel_rfl) (by kernel_rfl) (by kernel_rfl) (fun _ _ _ h => h) (fun _ _ => Iff.rfl) hC (Or.inl ⟨by rfl, ?_⟩) HX6.out (fun hC hS => ?_)
                rotate_left
                · intro W9 hSw; skip; go_simp; try (with_reducible rfl)
                try simp only [Act.put, List.setIfInBounds_toArray, List.set_cons_zero, List.set_cons_succ]
                refine wpAnyL_take (i := 34) (oi := { dst := some 48, op := .fieldAddr 29 (.tmp 3) 2, type := _, pos := _, after := _, guard := some (32, true) }) (v := ?_) rfl (by kernel_rfl) (by kernel_rfl) (by kernel_rfl) (fun _ _ _ h => h) (fun _ _ => Iff.rfl) hC (Or.inl ⟨by rfl, ?_⟩) HX6.out (fun hC hS => ?_)
                rotate_left
                · intro W9 hSw; skip; go_simp; try (with_reducible rfl)
                try simp only [Act.put, List.setIfInBounds_toArray, List.set_cons_zero, List.set_cons_succ]
                refine wpAnyL_take (i := 35) (oi := { dst := some 49, op := .load 9 (.tmp 48), type := _, pos := _, after := _, guard := some (32, true) }) (v := ?_) rfl (by kernel_rfl) (by kernel_rfl) (by kernel_rfl) (fun _ _ _ h => h) (fun _ _ => Iff.rfl) hC (Or.inl ⟨by rfl, ?_⟩) HX6.out (fun hC hS => ?_)
                rotate_left
                · intro W9 hSw; have q2 := (cell_of_row _ _ 2 _ _ _ (hSw.choose_spec.2.2)).trans rfl; go_simp; try (with_reducible rfl)
                try simp only [Act.put, List.setIfInBounds_toArray, List.set_cons_zero, List.set_cons_succ]
                refine wpAnyL_take (i := 36) (oi := { dst := some 50, op := .binOp .neq 9 (.tmp 49) (.const (.string { data := #[] })) 9, type := _, pos := _, after := _, guard := some (32, true) }) (v := ?_) rfl (by kernel_rfl) (by kernel_rfl) (by kernel_rfl) (fun _ _ _ h => h) (fun _ _ => Iff.rfl) hC (Or.inl ⟨by rfl, ?_⟩) HX6.out (fun hC hS => ?_)
                rotate_left
                · intro W9 hSw; skip; go_simp; try (with_reducible rfl)
                try simp only [Act.put, List.setIfInBounds_toArray, List.set_cons_zero, List.set_cons_succ]
                refine wpAnyL_take (i := 37) (oi := { dst := some 51, op := .binOp .eql 4 (.tmp 47) (.tmp 50) 4, type := _, pos := _, after := _, guard := some (32, true) }) (v := ?_) rfl (by kernel_rfl) (by kernel_rfl) (by kernel_rfl) (fun _ _ _ h => h) (fun _ _ => Iff.rfl) hC (Or.inl ⟨by rfl, ?_⟩) HX6.out (fun hC hS => ?_)
                rotate_left
                · intro W9 hSw; skip; go_simp; try (with_reducible rfl)
                try simp only [Act.put, List.setIfInBounds_toArray, List.set_cons_zero, List.set_cons_succ]
                refine wpAnyL_take (i := 38) (oi := { dst := some 52, op := .pick (.tmp 46) (.tmp 51) (.const (.bool false)), type := _, pos := _, after := _, guard := none }) (v := ?_) rfl (by kernel_rfl) (by kernel_rfl) (by kernel_rfl) (fun _ _ _ h => h) (fun _ _ => Iff.rfl) hC (Or.inl ⟨by rfl, ?_⟩) HX6.out (fun hC hS => ?_)
                rotate_left
                · intro W9 hSw; skip; go_simp; try (with_reducible rfl)
                try simp only [Act.put, List.setIfInBounds_toArray, List.set_cons_zero, List.set_cons_succ]
                refine wpAnyL_take (i := 39) (oi := { dst := some 4, op := .assign (.tmp 52), type := _, pos := _, after := _, guard := none }) (v := ?_) rfl (by kernel_rfl) (by kernel_rfl) (by kernel_rfl) (fun _ _ _ h => h) (fun _ _ => Iff.rfl) hC (Or.inl ⟨by rfl, ?_⟩) HX6.out (fun hC hS => ?_)
                rotate_left
                · intro W9 hSw; skip; go_simp; try (with_reducible rfl)
                try simp only [Act.put, List.setIfInBounds_toArray, List.set_cons_zero, List.set_cons_succ]
                refine wpAnyL_done (by kernel_rfl) ?_ _
                clear hS hC
                go_wp2_with fail
                go_ret
                exact ⟨rfl, HB6.out⟩
              exact AllReadyL.nil
            exact AllReadyL.nil
          exact AllReadyL.nil
        exact AllReadyL.nil
      exact AllReadyL.nil
    exact AllReadyL.nil
  · obtain ⟨y1, y2, y3, y4⟩ := sne_facts e0
    obtain ⟨r1, r2⟩ := beq_same c0
    obtain ⟨r3, r4⟩ := beq_same c1
    rw [met_ofS (b := c1) e0] at HCL
    clear e0
    go_enter Tryd.func13, Tryd.ntmps13
    go_upto_region 1 with (fail)
    rw [← HV.out]
    go_wp2_with fail
    refine HCL.out.mono ?_
    rintro e w1 ⟨rfl, hb⟩
    have HS1 := Lib.hid (HS0.out.kept hb)
    have HR1 := Lib.hid (HR0.out.below hb)
    have HX1 := Lib.hid (blk_below HX0.out hb)
    have HB1 := Lib.hid (HB0.out.trans (hb.mono HB0.out.size))
    clear hb HCL HS0 HR0 HX0 HB0
    go_upto_region 2 with (fail)
    have HX1 := Lib.hid (show w1.drew.heap[w.heap.size]? = some (.cells #[.slice ta L.length tc, .slice sa L.length sc, .string c0, .string c1] 29 (0, 0)) from HX1.out)
    have HB1 := Lib.hid HB1.out.drew
    have HS1 := Lib.hid (HS1.out.kept (Below.refl _ _).drew)
    have HR1 := Lib.hid (HR1.out.below (Below.refl _ _).drew)
    refine wp_region_L_drew (S := fun _ W => W.heap[w.heap.size]? = some (.cells #[.slice ta L.length tc, .slice sa L.length sc, .string c0, .string c1] 29 (0, 0))) (by kernel_rfl) HX1.out (fun hS hC => ?_)
    generalize w1.drew = v1 at *
    refine wpAnyL_take (i := 0) (oi := { dst := some 14, op := .move (.tmp 0), type := _, pos := _, after := _, guard := none }) (v := ?_) rfl (by kernel_rfl) (by kernel_rfl) (by kernel_rfl) (fun _ _ _ h => h) (fun _ _ => Iff.rfl) hC (Or.inl ⟨by rfl, ?_⟩) hS (fun hC hS => ?_)
    rotate_left
    · intro W9 hSw; skip; go_simp; try (with_reducible rfl)
    try simp only [Act.put, List.setIfInBounds_toArray, List.set_cons_zero, List.set_cons_succ]
    refine wpAnyL_take (i := 2) (oi := { dst := some 16, op := .fieldAddr 29 (.tmp 3) 0, type := _, pos := _, after := _, guard := none }) (v := ?_) rfl (by kernel_rfl) (by kernel_rfl) (by kernel_rfl) (fun _ _ _ h => h) (fun _ _ => Iff.rfl) hC (Or.inl ⟨by rfl, ?_⟩) hS (fun hC hS => ?_)
    rotate_left
    · intro W9 hSw; skip; go_simp; try (with_reducible rfl)
    try simp only [Act.put, List.setIfInBounds_toArray, List.set_cons_zero, List.set_cons_succ]
    refine wpAnyL_take (i := 3) (oi := { dst := some 17, op := .load 27 (.tmp 16), type := _, pos := _, after := _, guard := none }) (v := ?_) rfl (by kernel_rfl) (by kernel_rfl) (by kernel_rfl) (fun _ _ _ h => h) (fun _ _ => Iff.rfl) hC (Or.inl ⟨by rfl, ?_⟩) hS (fun hC hS => ?_)
    rotate_left
    · intro W9 hSw; have q0 := (cell_of_row _ _ 0 _ _ _ (hSw.choose_spec.2.2)).trans rfl; go_simp; try (with_reducible rfl)
    try simp only [Act.put, List.setIfInBounds_toArray, List.set_cons_zero, List.set_cons_succ]
    refine wpAnyL_ready (rs := [1]) (by kernel_rfl) (by simp) hC ?_
    refine AllReadyL.cons (o := { dst := some 15, op := .call { callee := .value (.func 18), args := #[.tmp 14, .const (.int Go.IntKind.i64 0)], argTypes := #[25, 3] }, type := _, pos := _, after := _, guard := none }) rfl (fun K9 hK => ?_) ?_
    · skip
      go_simp
      refine (stexts_any D L c0 c1 k 0 v1 HS1.out (by have := HLL.out; omega)).mono ?_
      rintro e v2 ⟨V, rfl, ho, hb⟩
      rw [tx_all] at ho
      obtain ⟨A1, C1, rfl, hrd, _, _⟩ := ho.rd stC_len
      rw [List.length_map] at hrd ⊢
      have HT1 := Lib.hid (rd_sln hrd)
      clear hrd ho
      have HS2 := Lib.hid (HS1.out.kept hb)
      have HR2 := Lib.hid (HR1.out.below hb)
      have HX2 := Lib.hid (blk_below HX1.out hb)
      have HB2 := Lib.hid (HB1.out.trans (hb.mono HB1.out.size))
      clear hb HS1 HR1 HX1 HB1
      refine hK _ _ HX2.out (fun hC => ?_)
      clear hK K9
      try simp only [Act.put, List.setIfInBounds_toArray, List.set_cons_zero, List.set_cons_succ]
      refine wpAnyL_ready (rs := [4]) (by kernel_rfl) (by simp) hC ?_
      refine AllReadyL.cons (o := { dst := some 18, op := .call { callee := .value (.func 17), args := #[.tmp 15, .tmp 17], argTypes := #[27, 27] }, type := _, pos := _, after := _, guard := none }) rfl (fun K9 hK => ?_) ?_
      · skip
        go_simp
        refine (same_texts A1 C1 ta tc L.length (L.map (·.2)) v2 HT1.out (rd_sln HR2.out.t) (by have := HLL.out; omega)).mono ?_
        rintro e v3 ⟨rfl, hb⟩
        clear HT1
        have HS3 := Lib.hid (HS2.out.kept hb)
        have HR3 := Lib.hid (HR2.out.below hb)
        have HX3 := Lib.hid (blk_below HX2.out hb)
        have HB3 := Lib.hid (HB2.out.trans (hb.mono HB2.out.size))
        clear hb HS2 HR2 HX2 HB2
        refine hK _ _ HX3.out (fun hC => ?_)
        clear hK K9
        try simp only [Act.put, List.setIfInBounds_toArray, List.set_cons_zero, List.set_cons_succ]
        refine wpAnyL_take (i := 5) (oi := { dst := some 19, op := .move (.tmp 18), type := _, pos := _, after := _, guard := none }) (v := ?_) rfl (by kernel_rfl) (by kernel_rfl) (by kernel_rfl) (fun _ _ _ h => h) (fun _ _ => Iff.rfl) hC (Or.inl ⟨by rfl, ?_⟩) HX3.out (fun hC hS => ?_)
        rotate_left
        · intro W9 hSw; skip; go_simp; try (with_reducible rfl)
        try simp only [Act.put, List.setIfInBounds_toArray, List.set_cons_zero, List.set_cons_succ]
        refine wpAnyL_take (i := 6) (oi := { dst := some 20, op := .move (.tmp 0), type := _, pos := _, after := _, guard := some (5, true) }) (v := ?_) rfl (by kernel_rfl) (by kernel_rfl) (by kernel_rfl) (fun _ _ _ h => h) (fun _ _ => Iff.rfl) hC (Or.inl ⟨by rfl, ?_⟩) HX3.out (fun hC hS => ?_)
        rotate_left
        · intro W9 hSw; skip; go_simp; try (with_reducible rfl)
        try simp only [Act.put, List.setIfInBounds_toArray, List.set_cons_zero, List.set_cons_succ]
        refine wpAnyL_take (i := 8) (oi := { dst := some 22, op := .fieldAddr 29 (.tmp 3) 0, type := _, pos := _, after := _, guard := some (5, true) }) (v := ?_) rfl (by kernel_rfl) (by kernel_rfl) (by kernel_rfl) (fun _ _ _ h => h) (fun _ _ => Iff.rfl) hC (Or.inl ⟨by rfl, ?_⟩) HX3.out (fun hC hS => ?_)
        rotate_left
        · intro W9 hSw; skip; go_simp; try (with_reducible rfl)
        try simp only [Act.put, List.setIfInBounds_toArray, List.set_cons_zero, List.set_cons_succ]
        refine wpAnyL_take (i := 9) (oi := { dst := some 23, op := .load 27 (.tmp 22), type := _, pos := _, after := _, guard := some (5, true) }) (v := ?_) rfl (by kernel_rfl) (by kernel_rfl) (by kernel_rfl) (fun _ _ _ h => h) (fun _ _ => Iff.rfl) hC (Or.inl ⟨by rfl, ?_⟩) HX3.out (fun hC hS => ?_)
        rotate_left
        · intro W9 hSw; have q0 := (cell_of_row _ _ 0 _ _ _ (hSw.choose_spec.2.2)).trans rfl; go_simp; try (with_reducible rfl)
        try simp only [Act.put, List.setIfInBounds_toArray, List.set_cons_zero, List.set_cons_succ]
        refine wpAnyL_take (i := 10) (oi := { dst := some 24, op := .call { callee := .builtin .len, args := #[.tmp 23], argTypes := #[27] }, type := _, pos := _, after := _, guard := some (5, true) }) (v := ?_) rfl (by kernel_rfl) (by kernel_rfl) (by kernel_rfl) (fun _ _ _ h => h) (fun _ _ => Iff.rfl) hC (Or.inl ⟨by rfl, ?_⟩) HX3.out (fun hC hS => ?_)
        rotate_left
        · intro W9 hSw; skip; go_simp; try (with_reducible rfl)
        try simp only [Act.put, List.setIfInBounds_toArray, List.set_cons_zero, List.set_cons_succ]
        refine wpAnyL_ready (rs := [7]) (by kernel_rfl) (by simp) hC ?_
        refine AllReadyL.cons (o := { dst := some 21, op := .call { callee := .value (.func 24), args := #[.tmp 20], argTypes := #[25] }, type := _, pos := _, after := _, guard := some (5, true) }) rfl (fun K9 hK => ?_) ?_
        · skip
          go_simp
          refine (slen_any D L c0 c1 k v3 HS3.out).mono ?_
          rintro e w' ⟨rfl, rfl⟩
          refine hK _ _ HX3.out (fun hC => ?_)
          clear hK K9
          try simp only [Act.put, List.setIfInBounds_toArray, List.set_cons_zero, List.set_cons_succ]
          refine wpAnyL_take (i := 11) (oi := { dst := some 25, op := .binOp .eql 3 (.tmp 21) (.tmp 24) 3, type := _, pos := _, after := _, guard := some (5, true) }) (v := ?_) rfl (by kernel_rfl) (by kernel_rfl) (by kernel_rfl) (fun _ _ _ h => h) (fun _ _ => Iff.rfl) hC (Or.inl ⟨by rfl, ?_⟩) HX3.out (fun hC hS => ?_)
          rotate_left
          · intro W9 hSw; skip; go_simp; try (with_reducible rfl)
          try simp only [Act.put, List.setIfInBounds_toArray, List.set_cons_zero, List.set_cons_succ]
          refine wpAnyL_take (i := 12) (oi := { dst := some 26, op := .pick (.tmp 19) (.tmp 25) (.const (.bool false)), type := _, pos := _, after := _, guard := none }) (v := ?_) rfl (by kernel_rfl) (by kernel_rfl) (by kernel_rfl) (fun _ _ _ h => h) (fun _ _ => Iff.rfl) hC (Or.inl ⟨by rfl, ?_⟩) HX3.out (fun hC hS => ?_)
          rotate_left
          · intro W9 hSw; skip; go_simp; try (with_reducible rfl)
          try simp only [Act.put, List.setIfInBounds_toArray, List.set_cons_zero, List.set_cons_succ]
          refine wpAnyL_take (i := 13) (oi := { dst := some 27, op := .move (.tmp 26), type := _, pos := _, after := _, guard := none }) (v := ?_) rfl (by kernel_rfl) (by kernel_rfl) (by kernel_rfl) (fun _ _ _ h => h) (fun _ _ => Iff.rfl) hC (Or.inl ⟨by rfl, ?_⟩) HX3.out (fun hC hS => ?_)
          rotate_left
          · intro W9 hSw; skip; go_simp; try (with_reducible rfl)
          try simp only [Act.put, List.setIfInBounds_toArray, List.set_cons_zero, List.set_cons_succ]
          refine wpAnyL_take (i := 14) (oi := { dst := some 28, op := .move (.tmp 0), type := _, pos := _, after := _, guard := some (13, true) }) (v := ?_) rfl (by kernel_rfl) (by kernel_rfl) (by kernel_rfl) (fun _ _ _ h => h) (fun _ _ => Iff.rfl) hC (Or.inl ⟨by rfl, ?_⟩) HX3.out (fun hC hS => ?_)
          rotate_left
          · intro W9 hSw; skip; go_simp; try (with_reducible rfl)
          try simp only [Act.put, List.setIfInBounds_toArray, List.set_cons_zero, List.set_cons_succ]
          refine wpAnyL_take (i := 16) (oi := { dst := some 30, op := .load 29 (.tmp 3), type := _, pos := _, after := _, guard := some (13, true) }) (v := ?_) rfl (by kernel_rfl) (by kernel_rfl) (by kernel_rfl) (fun _ _ _ h => h) (fun _ _ => Iff.rfl) hC (Or.inl ⟨by rfl, ?_⟩) HX3.out (fun hC hS => ?_)
          rotate_left
          · intro W9 hSw; have q0 := (cell_of_row _ _ 0 _ _ _ (hSw.choose_spec.2.2)).trans rfl; have q1 := (cell_of_row _ _ 1 _ _ _ (hSw.choose_spec.2.2)).trans rfl; have q2 := (cell_of_row _ _ 2 _ _ _ (hSw.choose_spec.2.2)).trans rfl; have q3 := (cell_of_row _ _ 3 _ _ _ (hSw.choose_spec.2.2)).trans rfl; go_simp; try (with_reducible rfl)
          try simp only [Act.put, List.setIfInBounds_toArray, List.set_cons_zero, List.set_cons_succ]
          refine wpAnyL_ready (rs := [15]) (by kernel_rfl) (by simp) hC ?_
          refine AllReadyL.cons (o := { dst := some 29, op := .call { callee := .value (.func 25), args := #[.tmp 28], argTypes := #[25] }, type := _, pos := _, after := _, guard := some (13, true) }) rfl (fun K9 hK => ?_) ?_
          · skip
            go_simp
            refine (snames_any D L c0 c1 k v3 HS3.out HI.out.nd (fun x hx => (HI.out.nm x hx).2) HKK.out).mono ?_
            rintro e v4 ⟨V, rfl, ho, hb⟩
            obtain ⟨A2, C2, rfl, hrd, _, _⟩ := ho.rd stC_len
            have HT2 := Lib.hid (rd_sln hrd)
            clear hrd ho
            have HS4 := Lib.hid (HS3.out.kept hb)
            have HR4 := Lib.hid (HR3.out.below hb)
            have HX4 := Lib.hid (blk_below HX3.out hb)
            have HB4 := Lib.hid (HB3.out.trans (hb.mono HB3.out.size))
            clear hb HS3 HR3 HX3 HB3
            refine hK _ _ HX4.out (fun hC => ?_)
            clear hK K9
            try simp only [Act.put, List.setIfInBounds_toArray, List.set_cons_zero, List.set_cons_succ]
            refine wpAnyL_ready (rs := [17]) (by kernel_rfl) (by simp) hC ?_
            refine AllReadyL.cons (o := { dst := some 31, op := .call { callee := .value (.func 44), args := #[.tmp 30], argTypes := #[29] }, type := _, pos := _, after := _, guard := some (13, true) }) rfl (fun K9 hK => ?_) ?_
            · skip
              go_simp
              refine (rsnames_any P L c0 c1 ta L.length tc sa L.length sc v4 HR4.out HLL.out).mono ?_
              rintro e v5 ⟨V, rfl, ⟨A3, C3, rfl, hs, _, _⟩, hb⟩
              have HS5 := Lib.hid (HS4.out.kept hb)
              have HR5 := Lib.hid (HR4.out.below hb)
              have HX5 := Lib.hid (blk_below HX4.out hb)
              have HB5 := Lib.hid (HB4.out.trans (hb.mono HB4.out.size))
              have HT3 := Lib.hid (HT2.out.later hb)
              clear hb HS4 HR4 HX4 HB4
              have HT4 := Lib.hid hs
              clear hs HT2
              refine hK _ _ HX5.out (fun hC => ?_)
              clear hK K9
              try simp only [Act.put, List.setIfInBounds_toArray, List.set_cons_zero, List.set_cons_succ]
              refine wpAnyL_ready (rs := [18]) (by kernel_rfl) (by simp) hC ?_
              refine AllReadyL.cons (o := { dst := some 32, op := .call { callee := .value (.func 17), args := #[.tmp 29, .tmp 31], argTypes := #[27, 27] }, type := _, pos := _, after := _, guard := some (13, true) }) rfl (fun K9 hK => ?_) ?_
              · skip
                go_simp
                refine (same_texts A2 C2 A3 C3 (nmsL L).length (nmsL L) v5 HT3.out HT4.out (by refine Nat.le_trans (fold_len _ _) ?_; rw [List.length_map, List.length_nil]; have := HLL.out; omega)).mono ?_
                rintro e v6 ⟨rfl, hb⟩
                clear HT3 HT4
                have HS6 := Lib.hid (HS5.out.kept hb)
                have HR6 := Lib.hid (HR5.out.below hb)
                have HX6 := Lib.hid (blk_below HX5.out hb)
                have HB6 := Lib.hid (HB5.out.trans (hb.mono HB5.out.size))
                clear hb HS5 HR5 HX5 HB5
                refine hK _ _ HX6.out (fun hC => ?_)
                clear hK K9
                try simp only [Act.put, List.setIfInBounds_toArray, List.set_cons_zero, List.set_cons_succ]
                refine wpAnyL_take (i := 19) (oi := { dst := some 33, op := .pick (.tmp 27) (.tmp 32) (.const (.bool false)), type := _, pos := _, after := _, guard := none }) (v := ?_) rfl (by kernel_rfl) (by kernel_rfl) (by kernel_rfl) (fun _ _ _ h => h) (fun _ _ => Iff.rfl) hC (Or.inl ⟨by rfl, ?_⟩) HX6.out (fun hC hS => ?_)
                rotate_left
                · intro W9 hSw; skip; go_simp; try (with_reducible rfl)
                try simp only [Act.put, List.setIfInBounds_toArray, List.set_cons_zero, List.set_cons_succ]
                refine wpAnyL_take (i := 20) (oi := { dst := some 34, op := .move (.tmp 33), type := _, pos := _, after := _, guard := none }) (v := ?_) rfl (by kernel_rfl) (by kernel_rfl) (by kernel_rfl) (fun _ _ _ h => h) (fun _ _ => Iff.rfl) hC (Or.inl ⟨by rfl, ?_⟩) HX6.out (fun hC hS => ?_)
                rotate_left
                · intro W9 hSw; skip; go_simp; try (with_reducible rfl)
                try simp only [Act.put, List.setIfInBounds_toArray, List.set_cons_zero, List.set_cons_succ]
                refine wpAnyL_take (i := 21) (oi := { dst := some 35, op := .move (.tmp 5), type := _, pos := _, after := _, guard := some (20, true) }) (v := ?_) rfl (by kernel_rfl) (by kernel_rfl) (by kernel_rfl) (fun _ _ _ h => h) (fun _ _ => Iff.rfl) hC (Or.inl ⟨by rfl, ?_⟩) HX6.out (fun hC hS => ?_)
                rotate_left
                · intro W9 hSw; skip; go_simp; try (with_reducible rfl)
                try simp only [Act.put, List.setIfInBounds_toArray, List.set_cons_zero, List.set_cons_succ]
                refine wpAnyL_take (i := 22) (oi := { dst := some 36, op := .fieldAddr 29 (.tmp 3) 2, type := _, pos := _, after := _, guard := some (20, true) }) (v := ?_) rfl (by kernel_rfl) (by kernel_rfl) (by kernel_rfl) (fun _ _ _ h => h) (fun _ _ => Iff.rfl) hC (Or.inl ⟨by rfl, ?_⟩) HX6.out (fun hC hS => ?_)
                rotate_left
                · intro W9 hSw; skip; go_simp; try (with_reducible rfl)
                try simp only [Act.put, List.setIfInBounds_toArray, List.set_cons_zero, List.set_cons_succ]
                refine wpAnyL_take (i := 23) (oi := { dst := some 37, op := .load 9 (.tmp 36), type := _, pos := _, after := _, guard := some (20, true) }) (v := ?_) rfl (by kernel_rfl) (by kernel_rfl) (by kernel_rfl) (fun _ _ _ h => h) (fun _ _ => Iff.rfl) hC (Or.inl ⟨by rfl, ?_⟩) HX6.out (fun hC hS => ?_)
                rotate_left
                · intro W9 hSw; have q2 := (cell_of_row _ _ 2 _ _ _ (hSw.choose_spec.2.2)).trans rfl; go_simp; try (with_reducible rfl)
                try simp only [Act.put, List.setIfInBounds_toArray, List.set_cons_zero, List.set_cons_succ]
                refine wpAnyL_take (i := 24) (oi := { dst := some 38, op := .binOp .eql 9 (.tmp 35) (.tmp 37) 9, type := _, pos := _, after := _, guard := some (20, true) }) (v := ?_) rfl (by kernel_rfl) (by kernel_rfl) (by kernel_rfl) (fun _ _ _ h => h) (fun _ _ => Iff.rfl) hC (Or.inl ⟨by rfl, ?_⟩) HX6.out (fun hC hS => ?_)
                rotate_left
                · intro W9 hSw; skip; go_simp; try (with_reducible rfl)
                try simp only [Act.put, List.setIfInBounds_toArray, List.set_cons_zero, List.set_cons_succ]
                refine wpAnyL_take (i := 25) (oi := { dst := some 39, op := .pick (.tmp 34) (.tmp 38) (.const (.bool false)), type := _, pos := _, after := _, guard := none }) (v := ?_) rfl (by kernel_rfl) (by kernel_rfl) (by kernel_rfl) (fun _ _ _ h => h) (fun _ _ => Iff.rfl) hC (Or.inl ⟨by rfl, ?_⟩) HX6.out (fun hC hS => ?_)
                rotate_left
                · intro W9 hSw; skip; go_simp; try (with_reducible rfl)
                try simp only [Act.put, List.setIfInBounds_toArray, List.set_cons_zero, List.set_cons_succ]
                refine wpAnyL_take (i := 26) (oi := { dst := some 40, op := .move (.tmp 39), type := _, pos := _, after := _, guard := none }) (v := ?_) rfl (by kernel_rfl) (by kernel_rfl) (by kernel_rfl) (fun _ _ _ h => h) (fun _ _ => Iff.rfl) hC (Or.inl ⟨by rfl, ?_⟩) HX6.out (fun hC hS => ?_)
                rotate_left
                · intro W9 hSw; skip; go_simp; try (with_reducible rfl)
                try simp only [Act.put, List.setIfInBounds_toArray, List.set_cons_zero, List.set_cons_succ]
                refine wpAnyL_take (i := 27) (oi := { dst := some 41, op := .move (.tmp 6), type := _, pos := _, after := _, guard := some (26, true) }) (v := ?_) rfl (by kernel_rfl) (by kernel_rfl) (by kernel_rfl) (fun _ _ _ h => h) (fun _ _ => Iff.rfl) hC (Or.inl ⟨by rfl, ?_⟩) HX6.out (fun hC hS => ?_)
                rotate_left
                · intro W9 hSw; skip; go_simp; try (with_reducible rfl)
                try simp only [Act.put, List.setIfInBounds_toArray, List.set_cons_zero, List.set_cons_succ]
                refine wpAnyL_take (i := 28) (oi := { dst := some 42, op := .fieldAddr 29 (.tmp 3) 3, type := _, pos := _, after := _, guard := some (26, true) }) (v := ?_) rfl (by kernel_rfl) (by kernel_rfl) (by kernel_rfl) (fun _ _ _ h => h) (fun _ _ => Iff.rfl) hC (Or.inl ⟨by rfl, ?_⟩) HX6.out (fun hC hS => ?_)
                rotate_left
                · intro W9 hSw; skip; go_simp; try (with_reducible rfl)
                try simp only [Act.put, List.setIfInBounds_toArray, List.set_cons_zero, List.set_cons_succ]
                refine wpAnyL_take (i := 29) (oi := { dst := some 43, op := .load 9 (.tmp 42), type := _, pos := _, after := _, guard := some (26, true) }) (v := ?_) rfl (by kernel_rfl) (by kernel_rfl) (by kernel_rfl) (fun _ _ _ h => h) (fun _ _ => Iff.rfl) hC (Or.inl ⟨by rfl, ?_⟩) HX6.out (fun hC hS => ?_)
                rotate_left
                · intro W9 hSw; have q3 := (cell_of_row _ _ 3 _ _ _ (hSw.choose_spec.2.2)).trans rfl; go_simp; try (with_reducible rfl)
                try simp only [Act.put, List.setIfInBounds_toArray, List.set_cons_zero, List.set_cons_succ]
                refine wpAnyL_take (i := 30) (oi := { dst := some 44, op := .binOp .eql 9 (.tmp 41) (.tmp 43) 9, type := _, pos := _, after := _, guard := some (26, true) }) (v := ?_) rfl (by kernel_rfl) (by kernel_rfl) (by kernel_rfl) (fun _ _ _ h => h) (fun _ _ => Iff.rfl) hC (Or.inl ⟨by rfl, ?_⟩) HX6.out (fun hC hS => ?_)
                rotate_left
                · intro W9 hSw; skip; go_simp; try (with_reducible rfl)
                try simp only [Act.put, List.setIfInBounds_toArray, List.set_cons_zero, List.set_cons_succ]
                refine wpAnyL_take (i := 31) (oi := { dst := some 45, op := .pick (.tmp 40) (.tmp 44) (.const (.bool false)), type := _, pos := _, after := _, guard := none }) (v := ?_) rfl (by kernel_rfl) (by kernel_rfl) (by kernel_rfl) (fun _ _ _ h => h) (fun _ _ => Iff.rfl) hC (Or.inl ⟨by rfl, ?_⟩) HX6.out (fun hC hS => ?_)
                rotate_left
                · intro W9 hSw; skip; go_simp; try (with_reducible rfl)
                try simp only [Act.put, List.setIfInBounds_toArray, List.set_cons_zero, List.set_cons_succ]
                refine wpAnyL_take (i := 32) (oi := { dst := some 46, op := .move (.tmp 45), type := _, pos := _, after := _, guard := none }) (v := ?_) rfl (by kernel_rfl) (by kernel_rfl) (by kernel_rfl) (fun _ _ _ h => h) (fun _ _ => Iff.rfl) hC (Or.inl ⟨by rfl, ?_⟩) HX6.out (fun hC hS => ?_)
                rotate_left
                · intro W9 hSw; skip; go_simp; try (with_reducible rfl)
                try simp only [Act.put, List.setIfInBounds_toArray, List.set_cons_zero, List.set_cons_succ]
                refine wpAnyL_take (i := 33) (oi := { dst := some 47, op := .move (.tmp 7), type := _, pos := _, after := _, guard := some (32, true) }) (v := ?_) rfl (by kernel_rfl) (by kernel_rfl) (by kernel_rfl) (fun _ _ _ h => h) (fun _ _ => Iff.rfl) hC (Or.inl ⟨by rfl, ?_⟩) HX6.out (fun hC hS => ?_)
                rotate_left
                · intro W9 hSw; skip; go_simp; try (with_reducible rfl)
                try simp only [Act.put, List.setIfInBounds_toArray, List.set_cons_zero, List.set_cons_succ]
                refine wpAnyL_take (i := 34) (oi := { dst := some 48, op := .fieldAddr 29 (.tmp 3) 2, type := _, pos := _, after := _, guard := some (32, true) }) (v := ?_) rfl (by kernel_rfl) (by kernel_rfl) (by kernel_rfl) (fun _ _ _ h => h) (fun _ _ => Iff.rfl) hC (Or.inl ⟨by rfl, ?_⟩) HX6.out (fun hC hS => ?_)
                rotate_left
                · intro W9 hSw; skip; go_simp; try (with_reducible rfl)
                try simp only [Act.put, List.setIfInBounds_toArray, List.set_cons_zero, List.set_cons_succ]
                refine wpAnyL_take (i := 35) (oi := { dst := some 49, op := .load 9 (.tmp 48), type := _, pos := _, after := _, guard := some (32, true) }) (v := ?_) rfl (by kernel_rfl) (by kernel_rfl) (by kernel_rfl) (fun _ _ _ h => h) (fun _ _ => Iff.rfl) hC (Or.inl ⟨by rfl, ?_⟩) HX6.out (fun hC hS => ?_)
                rotate_left
                · intro W9 hSw; have q2 := (cell_of_row _ _ 2 _ _ _ (hSw.choose_spec.2.2)).trans rfl; go_simp; try (with_reducible rfl)
                try simp only [Act.put, List.setIfInBounds_toArray, List.set_cons_zero, List.set_cons_succ]
                refine wpAnyL_take (i := 36) (oi := { dst := some 50, op := .binOp .neq 9 (.tmp 49) (.const (.string { data := #[] })) 9, type := _, pos := _, after := _, guard := some (32, true) }) (v := ?_) rfl (by kernel_rfl) (by kernel_rfl) (by kernel_rfl) (fun _ _ _ h => h) (fun _ _ => Iff.rfl) hC (Or.inl ⟨by rfl, ?_⟩) HX6.out (fun hC hS => ?_)
                rotate_left
                · intro W9 hSw; skip; go_simp; try (with_reducible rfl)
                try simp only [Act.put, List.setIfInBounds_toArray, List.set_cons_zero, List.set_cons_succ]
                refine wpAnyL_take (i := 37) (oi := { dst := some 51, op := .binOp .eql 4 (.tmp 47) (.tmp 50) 4, type := _, pos := _, after := _, guard := some (32, true) }) (v := ?_) rfl (by kernel_rfl) (by kernel_rfl) (by kernel_rfl) (fun _ _ _ h => h) (fun _ _ => Iff.rfl) hC (Or.inl ⟨by rfl, ?_⟩) HX6.out (fun hC hS => ?_)
                rotate_left
                · intro W9 hSw; skip; go_simp; try (with_reducible rfl)
                try simp only [Act.put, List.setIfInBounds_toArray, List.set_cons_zero, List.set_cons_succ]
                refine wpAnyL_take (i := 38) (oi := { dst := some 52, op := .pick (.tmp 46) (.tmp 51) (.const (.bool false)), type := _, pos := _, after := _, guard := none }) (v := ?_) rfl (by kernel_rfl) (by kernel_rfl) (by kernel_rfl) (fun _ _ _ h => h) (fun _ _ => Iff.rfl) hC (Or.inl ⟨by rfl, ?_⟩) HX6.out (fun hC hS => ?_)
                rotate_left
                · intro W9 hSw; skip; go_simp; try (with_reducible rfl)
                try simp only [Act.put, List.setIfInBounds_toArray, List.set_cons_zero, List.set_cons_succ]
                refine wpAnyL_take (i := 39) (oi := { dst := some 4, op := .assign (.tmp 52), type := _, pos := _, after := _, guard := none }) (v := ?_) rfl (by kernel_rfl) (by kernel_rfl) (by kernel_rfl) (fun _ _ _ h => h) (fun _ _ => Iff.rfl) hC (Or.inl ⟨by rfl, ?_⟩) HX6.out (fun hC hS => ?_)
                rotate_left
                · intro W9 hSw; skip; go_simp; try (with_reducible rfl)
                try simp only [Act.put, List.setIfInBounds_toArray, List.set_cons_zero, List.set_cons_succ]
                refine wpAnyL_done (by kernel_rfl) ?_ _
                clear hS hC
                go_wp2_with fail
                go_ret
                exact ⟨rfl, HB6.out⟩
              exact AllReadyL.nil
            exact AllReadyL.nil
          exact AllReadyL.nil
        exact AllReadyL.nil
      exact AllReadyL.nil
    exact AllReadyL.nil
end Go.Proofs.YtpjpegmjcgkonaaDoor

namespace Go.Proofs.YtpjpegmjcgkonaaDoor
open Go.RowKit Vi

theorem InS.eq {D : Nat} {w w' : World} (h : w'.heap[D]? = w.heap[D]?) {b : Nat} (q : InS D w' b) : InS D w b := by
  rcases q with q | ⟨o, n, c, q⟩ | q
  · exact .inl q
  · exact .inr (.inl ⟨o, n, c, by rw [← World.cell?_of_block (a := ⟨D, 0, none⟩) h]; exact q⟩)
  · exact .inr (.inr (by rw [← World.cell?_of_block (a := ⟨D, 1, none⟩) h]; exact q))
theorem SK.oth {D : Nat} {L : List Ob} {c0 c1 : ByteArray} {k : Nat} {w w' : World} (h : SK D L c0 c1 k w) (hb : ∀ b, InS D w b → w'.heap[b]? = w.heap[b]?) : SK D L c0 c1 k w' := by
  obtain ⟨oa, on, oc, B, h1, h2, h3⟩ := h
  refine ⟨oa, on, oc, B, (hb D (.inl rfl)).trans h1, h2.blk (fun g e _ => hb g ?_), h3.kept (hb B (InS.map h1))⟩
  rcases h2.form with ⟨q, _⟩ | ⟨g2, c2, q⟩
  · rw [q] at e; simp [Value.ownBlock] at e
  · injection q with q1 _ _
    subst q1
    simp [Value.ownBlock] at e
    subst e
    exact InS.row h1
theorem SW.oth {n : Nat} {w0 : World} {D : Nat} {L : List Ob} {c0 c1 : ByteArray} {k g : Nat} {w w' : World} (h : SW n w0 D L c0 c1 k w) (q : KK [g] w w') (hg : ¬ InS D w g) (hn : n ≤ g) : SW n w0 D L c0 c1 k w' := by
  have hs : ∀ b, InS D w b → w'.heap[b]? = w.heap[b]? := fun b hb => q.block b (h.sk.new hb) (fun e => by
    obtain rfl : b = g := by simpa using e
    exact hg hb)
  exact ⟨h.sk.oth hs, fun b z => h.far b (InS.eq (hs D (.inl rfl)) z), q.below h.bel (fun b hb => by obtain rfl : b = g := (by simpa using hb); exact hn) h.sz, Nat.le_trans h.sz q.size⟩
/-- an act's boxes beside a shelf: the document's shelf, the act, the result's place -/
structure Bq (n : Nat) (w0 w : World) (D : Nat) (L : List Ob) (c0 c1 : ByteArray) (k : Nat) (rb ab zb : Array Value) (W : World) : Prop where
  sw : SW n w0 D L c0 c1 k W
  b0 : W.heap[w.heap.size]? = some (.cells rb 29 (0, 0))
  b1 : W.heap[w.heap.size + 1]? = some (.cells ab 31 (0, 0))
  b2 : W.heap[w.heap.size + 2]? = some (.cells zb 29 (0, 0))
  nw : ∀ b, w.heap.size ≤ b → b < w.heap.size + 3 → ¬ InS D W b
  ks : Ks D w W
  dl : D < w.heap.size
/-- behind an act only the shelf's own old blocks have turned, and the shelf that is left has no other old ones -/
structure Fr (D D' : Nat) (w w' : World) : Prop where
  size : w.heap.size ≤ w'.heap.size
  block : ∀ b, b < w.heap.size → ¬ InS D w b → w'.heap[b]? = w.heap[b]?
  ind : ∀ b, b < w.heap.size → InS D' w' b → InS D w b
theorem Ks.fr {D : Nat} {w w' : World} (h : Ks D w w') : Fr D D w w' := ⟨h.size, h.block, h.ind⟩
theorem Ks.setNew {D g : Nat} {w W W' : World} (h : Ks D w W) (q : KK [g] W W') (hg : w.heap.size ≤ g) (hD : D < w.heap.size) : Ks D w W' := by
  have hDW : W'.heap[D]? = W.heap[D]? := q.block D (Nat.lt_of_lt_of_le hD h.size) (fun e => by
    obtain rfl : D = g := by simpa using e
    omega)
  exact ⟨q.os.trans h.os, q.tape.trans h.tape, q.output.trans h.output, Nat.le_trans h.size q.size, fun b hb hn => (q.block b (Nat.lt_of_lt_of_le hb h.size) (fun e => by
    obtain rfl : b = g := by simpa using e
    omega)).trans (h.block b hb hn), fun b hb z => h.ind b hb (InS.eq hDW z)⟩
section
variable {n : Nat} {w0 w : World} {D : Nat} {L L' : List Ob} {c0 c1 c0' c1' : ByteArray} {k k' : Nat} {rb ab zb : Array Value} {W W' : World}
theorem Bq.lt (h : Bq n w0 w D L c0 c1 k rb ab zb W) : w.heap.size + 2 < W.heap.size := lt_of_block h.b2
theorem Bq.kept (h : Bq n w0 w D L c0 c1 k rb ab zb W) (hb : Below W.heap.size W W') : Bq n w0 w D L c0 c1 k rb ab zb W' :=
  ⟨h.sw.below hb, blk_below h.b0 hb, blk_below h.b1 hb, blk_below h.b2 hb, fun b h1 h2 q => h.nw b h1 h2 (q.back hb h.sw.sk.lt), h.ks.trans (Ks.of_below hb h.sw.sk.lt), h.dl⟩
theorem Bq.drew (h : Bq n w0 w D L c0 c1 k rb ab zb W) : Bq n w0 w D L c0 c1 k rb ab zb W.drew := h.kept (Below.refl _ _).drew
theorem Bq.prog (h : Bq n w0 w D L c0 c1 k rb ab zb W) (q : Ks D W W') (h' : SW n w0 D L' c0' c1' k' W') : Bq n w0 w D L' c0' c1' k' rb ab zb W' := by
  have hl := h.lt
  exact ⟨h', (q.block _ (by omega) (h.nw _ (Nat.le_refl _) (by omega))).trans h.b0, (q.block _ (by omega) (h.nw _ (by omega) (by omega))).trans h.b1, (q.block _ (by omega) (h.nw _ (by omega) (by omega))).trans h.b2, fun b h1 h2 z => h.nw b h1 h2 (q.ind b (by omega) z), h.ks.trans q, h.dl⟩
end
/-- the rows of the document's shelf lie apart from a shelf's own blocks, and in such as G says -/
def ShD (D : Nat) (G : Nat → Prop) (L : List Ob) (ta : Option Addr) (tn tc : Nat) (sa : Option Addr) (sn sc : Nat) (W : World) : Prop := ShR (fun b => ¬ InS D W b ∧ G b) L ta tn tc sa sn sc W
section
variable {P P' G : Nat → Prop} {D g : Nat} {L : List Ob} {ta : Option Addr} {tn tc : Nat} {sa : Option Addr} {sn sc : Nat} {w w' : World}
theorem ShR.imp (h : ShR P L ta tn tc sa sn sc w) (hP : ∀ b, b < w.heap.size → P b → P' b) : ShR P' L ta tn tc sa sn sc w :=
  ⟨h.t, h.s, h.tl, h.tm, h.sl, h.sm, fun b o e hp => by
    obtain ⟨b2, o2, e2, hb2, _⟩ := h.t.2 hp
    rw [e] at e2
    injection e2 with e2
    injection e2 with e2 _ _
    subst e2
    exact hP b hb2 (h.pt b o e hp), fun b o e hp => by
    obtain ⟨b2, o2, e2, hb2, _⟩ := h.s.2 hp
    rw [e] at e2
    injection e2 with e2
    injection e2 with e2 _ _
    subst e2
    exact hP b hb2 (h.ps b o e hp)⟩
theorem ShR.blocks (h : ShR P L ta tn tc sa sn sc w) (hb : ∀ b, b < w.heap.size → P b → w'.heap[b]? = w.heap[b]?) (hs : w.heap.size ≤ w'.heap.size) : ShR P L ta tn tc sa sn sc w' := by
  have h2 := h.imp (P' := fun b => P b ∧ b < w.heap.size) (fun b h1 h2 => ⟨h2, h1⟩)
  exact ⟨h.t.blocks (fun b o e hp => hb b (h2.pt b o e hp).2 (h2.pt b o e hp).1) hs, h.s.blocks (fun b o e hp => hb b (h2.ps b o e hp).2 (h2.ps b o e hp).1) hs, h.tl, h.tm, h.sl, h.sm, h.pt, h.ps⟩
theorem ShD.kept (h : ShD D G L ta tn tc sa sn sc w) (hb : Below w.heap.size w w') (hD : D < w.heap.size) : ShD D G L ta tn tc sa sn sc w' :=
  (ShR.below h hb).imp fun _ _ q => ⟨fun z => q.1 (z.back hb hD), q.2⟩
theorem ShD.prog (h : ShD D G L ta tn tc sa sn sc w) (q : Ks D w w') : ShD D G L ta tn tc sa sn sc w' := by
  have h2 := ShR.imp (P' := fun b => (¬ InS D w b ∧ G b) ∧ b < w.heap.size) h (fun b h1 h2 => ⟨h2, h1⟩)
  exact (ShR.blocks h2 (fun b h1 h2 => q.block b h1 h2.1.1) q.size).imp fun b _ z => ⟨fun y => z.1.1 (q.ind b z.2 y), z.1.2⟩
theorem ShD.put (h : ShD D G L ta tn tc sa sn sc w) (q : KK [g] w w') (hG : ∀ b, G b → b ≠ g) (hD : w'.heap[D]? = w.heap[D]?) : ShD D G L ta tn tc sa sn sc w' :=
  (ShR.blocks h (fun b h1 h2 => q.block b h1 (by simpa using hG b h2.2)) q.size).imp fun _ _ z => ⟨fun y => z.1 (InS.eq hD y), z.2⟩
/-- rows that a call of the document's hands back -/
theorem ShR.toD {w1 : World} (h : ShR (fun b => ¬ InS D w b ∧ G b) L ta tn tc sa sn sc w1) (hb : Below w.heap.size w w1) (hD : D < w.heap.size) : ShD D G L ta tn tc sa sn sc w1 :=
  h.imp fun _ _ q => ⟨fun z => q.1 (z.back hb hD), q.2⟩
end
theorem results_tct {fn : Func} {p t u : Tmp} {ty : TypeId} (h : fn.results = #[.tmp t, .cell p ty, .tmp u]) (tmps : Array Value) (w : World) (g : Nat) (cs : Array Value)
    (hp : tmps.getD p undef = .pointer (some ⟨g, 0, none⟩)) (hr : (loadVar ty ⟨g, 0, none⟩).run Tryd.prog w = .ok (.agg cs) w) :
    (results fn tmps).run Tryd.prog w = .ok (.tuple #[tmps.getD t undef, .agg cs, tmps.getD u undef]) w := by
  have hp' : tmps[p]?.getD undef = .pointer (some ⟨g, 0, none⟩) := by simpa using hp
  simp [results, h, hp', asAddr, hr]
/-- four cells of a box are stored -/
def set4 (W : World) (g : Nat) (a b c d : Value) : World := (((W.setCell ⟨g, 0, none⟩ a).setCell ⟨g, 1, none⟩ b).setCell ⟨g, 2, none⟩ c).setCell ⟨g, 3, none⟩ d
theorem set4_kk (W : World) (g : Nat) (a b c d : Value) : KK [g] W (set4 W g a b c d) := ((((KK.refl [g] W).set (b := g) (by simp) 0 a).set (b := g) (by simp) 1 b).set (b := g) (by simp) 2 c).set (b := g) (by simp) 3 d
theorem set4_box {W : World} {g : Nat} {a0 b0 c0 d0 : Value} {T : TypeId} (h : W.heap[g]? = some (.cells #[a0, b0, c0, d0] T (0, 0))) (a b c d : Value) : (set4 W g a b c d).heap[g]? = some (.cells #[a, b, c, d] T (0, 0)) := by
  have q := heap_setCell_at (i := 3) (u := d) (heap_setCell_at (i := 2) (u := c) (heap_setCell_at (i := 1) (u := b) (heap_setCell_at (i := 0) (u := a) h)))
  exact q
theorem Bq.stored {n : Nat} {w0 w : World} {D : Nat} {L : List Ob} {c0 c1 : ByteArray} {k : Nat} {rb ab : Array Value} {a0 b0 d0 e0 : Value} {W : World} (h : Bq n w0 w D L c0 c1 k rb ab #[a0, b0, d0, e0] W) (hn : n ≤ w.heap.size) (a b c d : Value) :
    Bq n w0 w D L c0 c1 k rb ab #[a, b, c, d] (set4 W (w.heap.size + 2) a b c d) := by
  have q := set4_kk W (w.heap.size + 2) a b c d
  have hs : ∀ x, InS D W x → (set4 W (w.heap.size + 2) a b c d).heap[x]? = W.heap[x]? := fun x hb => q.block x (h.sw.sk.new hb) (fun e => by
    obtain rfl : x = w.heap.size + 2 := by simpa using e
    exact h.nw _ (by omega) (by omega) hb)
  exact ⟨h.sw.oth q (h.nw _ (by omega) (by omega)) (by omega), q.blk h.b0 (by simp), q.blk h.b1 (by simp), set4_box h.b2 a b c d, fun x h1 h2 z => h.nw x h1 h2 (InS.eq (hs D (.inl rfl)) z), h.ks.setNew q (by omega) h.dl, h.dl⟩
theorem Bq.boxD {n : Nat} {w0 w : World} {D : Nat} {L : List Ob} {c0 c1 : ByteArray} {k : Nat} {rb ab zb : Array Value} {W : World} (h : Bq n w0 w D L c0 c1 k rb ab zb W) (a b c d : Value) : (set4 W (w.heap.size + 2) a b c d).heap[D]? = W.heap[D]? :=
  (set4_kk W (w.heap.size + 2) a b c d).block D h.sw.sk.lt (fun e => by
    obtain rfl : D = w.heap.size + 2 := by simpa using e
    exact h.nw _ (by omega) (by omega) (.inl rfl))
/-- what an act answers, and leaves -/
def RetDoes (n : Nat) (w0 : World) (Q : Nat → Prop) (D0 : Nat) (L : List Ob) (c0 c1 : ByteArray) (k : Nat) (w : World) (e : Ending) (w' : World) : Prop :=
  ∃ D ta tn tc sa sn sc, e = .returned (.tuple #[.pointer (some ⟨D, 0, none⟩), rsv ta tn tc sa sn sc c0 c1, .bool true]) ∧ SW n w0 D L c0 c1 k w' ∧ ShR (fun b => ¬ InS D w' b ∧ Q b) L ta tn tc sa sn sc w' ∧ Fr D0 D w w'
abbrev actv (kd nn : Int) (t : ByteArray) : Value := .agg #[.int .i64 kd, .int .i64 nn, .string t]
set_option linter.unusedSimpArgs false in
set_option maxRecDepth 100000 in
set_option maxHeartbeats 8000000 in
theorem does_put (n : Nat) (w0 : World) (Q : Nat → Prop) (D : Nat) (L : List Ob) (c0 c1 : ByteArray) (k : Nat) (kd nn : Int) (t : ByteArray) (ta : Option Addr) (tn tc : Nat) (sa : Option Addr) (sn sc : Nat) (w : World) (h : SW n w0 D L c0 c1 k w) (hr : ShR (fun b => ¬ InS D w b ∧ Q b) L ta tn tc sa sn sc w) (hQ : ∀ b, w.heap.size ≤ b → Q b) (hi : Inv L c0 c1) (hl : L.length ≤ 40000) (hk : k < 900000) (hT : HTab w0) (hn : w0.heap.size ≤ n) (hkd : kd = 1) :
    Calls Tryd.prog 12 #[.pointer (some ⟨D, 0, none⟩), rsv ta tn tc sa sn sc c0 c1, actv kd nn t] w (RetDoes n w0 Q D (putL L t) (putA L c0 c1 t) (putB L c0 c1 t) (k + 1) w) := by
  obtain rfl := hr.tn_eq
  obtain rfl := hr.sn_eq
  subst hkd
  have HLL := Lib.hid hl
  have HKL := Lib.hid hk
  have HTT := Lib.hid hT
  have HNN := Lib.hid hn
  have HI := Lib.hid hi
  have HSN := Lib.hid h.sz
  obtain ⟨v, hv⟩ : ∃ v, v = (((w.alloc (.cells #[.slice ta L.length tc, .slice sa L.length sc, .string c0, .string c1] 29 (0, 0))).alloc (.cells #[.int .i64 1, .int .i64 nn, .string t] 31 (0, 0))).alloc (.cells #[.slice none 0 0, .slice none 0 0, .string ⟨#[]⟩, .string ⟨#[]⟩] 29 (0, 0))) := ⟨_, rfl⟩
  have HV := Lib.hid hv
  have HB0 := Lib.hid (show Below w.heap.size w v by rw [hv]; exact (((Below.refl w.heap.size w).alloc (Nat.le_refl _) (.cells #[.slice ta L.length tc, .slice sa L.length sc, .string c0, .string c1] 29 (0, 0))).alloc (by simp) (.cells #[.int .i64 1, .int .i64 nn, .string t] 31 (0, 0))).alloc (by simp; omega) (.cells #[.slice none 0 0, .slice none 0 0, .string ⟨#[]⟩, .string ⟨#[]⟩] 29 (0, 0)))
  have HQ0 := Lib.hid (show Bq n w0 w D L c0 c1 k #[.slice ta L.length tc, .slice sa L.length sc, .string c0, .string c1] #[.int .i64 1, .int .i64 nn, .string t] #[.slice none 0 0, .slice none 0 0, .string ⟨#[]⟩, .string ⟨#[]⟩] v from ⟨h.below HB0.out,
    by rw [hv]; exact blk_alloc (blk_alloc (blk_new w (.cells #[.slice ta L.length tc, .slice sa L.length sc, .string c0, .string c1] 29 (0, 0))) (.cells #[.int .i64 1, .int .i64 nn, .string t] 31 (0, 0))) (.cells #[.slice none 0 0, .slice none 0 0, .string ⟨#[]⟩, .string ⟨#[]⟩] 29 (0, 0)),
    by rw [hv]; exact blk_alloc (show (((w.alloc (.cells #[.slice ta L.length tc, .slice sa L.length sc, .string c0, .string c1] 29 (0, 0)))).alloc (.cells #[.int .i64 1, .int .i64 nn, .string t] 31 (0, 0))).heap[w.heap.size + 1]? = some (.cells #[.int .i64 1, .int .i64 nn, .string t] 31 (0, 0)) from blk_newN (W := w.alloc (.cells #[.slice ta L.length tc, .slice sa L.length sc, .string c0, .string c1] 29 (0, 0))) (o := (.cells #[.int .i64 1, .int .i64 nn, .string t] 31 (0, 0))) (by simp)) (.cells #[.slice none 0 0, .slice none 0 0, .string ⟨#[]⟩, .string ⟨#[]⟩] 29 (0, 0)),
    by rw [hv]; exact (show ((((w.alloc (.cells #[.slice ta L.length tc, .slice sa L.length sc, .string c0, .string c1] 29 (0, 0)))).alloc (.cells #[.int .i64 1, .int .i64 nn, .string t] 31 (0, 0))).alloc (.cells #[.slice none 0 0, .slice none 0 0, .string ⟨#[]⟩, .string ⟨#[]⟩] 29 (0, 0))).heap[w.heap.size + 2]? = some (.cells #[.slice none 0 0, .slice none 0 0, .string ⟨#[]⟩, .string ⟨#[]⟩] 29 (0, 0)) from blk_newN (W := (w.alloc (.cells #[.slice ta L.length tc, .slice sa L.length sc, .string c0, .string c1] 29 (0, 0))).alloc (.cells #[.int .i64 1, .int .i64 nn, .string t] 31 (0, 0))) (o := (.cells #[.slice none 0 0, .slice none 0 0, .string ⟨#[]⟩, .string ⟨#[]⟩] 29 (0, 0))) (by simp)),
    fun b h1 _ q => absurd (h.sk.new (q.back HB0.out h.sk.lt)) (by omega), Ks.of_below HB0.out h.sk.lt, h.sk.lt⟩)
  have HQQ := Lib.hid hQ
  have HR0 := Lib.hid (show ShD D (fun b => b ≠ w.heap.size + 2 ∧ Q b) L ta L.length tc sa L.length sc v from ShD.kept (ShR.imp hr (fun b h1 h2 => ⟨h2.1, by omega, h2.2⟩)) HB0.out h.sk.lt)
  clear hv h hr hi hl hk hT hn hQ
  obtain ⟨N, hN⟩ : ∃ N, N = putN L t := ⟨_, rfl⟩
  obtain ⟨E, hE⟩ : ∃ E, E = putE L t := ⟨_, rfl⟩
  obtain ⟨L', hL'⟩ : ∃ L', L' = putL L t := ⟨_, rfl⟩
  obtain ⟨d0, hd0⟩ : ∃ d0, d0 = putA L c0 c1 t := ⟨_, rfl⟩
  obtain ⟨d1, hd1⟩ : ∃ d1, d1 = putB L c0 c1 t := ⟨_, rfl⟩
  have HRP := Lib.hid (fun (W : World) (hh : ShD D (fun b => b ≠ w.heap.size + 2 ∧ Q b) L ta L.length tc sa L.length sc W) (hD : D < W.heap.size) (hz : w.heap.size + 2 < W.heap.size) (hs : ∀ b, InS D W b → b < W.heap.size) => rsput_any (fun b => ¬ InS D W b ∧ b ≠ w.heap.size + 2 ∧ Q b) L c0 c1 t ta L.length tc sa L.length sc W hh HI.out.li HI.out.ci (by have := HLL.out; omega) (fun b hb => ⟨fun q => absurd (hs b q) (by omega), by omega, HQQ.out b (by omega)⟩))
  have HPP := Lib.hid (fun (W : World) (hh : SW n w0 D L c0 c1 k W) => sputT_any n w0 D L c0 c1 k t W hh HTT.out HNN.out (by have := HKL.out; omega) (by have := HLL.out; omega))
  rw [← hN, ← hE, ← hL', ← hd0, ← hd1] at HRP
  unfold RetPut at HPP
  rw [← hN, ← hE, ← hL', ← hd0, ← hd1] at HPP
  rw [← hL', ← hd0, ← hd1]
  clear hN hE hL' hd0 hd1
  obtain ⟨rs1, rs2⟩ := beq_same N
  go_enter Tryd.func12, Tryd.ntmps12
  go_upto_region 1 with (fail)
  rw [← HV.out]
  have a0 : v.cell? ⟨w.heap.size + 1, 0, none⟩ = some (.int .i64 1) := (cell_of_row _ _ 0 _ _ _ HQ0.out.b1).trans rfl
  have b0 : v.cell? ⟨w.heap.size, 0, none⟩ = some (.slice ta L.length tc) := (cell_of_row _ _ 0 _ _ _ HQ0.out.b0).trans rfl
  have b1 : v.cell? ⟨w.heap.size, 1, none⟩ = some (.slice sa L.length sc) := (cell_of_row _ _ 1 _ _ _ HQ0.out.b0).trans rfl
  have b2 : v.cell? ⟨w.heap.size, 2, none⟩ = some (.string c0) := (cell_of_row _ _ 2 _ _ _ HQ0.out.b0).trans rfl
  have b3 : v.cell? ⟨w.heap.size, 3, none⟩ = some (.string c1) := (cell_of_row _ _ 3 _ _ _ HQ0.out.b0).trans rfl
  have a2 : v.cell? ⟨w.heap.size + 1, 2, none⟩ = some (.string t) := (cell_of_row _ _ 2 _ _ _ HQ0.out.b1).trans rfl
  go_wp2_with fail
  refine (HRP.out v HR0.out HQ0.out.sw.sk.lt HQ0.out.lt (fun b q => HQ0.out.sw.sk.new q)).mono ?_
  rintro e w1 ⟨r1, r2, r3, r4, r5, r6, rfl, hh, hb⟩
  have HR1 := Lib.hid (ShR.toD hh hb HQ0.out.sw.sk.lt)
  have HQ1 := Lib.hid (HQ0.out.kept hb)
  clear hh hb HR0 HQ0 HRP a0 a2 b0 b1 b2 b3
  have HBa := Lib.hid ((Below.refl w1.heap.size w1).alloc (Nat.le_refl _) (.cells #[.slice none 0 0, .slice none 0 0, .string ⟨#[]⟩, .string ⟨#[]⟩] 29 (0, 0)))
  have HNa := Lib.hid (blk_new w1 (.cells #[.slice none 0 0, .slice none 0 0, .string ⟨#[]⟩, .string ⟨#[]⟩] 29 (0, 0)))
  go_wp2_with (refine wpList_store_rowY rfl 29 (.tmp 9) (.tmp 26) rfl w1.heap.size #[.slice r1 r2 r3, .slice r4 r5 r6, .string d0, .string d1] rfl rfl 29 _ HNa.out (info_rs) rfl (by simp [Value.oneCell']) w1.heap.size w1 HBa.out (Nat.le_refl _) ?_)
  intro w2 hbk hoth hbel _
  have HX2 := Lib.hid hbk.out
  have HR2 := Lib.hid (HR1.out.kept hbel.out HQ1.out.sw.sk.lt)
  have HQ2 := Lib.hid (HQ1.out.kept hbel.out)
  have HXN := Lib.hid (show ¬ InS D w2 w1.heap.size from fun q => absurd (HQ1.out.sw.sk.new (q.back hbel.out HQ1.out.sw.sk.lt)) (Nat.lt_irrefl _))
  have HXG := Lib.hid (show w1.heap.size ≠ w.heap.size + 2 from by have := HQ1.out.lt; omega)
  clear hbk hoth hbel HBa HNa HR1 HQ1
  generalize w1.heap.size = y at *
  have a2 : w2.cell? ⟨w.heap.size + 1, 2, none⟩ = some (.string t) := (cell_of_row _ _ 2 _ _ _ HQ2.out.b1).trans rfl
  go_wp2_with fail
  refine (HPP.out w2 HQ2.out.sw).mono ?_
  rintro e w3 ⟨rfl, hs, hk⟩
  have HX3 := Lib.hid ((hk.block _ (lt_of_block HX2.out) HXN.out).trans HX2.out)
  have HR3 := Lib.hid (HR2.out.prog hk)
  have HQ3 := Lib.hid (HQ2.out.prog hk hs)
  clear hs hk a2 HX2 HR2 HQ2 HPP
  go_upto_region 5 with (fail)
  have HX3 := Lib.hid (show w3.drew.heap[y]? = some (.cells #[.slice r1 r2 r3, .slice r4 r5 r6, .string d0, .string d1] 29 (0, 0)) from HX3.out)
  have HR3 := Lib.hid (HR3.out.kept (Below.refl _ _).drew HQ3.out.sw.sk.lt)
  have HQ3 := Lib.hid HQ3.out.drew
  refine wp_region_L_drew (S := fun _ W => W.heap[y]? = some (.cells #[.slice r1 r2 r3, .slice r4 r5 r6, .string d0, .string d1] 29 (0, 0))) (by kernel_rfl) HX3.out (fun hS hC => ?_)
  generalize w3.drew = v4 at *
  refine wpAnyL_take (i := 0) (oi := { dst := some 36, op := .move (.tmp 0), type := _, pos := _, after := _, guard := none }) (v := ?_) rfl (by kernel_rfl) (by kernel_rfl) (by kernel_rfl) (fun _ _ _ h => h) (fun _ _ => Iff.rfl) hC (Or.inl ⟨by rfl, ?_⟩) hS (fun hC hS => ?_)
  rotate_left
  · intro W9 hSw; skip; go_simp; try (with_reducible rfl)
  try simp only [Act.put, List.setIfInBounds_toArray, List.set_cons_zero, List.set_cons_succ]
  refine wpAnyL_take (i := 1) (oi := { dst := some 37, op := .load 29 (.tmp 9), type := _, pos := _, after := _, guard := none }) (v := ?_) rfl (by kernel_rfl) (by kernel_rfl) (by kernel_rfl) (fun _ _ _ h => h) (fun _ _ => Iff.rfl) hC (Or.inl ⟨by rfl, ?_⟩) hS (fun hC hS => ?_)
  rotate_left
  · intro W9 hSw; have q0 := (cell_of_row _ _ 0 _ _ _ (hSw.choose_spec.2.2)).trans rfl; have q1 := (cell_of_row _ _ 1 _ _ _ (hSw.choose_spec.2.2)).trans rfl; have q2 := (cell_of_row _ _ 2 _ _ _ (hSw.choose_spec.2.2)).trans rfl; have q3 := (cell_of_row _ _ 3 _ _ _ (hSw.choose_spec.2.2)).trans rfl; go_simp; try (with_reducible rfl)
  try simp only [Act.put, List.setIfInBounds_toArray, List.set_cons_zero, List.set_cons_succ]
  refine wpAnyL_take (i := 2) (oi := { dst := some 38, op := .move (.tmp 12), type := _, pos := _, after := _, guard := none }) (v := ?_) rfl (by kernel_rfl) (by kernel_rfl) (by kernel_rfl) (fun _ _ _ h => h) (fun _ _ => Iff.rfl) hC (Or.inl ⟨by rfl, ?_⟩) hS (fun hC hS => ?_)
  rotate_left
  · intro W9 hSw; skip; go_simp; try (with_reducible rfl)
  try simp only [Act.put, List.setIfInBounds_toArray, List.set_cons_zero, List.set_cons_succ]
  refine wpAnyL_take (i := 3) (oi := { dst := some 39, op := .move (.tmp 10), type := _, pos := _, after := _, guard := none }) (v := ?_) rfl (by kernel_rfl) (by kernel_rfl) (by kernel_rfl) (fun _ _ _ h => h) (fun _ _ => Iff.rfl) hC (Or.inl ⟨by rfl, ?_⟩) hS (fun hC hS => ?_)
  rotate_left
  · intro W9 hSw; skip; go_simp; try (with_reducible rfl)
  try simp only [Act.put, List.setIfInBounds_toArray, List.set_cons_zero, List.set_cons_succ]
  refine wpAnyL_take (i := 4) (oi := { dst := some 40, op := .binOp .eql 9 (.tmp 38) (.tmp 39) 9, type := _, pos := _, after := _, guard := none }) (v := ?_) rfl (by kernel_rfl) (by kernel_rfl) (by kernel_rfl) (fun _ _ _ h => h) (fun _ _ => Iff.rfl) hC (Or.inl ⟨by rfl, ?_⟩) hS (fun hC hS => ?_)
  rotate_left
  · intro W9 hSw; skip; go_simp; try (with_reducible rfl)
  try simp only [Act.put, List.setIfInBounds_toArray, List.set_cons_zero, List.set_cons_succ]
  refine wpAnyL_take (i := 5) (oi := { dst := some 41, op := .move (.tmp 40), type := _, pos := _, after := _, guard := none }) (v := ?_) rfl (by kernel_rfl) (by kernel_rfl) (by kernel_rfl) (fun _ _ _ h => h) (fun _ _ => Iff.rfl) hC (Or.inl ⟨by rfl, ?_⟩) hS (fun hC hS => ?_)
  rotate_left
  · intro W9 hSw; skip; go_simp; try (with_reducible rfl)
  try simp only [Act.put, List.setIfInBounds_toArray, List.set_cons_zero, List.set_cons_succ]
  refine wpAnyL_take (i := 6) (oi := { dst := some 42, op := .move (.tmp 13), type := _, pos := _, after := _, guard := some (5, true) }) (v := ?_) rfl (by kernel_rfl) (by kernel_rfl) (by kernel_rfl) (fun _ _ _ h => h) (fun _ _ => Iff.rfl) hC (Or.inl ⟨by rfl, ?_⟩) hS (fun hC hS => ?_)
  rotate_left
  · intro W9 hSw; skip; go_simp; try (with_reducible rfl)
  try simp only [Act.put, List.setIfInBounds_toArray, List.set_cons_zero, List.set_cons_succ]
  refine wpAnyL_take (i := 7) (oi := { dst := some 43, op := .move (.tmp 11), type := _, pos := _, after := _, guard := some (5, true) }) (v := ?_) rfl (by kernel_rfl) (by kernel_rfl) (by kernel_rfl) (fun _ _ _ h => h) (fun _ _ => Iff.rfl) hC (Or.inl ⟨by rfl, ?_⟩) hS (fun hC hS => ?_)
  rotate_left
  · intro W9 hSw; skip; go_simp; try (with_reducible rfl)
  try simp only [Act.put, List.setIfInBounds_toArray, List.set_cons_zero, List.set_cons_succ]
  refine wpAnyL_take (i := 8) (oi := { dst := some 44, op := .binOp .eql 3 (.tmp 42) (.tmp 43) 3, type := _, pos := _, after := _, guard := some (5, true) }) (v := ?_) rfl (by kernel_rfl) (by kernel_rfl) (by kernel_rfl) (fun _ _ _ h => h) (fun _ _ => Iff.rfl) hC (Or.inl ⟨by rfl, ?_⟩) hS (fun hC hS => ?_)
  rotate_left
  · intro W9 hSw; skip; go_simp; try (with_reducible rfl)
  try simp only [Act.put, List.setIfInBounds_toArray, List.set_cons_zero, List.set_cons_succ]
  refine wpAnyL_take (i := 9) (oi := { dst := some 45, op := .pick (.tmp 41) (.tmp 44) (.const (.bool false)), type := _, pos := _, after := _, guard := none }) (v := ?_) rfl (by kernel_rfl) (by kernel_rfl) (by kernel_rfl) (fun _ _ _ h => h) (fun _ _ => Iff.rfl) hC (Or.inl ⟨by rfl, ?_⟩) hS (fun hC hS => ?_)
  rotate_left
  · intro W9 hSw; skip; go_simp; try (with_reducible rfl)
  try simp only [Act.put, List.setIfInBounds_toArray, List.set_cons_zero, List.set_cons_succ]
  refine wpAnyL_take (i := 10) (oi := { dst := some 6, op := .assign (.tmp 36), type := _, pos := _, after := _, guard := none }) (v := ?_) rfl (by kernel_rfl) (by kernel_rfl) (by kernel_rfl) (fun _ _ _ h => h) (fun _ _ => Iff.rfl) hC (Or.inl ⟨by rfl, ?_⟩) hS (fun hC hS => ?_)
  rotate_left
  · intro W9 hSw; skip; go_simp; try (with_reducible rfl)
  try simp only [Act.put, List.setIfInBounds_toArray, List.set_cons_zero, List.set_cons_succ]
  refine wpAnyL_ready (rs := [11]) (by kernel_rfl) (by simp) hC ?_
  refine AllReadyL.cons (o := { dst := none, op := .store 29 (.tmp 7) (.tmp 37), type := _, pos := _, after := _, guard := none }) rfl (fun K9 hK => ?_) ?_
  · skip
    have y0 : (v4).cell? ⟨w.heap.size + 2, 0, none⟩ = some (.slice none 0 0) := (cell_of_row _ _ 0 _ _ _ HQ3.out.b2).trans rfl
    have y1 : (v4).cell? ⟨w.heap.size + 2, 1, none⟩ = some (.slice none 0 0) := (cell_of_row _ _ 1 _ _ _ HQ3.out.b2).trans rfl
    have y2 : (v4).cell? ⟨w.heap.size + 2, 2, none⟩ = some (.string ⟨#[]⟩) := (cell_of_row _ _ 2 _ _ _ HQ3.out.b2).trans rfl
    have y3 : (v4).cell? ⟨w.heap.size + 2, 3, none⟩ = some (.string ⟨#[]⟩) := (cell_of_row _ _ 3 _ _ _ HQ3.out.b2).trans rfl
    have f0 : (v4).frozen? ⟨w.heap.size + 2, 0, none⟩ = false := frozen_of_row _ _ _ _ _ HQ3.out.b2
    have f1 : (v4).frozen? ⟨w.heap.size + 2, 1, none⟩ = false := frozen_of_row _ _ _ _ _ HQ3.out.b2
    have f2 : (v4).frozen? ⟨w.heap.size + 2, 2, none⟩ = false := frozen_of_row _ _ _ _ _ HQ3.out.b2
    have f3 : (v4).frozen? ⟨w.heap.size + 2, 3, none⟩ = false := frozen_of_row _ _ _ _ _ HQ3.out.b2
    go_simp
    have HQ5 := Lib.hid (HQ3.out.stored HSN.out (.slice r1 r2 r3) (.slice r4 r5 r6) (.string d0) (.string d1))
    have HR5 := Lib.hid (HR3.out.put (set4_kk _ _ _ _ _ _) (fun b z => z.1) (HQ3.out.boxD (.slice r1 r2 r3) (.slice r4 r5 r6) (.string d0) (.string d1)))
    clear y0 y1 y2 y3 f0 f1 f2 f3 HQ3 HR3
    have HGW := set4 (v4) (w.heap.size + 2) (.slice r1 r2 r3) (.slice r4 r5 r6) (.string d0) (.string d1)
    clear HGW
    have HX5 := Lib.hid ((set4_kk v4 (w.heap.size + 2) (.slice r1 r2 r3) (.slice r4 r5 r6) (.string d0) (.string d1)).blk HX3.out (by simpa using HXG.out))
    refine hK _ _ HX5.out (fun hC => ?_)
    clear hK K9
    try simp only [Act.put, List.setIfInBounds_toArray, List.set_cons_zero, List.set_cons_succ]
    refine wpAnyL_take (i := 12) (oi := { dst := some 8, op := .assign (.tmp 45), type := _, pos := _, after := _, guard := none }) (v := ?_) rfl (by kernel_rfl) (by kernel_rfl) (by kernel_rfl) (fun _ _ _ h => h) (fun _ _ => Iff.rfl) hC (Or.inl ⟨by rfl, ?_⟩) HX5.out (fun hC hS => ?_)
    rotate_left
    · intro W9 hSw; skip; go_simp; try (with_reducible rfl)
    try simp only [Act.put, List.setIfInBounds_toArray, List.set_cons_zero, List.set_cons_succ]
    refine wpAnyL_done (by kernel_rfl) ?_ _
    clear hS hC
    go_wp2_with fail
    refine bodyPost_ret (results_tct rfl _ _ (w.heap.size + 2) #[.slice r1 r2 r3, .slice r4 r5 r6, .string d0, .string d1] rfl (run_loadVar_row _ (w.heap.size + 2) 29 29 _ (0, 0) _ HQ5.out.b2 Tryd.underlying29 rfl (by kernel_rfl))) rfl ?_
    exact ⟨D, r1, r2, r3, r4, r5, r6, rfl, HQ5.out.sw, ShR.imp HR5.out (fun b _ z => ⟨z.1, z.2.2⟩), HQ5.out.ks.fr⟩
  exact AllReadyL.nil
set_option linter.unusedSimpArgs false in
set_option maxRecDepth 100000 in
set_option maxHeartbeats 8000000 in
theorem does_bad (n : Nat) (w0 : World) (Q : Nat → Prop) (D : Nat) (L : List Ob) (c0 c1 : ByteArray) (k : Nat) (kd nn : Int) (t : ByteArray) (ta : Option Addr) (tn tc : Nat) (sa : Option Addr) (sn sc : Nat) (w : World) (h : SW n w0 D L c0 c1 k w) (hr : ShR (fun b => ¬ InS D w b ∧ Q b) L ta tn tc sa sn sc w) (hQ : ∀ b, w.heap.size ≤ b → Q b) (hi : Inv L c0 c1) (hl : L.length ≤ 40000) (hk : k < 900000) (hT : HTab w0) (hn : w0.heap.size ≤ n) (hkd : kd = 2) (hnn : nn < 0 ∨ (L.length : Int) < nn) :
    Calls Tryd.prog 12 #[.pointer (some ⟨D, 0, none⟩), rsv ta tn tc sa sn sc c0 c1, actv kd nn t] w (RetDoes n w0 Q D (cutL L nn) c0 c1 k w) := by
  obtain rfl := hr.tn_eq
  obtain rfl := hr.sn_eq
  subst hkd
  have HLL := Lib.hid hl
  have HKL := Lib.hid hk
  have HTT := Lib.hid hT
  have HNN := Lib.hid hn
  have HI := Lib.hid hi
  have HSN := Lib.hid h.sz
  obtain ⟨v, hv⟩ : ∃ v, v = (((w.alloc (.cells #[.slice ta L.length tc, .slice sa L.length sc, .string c0, .string c1] 29 (0, 0))).alloc (.cells #[.int .i64 2, .int .i64 nn, .string t] 31 (0, 0))).alloc (.cells #[.slice none 0 0, .slice none 0 0, .string ⟨#[]⟩, .string ⟨#[]⟩] 29 (0, 0))) := ⟨_, rfl⟩
  have HV := Lib.hid hv
  have HB0 := Lib.hid (show Below w.heap.size w v by rw [hv]; exact (((Below.refl w.heap.size w).alloc (Nat.le_refl _) (.cells #[.slice ta L.length tc, .slice sa L.length sc, .string c0, .string c1] 29 (0, 0))).alloc (by simp) (.cells #[.int .i64 2, .int .i64 nn, .string t] 31 (0, 0))).alloc (by simp; omega) (.cells #[.slice none 0 0, .slice none 0 0, .string ⟨#[]⟩, .string ⟨#[]⟩] 29 (0, 0)))
  have HQ0 := Lib.hid (show Bq n w0 w D L c0 c1 k #[.slice ta L.length tc, .slice sa L.length sc, .string c0, .string c1] #[.int .i64 2, .int .i64 nn, .string t] #[.slice none 0 0, .slice none 0 0, .string ⟨#[]⟩, .string ⟨#[]⟩] v from ⟨h.below HB0.out,
    by rw [hv]; exact blk_alloc (blk_alloc (blk_new w (.cells #[.slice ta L.length tc, .slice sa L.length sc, .string c0, .string c1] 29 (0, 0))) (.cells #[.int .i64 2, .int .i64 nn, .string t] 31 (0, 0))) (.cells #[.slice none 0 0, .slice none 0 0, .string ⟨#[]⟩, .string ⟨#[]⟩] 29 (0, 0)),
    by rw [hv]; exact blk_alloc (show (((w.alloc (.cells #[.slice ta L.length tc, .slice sa L.length sc, .string c0, .string c1] 29 (0, 0)))).alloc (.cells #[.int .i64 2, .int .i64 nn, .string t] 31 (0, 0))).heap[w.heap.size + 1]? = some (.cells #[.int .i64 2, .int .i64 nn, .string t] 31 (0, 0)) from blk_newN (W := w.alloc (.cells #[.slice ta L.length tc, .slice sa L.length sc, .string c0, .string c1] 29 (0, 0))) (o := (.cells #[.int .i64 2, .int .i64 nn, .string t] 31 (0, 0))) (by simp)) (.cells #[.slice none 0 0, .slice none 0 0, .string ⟨#[]⟩, .string ⟨#[]⟩] 29 (0, 0)),
    by rw [hv]; exact (show ((((w.alloc (.cells #[.slice ta L.length tc, .slice sa L.length sc, .string c0, .string c1] 29 (0, 0)))).alloc (.cells #[.int .i64 2, .int .i64 nn, .string t] 31 (0, 0))).alloc (.cells #[.slice none 0 0, .slice none 0 0, .string ⟨#[]⟩, .string ⟨#[]⟩] 29 (0, 0))).heap[w.heap.size + 2]? = some (.cells #[.slice none 0 0, .slice none 0 0, .string ⟨#[]⟩, .string ⟨#[]⟩] 29 (0, 0)) from blk_newN (W := (w.alloc (.cells #[.slice ta L.length tc, .slice sa L.length sc, .string c0, .string c1] 29 (0, 0))).alloc (.cells #[.int .i64 2, .int .i64 nn, .string t] 31 (0, 0))) (o := (.cells #[.slice none 0 0, .slice none 0 0, .string ⟨#[]⟩, .string ⟨#[]⟩] 29 (0, 0))) (by simp)),
    fun b h1 _ q => absurd (h.sk.new (q.back HB0.out h.sk.lt)) (by omega), Ks.of_below HB0.out h.sk.lt, h.sk.lt⟩)
  have HQQ := Lib.hid hQ
  have HR0 := Lib.hid (show ShD D (fun b => b ≠ w.heap.size + 2 ∧ Q b) L ta L.length tc sa L.length sc v from ShD.kept (ShR.imp hr (fun b h1 h2 => ⟨h2.1, by omega, h2.2⟩)) HB0.out h.sk.lt)
  clear hv h hr hi hl hk hT hn hQ
  have HCC := Lib.hid (fun (W : World) (hh : SW n w0 D L c0 c1 k W) => scut_any D L c0 c1 k nn W hh.sk HI.out.nd (fun x hx => (HI.out.nm x hx).2) (by have := HLL.out; omega))
  unfold RetCut at HCC
  have HE := Lib.hid (show cutE L nn = 2 ∧ cutL L nn = L by unfold cutE cutL; rw [if_neg (by omega), if_neg (by omega)]; exact ⟨rfl, rfl⟩)
  rw [HE.out.1, HE.out.2] at HCC
  rw [HE.out.2]
  have HGO : Hid (nn < 0 ∨ ¬ nn < 0 ∧ (L.length : Int) < nn) := Lib.hid (by omega)
  clear hnn HE
  go_enter Tryd.func12, Tryd.ntmps12
  go_upto_region 1 with (fail)
  rw [← HV.out]
  have a0 : v.cell? ⟨w.heap.size + 1, 0, none⟩ = some (.int .i64 2) := (cell_of_row _ _ 0 _ _ _ HQ0.out.b1).trans rfl
  have b0 : v.cell? ⟨w.heap.size, 0, none⟩ = some (.slice ta L.length tc) := (cell_of_row _ _ 0 _ _ _ HQ0.out.b0).trans rfl
  have b1 : v.cell? ⟨w.heap.size, 1, none⟩ = some (.slice sa L.length sc) := (cell_of_row _ _ 1 _ _ _ HQ0.out.b0).trans rfl
  have b2 : v.cell? ⟨w.heap.size, 2, none⟩ = some (.string c0) := (cell_of_row _ _ 2 _ _ _ HQ0.out.b0).trans rfl
  have b3 : v.cell? ⟨w.heap.size, 3, none⟩ = some (.string c1) := (cell_of_row _ _ 3 _ _ _ HQ0.out.b0).trans rfl
  have a1 : v.cell? ⟨w.heap.size + 1, 1, none⟩ = some (.int .i64 nn) := (cell_of_row _ _ 1 _ _ _ HQ0.out.b1).trans rfl
  rcases HGO.out with h1 | ⟨h1, h2⟩
  · have t1 : decide (nn < 0) = true := decide_eq_true h1
    go_upto_region 8 with (fail)
    clear a0 a1 b0 b1 b2 b3
    have HR1 := Lib.hid (HR0.out.kept (Below.refl _ _).drew HQ0.out.sw.sk.lt)
    have HQ1 := Lib.hid HQ0.out.drew
    refine wp_region_L_drew (S := fun _ W => W.heap[w.heap.size]? = some (.cells #[.slice ta L.length tc, .slice sa L.length sc, .string c0, .string c1] 29 (0, 0)) ∧ W.heap[w.heap.size + 1]? = some (.cells #[.int .i64 2, .int .i64 nn, .string t] 31 (0, 0))) (by kernel_rfl) ⟨HQ1.out.b0, HQ1.out.b1⟩ (fun hS hC => ?_)
    generalize v.drew = v1 at *
    refine wpAnyL_take (i := 0) (oi := { dst := some 59, op := .move (.tmp 0), type := _, pos := _, after := _, guard := none }) (v := ?_) rfl (by kernel_rfl) (by kernel_rfl) (by kernel_rfl) (fun _ _ _ h => h) (fun _ _ => Iff.rfl) hC (Or.inl ⟨by rfl, ?_⟩) hS (fun hC hS => ?_)
    rotate_left
    · intro W9 hSw; skip; go_simp; try (with_reducible rfl)
    try simp only [Act.put, List.setIfInBounds_toArray, List.set_cons_zero, List.set_cons_succ]
    refine wpAnyL_take (i := 1) (oi := { dst := some 60, op := .load 29 (.tmp 4), type := _, pos := _, after := _, guard := none }) (v := ?_) rfl (by kernel_rfl) (by kernel_rfl) (by kernel_rfl) (fun _ _ _ h => h) (fun _ _ => Iff.rfl) hC (Or.inl ⟨by rfl, ?_⟩) hS (fun hC hS => ?_)
    rotate_left
    · intro W9 hSw; have q0 := (cell_of_row _ _ 0 _ _ _ (hSw.choose_spec.2.2.1)).trans rfl; have q1 := (cell_of_row _ _ 1 _ _ _ (hSw.choose_spec.2.2.1)).trans rfl; have q2 := (cell_of_row _ _ 2 _ _ _ (hSw.choose_spec.2.2.1)).trans rfl; have q3 := (cell_of_row _ _ 3 _ _ _ (hSw.choose_spec.2.2.1)).trans rfl; go_simp; try (with_reducible rfl)
    try simp only [Act.put, List.setIfInBounds_toArray, List.set_cons_zero, List.set_cons_succ]
    refine wpAnyL_take (i := 2) (oi := { dst := some 61, op := .move (.tmp 0), type := _, pos := _, after := _, guard := none }) (v := ?_) rfl (by kernel_rfl) (by kernel_rfl) (by kernel_rfl) (fun _ _ _ h => h) (fun _ _ => Iff.rfl) hC (Or.inl ⟨by rfl, ?_⟩) hS (fun hC hS => ?_)
    rotate_left
    · intro W9 hSw; skip; go_simp; try (with_reducible rfl)
    try simp only [Act.put, List.setIfInBounds_toArray, List.set_cons_zero, List.set_cons_succ]
    refine wpAnyL_take (i := 3) (oi := { dst := some 62, op := .fieldAddr 31 (.tmp 5) 1, type := _, pos := _, after := _, guard := none }) (v := ?_) rfl (by kernel_rfl) (by kernel_rfl) (by kernel_rfl) (fun _ _ _ h => h) (fun _ _ => Iff.rfl) hC (Or.inl ⟨by rfl, ?_⟩) hS (fun hC hS => ?_)
    rotate_left
    · intro W9 hSw; skip; go_simp; try (with_reducible rfl)
    try simp only [Act.put, List.setIfInBounds_toArray, List.set_cons_zero, List.set_cons_succ]
    refine wpAnyL_take (i := 4) (oi := { dst := some 63, op := .load 3 (.tmp 62), type := _, pos := _, after := _, guard := none }) (v := ?_) rfl (by kernel_rfl) (by kernel_rfl) (by kernel_rfl) (fun _ _ _ h => h) (fun _ _ => Iff.rfl) hC (Or.inl ⟨by rfl, ?_⟩) hS (fun hC hS => ?_)
    rotate_left
    · intro W9 hSw; have q1 := (cell_of_row _ _ 1 _ _ _ (hSw.choose_spec.2.2.2)).trans rfl; go_simp; try (with_reducible rfl)
    try simp only [Act.put, List.setIfInBounds_toArray, List.set_cons_zero, List.set_cons_succ]
    refine wpAnyL_ready (rs := [5]) (by kernel_rfl) (by simp) hC ?_
    refine AllReadyL.cons (o := { dst := some 64, op := .call { callee := .value (.func 26), args := #[.tmp 61, .tmp 63], argTypes := #[25, 3] }, type := _, pos := _, after := _, guard := none }) rfl (fun K9 hK => ?_) ?_
    · skip
      go_simp
      refine (HCC.out v1 HQ1.out.sw).mono ?_
      rintro e v2 ⟨rfl, hs, hk⟩
      have HR2 := Lib.hid (HR1.out.prog hk)
      have HQ2 := Lib.hid (HQ1.out.prog hk (HQ1.out.sw.ks hk hs))
      clear hs hk
      refine hK _ _ ⟨HQ2.out.b0, HQ2.out.b1⟩ (fun hC => ?_)
      clear hK K9
      try simp only [Act.put, List.setIfInBounds_toArray, List.set_cons_zero, List.set_cons_succ]
      refine wpAnyL_take (i := 6) (oi := { dst := some 65, op := .binOp .eql 43 (.tmp 64) (.const (.int Go.IntKind.i64 2)) 43, type := _, pos := _, after := _, guard := none }) (v := ?_) rfl (by kernel_rfl) (by kernel_rfl) (by kernel_rfl) (fun _ _ _ h => h) (fun _ _ => Iff.rfl) hC (Or.inl ⟨by rfl, ?_⟩) ⟨HQ2.out.b0, HQ2.out.b1⟩ (fun hC hS => ?_)
      rotate_left
      · intro W9 hSw; skip; go_simp; try (with_reducible rfl)
      try simp only [Act.put, List.setIfInBounds_toArray, List.set_cons_zero, List.set_cons_succ]
      refine wpAnyL_take (i := 7) (oi := { dst := some 6, op := .assign (.tmp 59), type := _, pos := _, after := _, guard := none }) (v := ?_) rfl (by kernel_rfl) (by kernel_rfl) (by kernel_rfl) (fun _ _ _ h => h) (fun _ _ => Iff.rfl) hC (Or.inl ⟨by rfl, ?_⟩) ⟨HQ2.out.b0, HQ2.out.b1⟩ (fun hC hS => ?_)
      rotate_left
      · intro W9 hSw; skip; go_simp; try (with_reducible rfl)
      try simp only [Act.put, List.setIfInBounds_toArray, List.set_cons_zero, List.set_cons_succ]
      refine wpAnyL_ready (rs := [8]) (by kernel_rfl) (by simp) hC ?_
      refine AllReadyL.cons (o := { dst := none, op := .store 29 (.tmp 7) (.tmp 60), type := _, pos := _, after := _, guard := none }) rfl (fun K9 hK => ?_) ?_
      · skip
        have y0 : (v2).cell? ⟨w.heap.size + 2, 0, none⟩ = some (.slice none 0 0) := (cell_of_row _ _ 0 _ _ _ HQ2.out.b2).trans rfl
        have y1 : (v2).cell? ⟨w.heap.size + 2, 1, none⟩ = some (.slice none 0 0) := (cell_of_row _ _ 1 _ _ _ HQ2.out.b2).trans rfl
        have y2 : (v2).cell? ⟨w.heap.size + 2, 2, none⟩ = some (.string ⟨#[]⟩) := (cell_of_row _ _ 2 _ _ _ HQ2.out.b2).trans rfl
        have y3 : (v2).cell? ⟨w.heap.size + 2, 3, none⟩ = some (.string ⟨#[]⟩) := (cell_of_row _ _ 3 _ _ _ HQ2.out.b2).trans rfl
        have f0 : (v2).frozen? ⟨w.heap.size + 2, 0, none⟩ = false := frozen_of_row _ _ _ _ _ HQ2.out.b2
        have f1 : (v2).frozen? ⟨w.heap.size + 2, 1, none⟩ = false := frozen_of_row _ _ _ _ _ HQ2.out.b2
        have f2 : (v2).frozen? ⟨w.heap.size + 2, 2, none⟩ = false := frozen_of_row _ _ _ _ _ HQ2.out.b2
        have f3 : (v2).frozen? ⟨w.heap.size + 2, 3, none⟩ = false := frozen_of_row _ _ _ _ _ HQ2.out.b2
        go_simp
        have HQ3 := Lib.hid (HQ2.out.stored HSN.out (.slice ta L.length tc) (.slice sa L.length sc) (.string c0) (.string c1))
        have HR3 := Lib.hid (HR2.out.put (set4_kk _ _ _ _ _ _) (fun b z => z.1) (HQ2.out.boxD (.slice ta L.length tc) (.slice sa L.length sc) (.string c0) (.string c1)))
        clear y0 y1 y2 y3 f0 f1 f2 f3 HQ2 HR2
        have HGW := set4 (v2) (w.heap.size + 2) (.slice ta L.length tc) (.slice sa L.length sc) (.string c0) (.string c1)
        clear HGW
        refine hK _ _ ⟨HQ3.out.b0, HQ3.out.b1⟩ (fun hC => ?_)
        clear hK K9
        try simp only [Act.put, List.setIfInBounds_toArray, List.set_cons_zero, List.set_cons_succ]
        refine wpAnyL_take (i := 9) (oi := { dst := some 8, op := .assign (.tmp 65), type := _, pos := _, after := _, guard := none }) (v := ?_) rfl (by kernel_rfl) (by kernel_rfl) (by kernel_rfl) (fun _ _ _ h => h) (fun _ _ => Iff.rfl) hC (Or.inl ⟨by rfl, ?_⟩) ⟨HQ3.out.b0, HQ3.out.b1⟩ (fun hC hS => ?_)
        rotate_left
        · intro W9 hSw; skip; go_simp; try (with_reducible rfl)
        try simp only [Act.put, List.setIfInBounds_toArray, List.set_cons_zero, List.set_cons_succ]
        refine wpAnyL_done (by kernel_rfl) ?_ _
        clear hS hC
        go_wp2_with fail
        refine bodyPost_ret (results_tct rfl _ _ (w.heap.size + 2) #[.slice ta L.length tc, .slice sa L.length sc, .string c0, .string c1] rfl (run_loadVar_row _ (w.heap.size + 2) 29 29 _ (0, 0) _ HQ3.out.b2 Tryd.underlying29 rfl (by kernel_rfl))) rfl ?_
        exact ⟨D, ta, L.length, tc, sa, L.length, sc, rfl, HQ3.out.sw, ShR.imp HR3.out (fun b _ z => ⟨z.1, z.2.2⟩), HQ3.out.ks.fr⟩
      exact AllReadyL.nil
    exact AllReadyL.nil
  · have t1 : decide (nn < 0) = false := decide_eq_false h1
    have t2 : decide (nn > (L.length : Int)) = true := decide_eq_true h2
    have t3 : decide ((L.length : Int) < nn) = true := decide_eq_true h2
    go_upto_region 8 with (fail)
    clear a0 a1 b0 b1 b2 b3
    have HR1 := Lib.hid (HR0.out.kept (Below.refl _ _).drew HQ0.out.sw.sk.lt)
    have HQ1 := Lib.hid HQ0.out.drew
    refine wp_region_L_drew (S := fun _ W => W.heap[w.heap.size]? = some (.cells #[.slice ta L.length tc, .slice sa L.length sc, .string c0, .string c1] 29 (0, 0)) ∧ W.heap[w.heap.size + 1]? = some (.cells #[.int .i64 2, .int .i64 nn, .string t] 31 (0, 0))) (by kernel_rfl) ⟨HQ1.out.b0, HQ1.out.b1⟩ (fun hS hC => ?_)
    generalize v.drew = v1 at *
    refine wpAnyL_take (i := 0) (oi := { dst := some 59, op := .move (.tmp 0), type := _, pos := _, after := _, guard := none }) (v := ?_) rfl (by kernel_rfl) (by kernel_rfl) (by kernel_rfl) (fun _ _ _ h => h) (fun _ _ => Iff.rfl) hC (Or.inl ⟨by rfl, ?_⟩) hS (fun hC hS => ?_)
    rotate_left
    · intro W9 hSw; skip; go_simp; try (with_reducible rfl)
    try simp only [Act.put, List.setIfInBounds_toArray, List.set_cons_zero, List.set_cons_succ]
    refine wpAnyL_take (i := 1) (oi := { dst := some 60, op := .load 29 (.tmp 4), type := _, pos := _, after := _, guard := none }) (v := ?_) rfl (by kernel_rfl) (by kernel_rfl) (by kernel_rfl) (fun _ _ _ h => h) (fun _ _ => Iff.rfl) hC (Or.inl ⟨by rfl, ?_⟩) hS (fun hC hS => ?_)
    rotate_left
    · intro W9 hSw; have q0 := (cell_of_row _ _ 0 _ _ _ (hSw.choose_spec.2.2.1)).trans rfl; have q1 := (cell_of_row _ _ 1 _ _ _ (hSw.choose_spec.2.2.1)).trans rfl; have q2 := (cell_of_row _ _ 2 _ _ _ (hSw.choose_spec.2.2.1)).trans rfl; have q3 := (cell_of_row _ _ 3 _ _ _ (hSw.choose_spec.2.2.1)).trans rfl; go_simp; try (with_reducible rfl)
    try simp only [Act.put, List.setIfInBounds_toArray, List.set_cons_zero, List.set_cons_succ]
    refine wpAnyL_take (i := 2) (oi := { dst := some 61, op := .move (.tmp 0), type := _, pos := _, after := _, guard := none }) (v := ?_) rfl (by kernel_rfl) (by kernel_rfl) (by kernel_rfl) (fun _ _ _ h => h) (fun _ _ => Iff.rfl) hC (Or.inl ⟨by rfl, ?_⟩) hS (fun hC hS => ?_)
    rotate_left
    · intro W9 hSw; skip; go_simp; try (with_reducible rfl)
    try simp only [Act.put, List.setIfInBounds_toArray, List.set_cons_zero, List.set_cons_succ]
    refine wpAnyL_take (i := 3) (oi := { dst := some 62, op := .fieldAddr 31 (.tmp 5) 1, type := _, pos := _, after := _, guard := none }) (v := ?_) rfl (by kernel_rfl) (by kernel_rfl) (by kernel_rfl) (fun _ _ _ h => h) (fun _ _ => Iff.rfl) hC (Or.inl ⟨by rfl, ?_⟩) hS (fun hC hS => ?_)
    rotate_left
    · intro W9 hSw; skip; go_simp; try (with_reducible rfl)
    try simp only [Act.put, List.setIfInBounds_toArray, List.set_cons_zero, List.set_cons_succ]
    refine wpAnyL_take (i := 4) (oi := { dst := some 63, op := .load 3 (.tmp 62), type := _, pos := _, after := _, guard := none }) (v := ?_) rfl (by kernel_rfl) (by kernel_rfl) (by kernel_rfl) (fun _ _ _ h => h) (fun _ _ => Iff.rfl) hC (Or.inl ⟨by rfl, ?_⟩) hS (fun hC hS => ?_)
    rotate_left
    · intro W9 hSw; have q1 := (cell_of_row _ _ 1 _ _ _ (hSw.choose_spec.2.2.2)).trans rfl; go_simp; try (with_reducible rfl)
    try simp only [Act.put, List.setIfInBounds_toArray, List.set_cons_zero, List.set_cons_succ]
    refine wpAnyL_ready (rs := [5]) (by kernel_rfl) (by simp) hC ?_
    refine AllReadyL.cons (o := { dst := some 64, op := .call { callee := .value (.func 26), args := #[.tmp 61, .tmp 63], argTypes := #[25, 3] }, type := _, pos := _, after := _, guard := none }) rfl (fun K9 hK => ?_) ?_
    · skip
      go_simp
      refine (HCC.out v1 HQ1.out.sw).mono ?_
      rintro e v2 ⟨rfl, hs, hk⟩
      have HR2 := Lib.hid (HR1.out.prog hk)
      have HQ2 := Lib.hid (HQ1.out.prog hk (HQ1.out.sw.ks hk hs))
      clear hs hk
      refine hK _ _ ⟨HQ2.out.b0, HQ2.out.b1⟩ (fun hC => ?_)
      clear hK K9
      try simp only [Act.put, List.setIfInBounds_toArray, List.set_cons_zero, List.set_cons_succ]
      refine wpAnyL_take (i := 6) (oi := { dst := some 65, op := .binOp .eql 43 (.tmp 64) (.const (.int Go.IntKind.i64 2)) 43, type := _, pos := _, after := _, guard := none }) (v := ?_) rfl (by kernel_rfl) (by kernel_rfl) (by kernel_rfl) (fun _ _ _ h => h) (fun _ _ => Iff.rfl) hC (Or.inl ⟨by rfl, ?_⟩) ⟨HQ2.out.b0, HQ2.out.b1⟩ (fun hC hS => ?_)
      rotate_left
      · intro W9 hSw; skip; go_simp; try (with_reducible rfl)
      try simp only [Act.put, List.setIfInBounds_toArray, List.set_cons_zero, List.set_cons_succ]
      refine wpAnyL_take (i := 7) (oi := { dst := some 6, op := .assign (.tmp 59), type := _, pos := _, after := _, guard := none }) (v := ?_) rfl (by kernel_rfl) (by kernel_rfl) (by kernel_rfl) (fun _ _ _ h => h) (fun _ _ => Iff.rfl) hC (Or.inl ⟨by rfl, ?_⟩) ⟨HQ2.out.b0, HQ2.out.b1⟩ (fun hC hS => ?_)
      rotate_left
      · intro W9 hSw; skip; go_simp; try (with_reducible rfl)
      try simp only [Act.put, List.setIfInBounds_toArray, List.set_cons_zero, List.set_cons_succ]
      refine wpAnyL_ready (rs := [8]) (by kernel_rfl) (by simp) hC ?_
      refine AllReadyL.cons (o := { dst := none, op := .store 29 (.tmp 7) (.tmp 60), type := _, pos := _, after := _, guard := none }) rfl (fun K9 hK => ?_) ?_
      · skip
        have y0 : (v2).cell? ⟨w.heap.size + 2, 0, none⟩ = some (.slice none 0 0) := (cell_of_row _ _ 0 _ _ _ HQ2.out.b2).trans rfl
        have y1 : (v2).cell? ⟨w.heap.size + 2, 1, none⟩ = some (.slice none 0 0) := (cell_of_row _ _ 1 _ _ _ HQ2.out.b2).trans rfl
        have y2 : (v2).cell? ⟨w.heap.size + 2, 2, none⟩ = some (.string ⟨#[]⟩) := (cell_of_row _ _ 2 _ _ _ HQ2.out.b2).trans rfl
        have y3 : (v2).cell? ⟨w.heap.size + 2, 3, none⟩ = some (.string ⟨#[]⟩) := (cell_of_row _ _ 3 _ _ _ HQ2.out.b2).trans rfl
        have f0 : (v2).frozen? ⟨w.heap.size + 2, 0, none⟩ = false := frozen_of_row _ _ _ _ _ HQ2.out.b2
        have f1 : (v2).frozen? ⟨w.heap.size + 2, 1, none⟩ = false := frozen_of_row _ _ _ _ _ HQ2.out.b2
        have f2 : (v2).frozen? ⟨w.heap.size + 2, 2, none⟩ = false := frozen_of_row _ _ _ _ _ HQ2.out.b2
        have f3 : (v2).frozen? ⟨w.heap.size + 2, 3, none⟩ = false := frozen_of_row _ _ _ _ _ HQ2.out.b2
        go_simp
        have HQ3 := Lib.hid (HQ2.out.stored HSN.out (.slice ta L.length tc) (.slice sa L.length sc) (.string c0) (.string c1))
        have HR3 := Lib.hid (HR2.out.put (set4_kk _ _ _ _ _ _) (fun b z => z.1) (HQ2.out.boxD (.slice ta L.length tc) (.slice sa L.length sc) (.string c0) (.string c1)))
        clear y0 y1 y2 y3 f0 f1 f2 f3 HQ2 HR2
        have HGW := set4 (v2) (w.heap.size + 2) (.slice ta L.length tc) (.slice sa L.length sc) (.string c0) (.string c1)
        clear HGW
        refine hK _ _ ⟨HQ3.out.b0, HQ3.out.b1⟩ (fun hC => ?_)
        clear hK K9
        try simp only [Act.put, List.setIfInBounds_toArray, List.set_cons_zero, List.set_cons_succ]
        refine wpAnyL_take (i := 9) (oi := { dst := some 8, op := .assign (.tmp 65), type := _, pos := _, after := _, guard := none }) (v := ?_) rfl (by kernel_rfl) (by kernel_rfl) (by kernel_rfl) (fun _ _ _ h => h) (fun _ _ => Iff.rfl) hC (Or.inl ⟨by rfl, ?_⟩) ⟨HQ3.out.b0, HQ3.out.b1⟩ (fun hC hS => ?_)
        rotate_left
        · intro W9 hSw; skip; go_simp; try (with_reducible rfl)
        try simp only [Act.put, List.setIfInBounds_toArray, List.set_cons_zero, List.set_cons_succ]
        refine wpAnyL_done (by kernel_rfl) ?_ _
        clear hS hC
        go_wp2_with fail
        refine bodyPost_ret (results_tct rfl _ _ (w.heap.size + 2) #[.slice ta L.length tc, .slice sa L.length sc, .string c0, .string c1] rfl (run_loadVar_row _ (w.heap.size + 2) 29 29 _ (0, 0) _ HQ3.out.b2 Tryd.underlying29 rfl (by kernel_rfl))) rfl ?_
        exact ⟨D, ta, L.length, tc, sa, L.length, sc, rfl, HQ3.out.sw, ShR.imp HR3.out (fun b _ z => ⟨z.1, z.2.2⟩), HQ3.out.ks.fr⟩
      exact AllReadyL.nil
    exact AllReadyL.nil
set_option linter.unusedSimpArgs false in
set_option maxRecDepth 100000 in
set_option maxHeartbeats 8000000 in
theorem does_cut (n : Nat) (w0 : World) (Q : Nat → Prop) (D : Nat) (L : List Ob) (c0 c1 : ByteArray) (k : Nat) (kd nn : Int) (t : ByteArray) (ta : Option Addr) (tn tc : Nat) (sa : Option Addr) (sn sc : Nat) (w : World) (h : SW n w0 D L c0 c1 k w) (hr : ShR (fun b => ¬ InS D w b ∧ Q b) L ta tn tc sa sn sc w) (hQ : ∀ b, w.heap.size ≤ b → Q b) (hi : Inv L c0 c1) (hl : L.length ≤ 40000) (hk : k < 900000) (hT : HTab w0) (hn : w0.heap.size ≤ n) (hkd : kd = 2) (hnn : 0 ≤ nn ∧ nn ≤ (L.length : Int)) :
    Calls Tryd.prog 12 #[.pointer (some ⟨D, 0, none⟩), rsv ta tn tc sa sn sc c0 c1, actv kd nn t] w (RetDoes n w0 Q D (cutL L nn) c0 c1 k w) := by
  obtain rfl := hr.tn_eq
  obtain rfl := hr.sn_eq
  subst hkd
  have HLL := Lib.hid hl
  have HKL := Lib.hid hk
  have HTT := Lib.hid hT
  have HNN := Lib.hid hn
  have HI := Lib.hid hi
  have HSN := Lib.hid h.sz
  obtain ⟨v, hv⟩ : ∃ v, v = (((w.alloc (.cells #[.slice ta L.length tc, .slice sa L.length sc, .string c0, .string c1] 29 (0, 0))).alloc (.cells #[.int .i64 2, .int .i64 nn, .string t] 31 (0, 0))).alloc (.cells #[.slice none 0 0, .slice none 0 0, .string ⟨#[]⟩, .string ⟨#[]⟩] 29 (0, 0))) := ⟨_, rfl⟩
  have HV := Lib.hid hv
  have HB0 := Lib.hid (show Below w.heap.size w v by rw [hv]; exact (((Below.refl w.heap.size w).alloc (Nat.le_refl _) (.cells #[.slice ta L.length tc, .slice sa L.length sc, .string c0, .string c1] 29 (0, 0))).alloc (by simp) (.cells #[.int .i64 2, .int .i64 nn, .string t] 31 (0, 0))).alloc (by simp; omega) (.cells #[.slice none 0 0, .slice none 0 0, .string ⟨#[]⟩, .string ⟨#[]⟩] 29 (0, 0)))
  have HQ0 := Lib.hid (show Bq n w0 w D L c0 c1 k #[.slice ta L.length tc, .slice sa L.length sc, .string c0, .string c1] #[.int .i64 2, .int .i64 nn, .string t] #[.slice none 0 0, .slice none 0 0, .string ⟨#[]⟩, .string ⟨#[]⟩] v from ⟨h.below HB0.out,
    by rw [hv]; exact blk_alloc (blk_alloc (blk_new w (.cells #[.slice ta L.length tc, .slice sa L.length sc, .string c0, .string c1] 29 (0, 0))) (.cells #[.int .i64 2, .int .i64 nn, .string t] 31 (0, 0))) (.cells #[.slice none 0 0, .slice none 0 0, .string ⟨#[]⟩, .string ⟨#[]⟩] 29 (0, 0)),
    by rw [hv]; exact blk_alloc (show (((w.alloc (.cells #[.slice ta L.length tc, .slice sa L.length sc, .string c0, .string c1] 29 (0, 0)))).alloc (.cells #[.int .i64 2, .int .i64 nn, .string t] 31 (0, 0))).heap[w.heap.size + 1]? = some (.cells #[.int .i64 2, .int .i64 nn, .string t] 31 (0, 0)) from blk_newN (W := w.alloc (.cells #[.slice ta L.length tc, .slice sa L.length sc, .string c0, .string c1] 29 (0, 0))) (o := (.cells #[.int .i64 2, .int .i64 nn, .string t] 31 (0, 0))) (by simp)) (.cells #[.slice none 0 0, .slice none 0 0, .string ⟨#[]⟩, .string ⟨#[]⟩] 29 (0, 0)),
    by rw [hv]; exact (show ((((w.alloc (.cells #[.slice ta L.length tc, .slice sa L.length sc, .string c0, .string c1] 29 (0, 0)))).alloc (.cells #[.int .i64 2, .int .i64 nn, .string t] 31 (0, 0))).alloc (.cells #[.slice none 0 0, .slice none 0 0, .string ⟨#[]⟩, .string ⟨#[]⟩] 29 (0, 0))).heap[w.heap.size + 2]? = some (.cells #[.slice none 0 0, .slice none 0 0, .string ⟨#[]⟩, .string ⟨#[]⟩] 29 (0, 0)) from blk_newN (W := (w.alloc (.cells #[.slice ta L.length tc, .slice sa L.length sc, .string c0, .string c1] 29 (0, 0))).alloc (.cells #[.int .i64 2, .int .i64 nn, .string t] 31 (0, 0))) (o := (.cells #[.slice none 0 0, .slice none 0 0, .string ⟨#[]⟩, .string ⟨#[]⟩] 29 (0, 0))) (by simp)),
    fun b h1 _ q => absurd (h.sk.new (q.back HB0.out h.sk.lt)) (by omega), Ks.of_below HB0.out h.sk.lt, h.sk.lt⟩)
  have HQQ := Lib.hid hQ
  have HR0 := Lib.hid (show ShD D (fun b => b ≠ w.heap.size + 2 ∧ Q b) L ta L.length tc sa L.length sc v from ShD.kept (ShR.imp hr (fun b h1 h2 => ⟨h2.1, by omega, h2.2⟩)) HB0.out h.sk.lt)
  clear hv h hr hi hl hk hT hn hQ
  have HCC := Lib.hid (fun (W : World) (hh : SW n w0 D L c0 c1 k W) => scut_any D L c0 c1 k nn W hh.sk HI.out.nd (fun x hx => (HI.out.nm x hx).2) (by have := HLL.out; omega))
  unfold RetCut at HCC
  obtain ⟨K, rfl⟩ : ∃ K : Nat, nn = (K : Int) := ⟨nn.toNat, by omega⟩
  have hK : K ≤ L.length := by omega
  have HE := Lib.hid (show cutE L (K : Int) = 0 ∧ cutL L (K : Int) = L.take K by unfold cutE cutL; rw [if_pos (by omega), if_pos (by omega)]; exact ⟨rfl, by simp⟩)
  rw [HE.out.1, HE.out.2] at HCC
  rw [HE.out.2]
  have t1 : decide ((K : Int) < 0) = false := decide_eq_false (by omega)
  have t2 : decide ((K : Int) > (L.length : Int)) = false := decide_eq_false (by omega)
  have t3 : decide ((L.length : Int) < (K : Int)) = false := decide_eq_false (by omega)
  have t4 : decide (L.length < K) = false := decide_eq_false (by omega)
  have HK := Lib.hid hK
  clear hnn HE hK
  go_enter Tryd.func12, Tryd.ntmps12
  go_upto_region 1 with (fail)
  rw [← HV.out]
  have a0 : v.cell? ⟨w.heap.size + 1, 0, none⟩ = some (.int .i64 2) := (cell_of_row _ _ 0 _ _ _ HQ0.out.b1).trans rfl
  have b0 : v.cell? ⟨w.heap.size, 0, none⟩ = some (.slice ta L.length tc) := (cell_of_row _ _ 0 _ _ _ HQ0.out.b0).trans rfl
  have b1 : v.cell? ⟨w.heap.size, 1, none⟩ = some (.slice sa L.length sc) := (cell_of_row _ _ 1 _ _ _ HQ0.out.b0).trans rfl
  have b2 : v.cell? ⟨w.heap.size, 2, none⟩ = some (.string c0) := (cell_of_row _ _ 2 _ _ _ HQ0.out.b0).trans rfl
  have b3 : v.cell? ⟨w.heap.size, 3, none⟩ = some (.string c1) := (cell_of_row _ _ 3 _ _ _ HQ0.out.b0).trans rfl
  have a1 : v.cell? ⟨w.heap.size + 1, 1, none⟩ = some (.int .i64 (K : Int)) := (cell_of_row _ _ 1 _ _ _ HQ0.out.b1).trans rfl
  go_upto_region 9 with (fail)
  clear a0 a1 b0 b1 b2 b3
  have HR1 := Lib.hid (HR0.out.kept (Below.refl _ _).drew HQ0.out.sw.sk.lt)
  have HQ1 := Lib.hid HQ0.out.drew
  refine wp_region_L_drew (S := fun _ W => W.heap[w.heap.size]? = some (.cells #[.slice ta L.length tc, .slice sa L.length sc, .string c0, .string c1] 29 (0, 0)) ∧ W.heap[w.heap.size + 1]? = some (.cells #[.int .i64 2, .int .i64 (K : Int), .string t] 31 (0, 0))) (by kernel_rfl) ⟨HQ1.out.b0, HQ1.out.b1⟩ (fun hS hC => ?_)
  generalize v.drew = v1 at *
  refine wpAnyL_take (i := 0) (oi := { dst := some 66, op := .move (.tmp 0), type := _, pos := _, after := _, guard := none }) (v := ?_) rfl (by kernel_rfl) (by kernel_rfl) (by kernel_rfl) (fun _ _ _ h => h) (fun _ _ => Iff.rfl) hC (Or.inl ⟨by rfl, ?_⟩) hS (fun hC hS => ?_)
  rotate_left
  · intro W9 hSw; skip; go_simp; try (with_reducible rfl)
  try simp only [Act.put, List.setIfInBounds_toArray, List.set_cons_zero, List.set_cons_succ]
  refine wpAnyL_take (i := 1) (oi := { dst := some 67, op := .load 29 (.tmp 4), type := _, pos := _, after := _, guard := none }) (v := ?_) rfl (by kernel_rfl) (by kernel_rfl) (by kernel_rfl) (fun _ _ _ h => h) (fun _ _ => Iff.rfl) hC (Or.inl ⟨by rfl, ?_⟩) hS (fun hC hS => ?_)
  rotate_left
  · intro W9 hSw; have q0 := (cell_of_row _ _ 0 _ _ _ (hSw.choose_spec.2.2.1)).trans rfl; have q1 := (cell_of_row _ _ 1 _ _ _ (hSw.choose_spec.2.2.1)).trans rfl; have q2 := (cell_of_row _ _ 2 _ _ _ (hSw.choose_spec.2.2.1)).trans rfl; have q3 := (cell_of_row _ _ 3 _ _ _ (hSw.choose_spec.2.2.1)).trans rfl; go_simp; try (with_reducible rfl)
  try simp only [Act.put, List.setIfInBounds_toArray, List.set_cons_zero, List.set_cons_succ]
  refine wpAnyL_take (i := 2) (oi := { dst := some 68, op := .fieldAddr 31 (.tmp 5) 1, type := _, pos := _, after := _, guard := none }) (v := ?_) rfl (by kernel_rfl) (by kernel_rfl) (by kernel_rfl) (fun _ _ _ h => h) (fun _ _ => Iff.rfl) hC (Or.inl ⟨by rfl, ?_⟩) hS (fun hC hS => ?_)
  rotate_left
  · intro W9 hSw; skip; go_simp; try (with_reducible rfl)
  try simp only [Act.put, List.setIfInBounds_toArray, List.set_cons_zero, List.set_cons_succ]
  refine wpAnyL_take (i := 3) (oi := { dst := some 69, op := .load 3 (.tmp 68), type := _, pos := _, after := _, guard := none }) (v := ?_) rfl (by kernel_rfl) (by kernel_rfl) (by kernel_rfl) (fun _ _ _ h => h) (fun _ _ => Iff.rfl) hC (Or.inl ⟨by rfl, ?_⟩) hS (fun hC hS => ?_)
  rotate_left
  · intro W9 hSw; have q1 := (cell_of_row _ _ 1 _ _ _ (hSw.choose_spec.2.2.2)).trans rfl; go_simp; try (with_reducible rfl)
  try simp only [Act.put, List.setIfInBounds_toArray, List.set_cons_zero, List.set_cons_succ]
  refine wpAnyL_take (i := 5) (oi := { dst := some 71, op := .move (.tmp 0), type := _, pos := _, after := _, guard := none }) (v := ?_) rfl (by kernel_rfl) (by kernel_rfl) (by kernel_rfl) (fun _ _ _ h => h) (fun _ _ => Iff.rfl) hC (Or.inl ⟨by rfl, ?_⟩) hS (fun hC hS => ?_)
  rotate_left
  · intro W9 hSw; skip; go_simp; try (with_reducible rfl)
  try simp only [Act.put, List.setIfInBounds_toArray, List.set_cons_zero, List.set_cons_succ]
  refine wpAnyL_take (i := 6) (oi := { dst := some 72, op := .fieldAddr 31 (.tmp 5) 1, type := _, pos := _, after := _, guard := none }) (v := ?_) rfl (by kernel_rfl) (by kernel_rfl) (by kernel_rfl) (fun _ _ _ h => h) (fun _ _ => Iff.rfl) hC (Or.inl ⟨by rfl, ?_⟩) hS (fun hC hS => ?_)
  rotate_left
  · intro W9 hSw; skip; go_simp; try (with_reducible rfl)
  try simp only [Act.put, List.setIfInBounds_toArray, List.set_cons_zero, List.set_cons_succ]
  refine wpAnyL_take (i := 7) (oi := { dst := some 73, op := .load 3 (.tmp 72), type := _, pos := _, after := _, guard := none }) (v := ?_) rfl (by kernel_rfl) (by kernel_rfl) (by kernel_rfl) (fun _ _ _ h => h) (fun _ _ => Iff.rfl) hC (Or.inl ⟨by rfl, ?_⟩) hS (fun hC hS => ?_)
  rotate_left
  · intro W9 hSw; have q1 := (cell_of_row _ _ 1 _ _ _ (hSw.choose_spec.2.2.2)).trans rfl; go_simp; try (with_reducible rfl)
  try simp only [Act.put, List.setIfInBounds_toArray, List.set_cons_zero, List.set_cons_succ]
  refine wpAnyL_ready (rs := [4]) (by kernel_rfl) (by simp) hC ?_
  refine AllReadyL.cons (o := { dst := some 70, op := .call { callee := .value (.func 43), args := #[.tmp 67, .tmp 69], argTypes := #[29, 3] }, type := _, pos := _, after := _, guard := none }) rfl (fun K9 hK => ?_) ?_
  · skip
    go_simp
    refine (rscut_any (fun b => ¬ InS D v1 b ∧ b ≠ w.heap.size + 2 ∧ Q b) L c0 c1 K ta L.length tc sa L.length sc v1 HR1.out HK.out).mono ?_
    rintro e v2 ⟨r1, r2, r3, r4, r5, r6, rfl, hh, hb⟩
    have HR2 := Lib.hid (ShR.toD hh hb HQ1.out.sw.sk.lt)
    have HQ2 := Lib.hid (HQ1.out.kept hb)
    clear hh hb
    refine hK _ _ ⟨HQ2.out.b0, HQ2.out.b1⟩ (fun hC => ?_)
    clear hK K9
    try simp only [Act.put, List.setIfInBounds_toArray, List.set_cons_zero, List.set_cons_succ]
    refine wpAnyL_ready (rs := [8]) (by kernel_rfl) (by simp) hC ?_
    refine AllReadyL.cons (o := { dst := some 74, op := .call { callee := .value (.func 26), args := #[.tmp 71, .tmp 73], argTypes := #[25, 3] }, type := _, pos := _, after := _, guard := none }) rfl (fun K9 hK => ?_) ?_
    · skip
      go_simp
      refine (HCC.out v2 HQ2.out.sw).mono ?_
      rintro e v3 ⟨rfl, hs, hk⟩
      have HR3 := Lib.hid (HR2.out.prog hk)
      have HQ3 := Lib.hid (HQ2.out.prog hk (HQ2.out.sw.ks hk hs))
      clear hs hk
      refine hK _ _ ⟨HQ3.out.b0, HQ3.out.b1⟩ (fun hC => ?_)
      clear hK K9
      try simp only [Act.put, List.setIfInBounds_toArray, List.set_cons_zero, List.set_cons_succ]
      refine wpAnyL_take (i := 9) (oi := { dst := some 75, op := .binOp .eql 43 (.tmp 74) (.const (.int Go.IntKind.i64 0)) 43, type := _, pos := _, after := _, guard := none }) (v := ?_) rfl (by kernel_rfl) (by kernel_rfl) (by kernel_rfl) (fun _ _ _ h => h) (fun _ _ => Iff.rfl) hC (Or.inl ⟨by rfl, ?_⟩) ⟨HQ3.out.b0, HQ3.out.b1⟩ (fun hC hS => ?_)
      rotate_left
      · intro W9 hSw; skip; go_simp; try (with_reducible rfl)
      try simp only [Act.put, List.setIfInBounds_toArray, List.set_cons_zero, List.set_cons_succ]
      refine wpAnyL_take (i := 10) (oi := { dst := some 6, op := .assign (.tmp 66), type := _, pos := _, after := _, guard := none }) (v := ?_) rfl (by kernel_rfl) (by kernel_rfl) (by kernel_rfl) (fun _ _ _ h => h) (fun _ _ => Iff.rfl) hC (Or.inl ⟨by rfl, ?_⟩) ⟨HQ3.out.b0, HQ3.out.b1⟩ (fun hC hS => ?_)
      rotate_left
      · intro W9 hSw; skip; go_simp; try (with_reducible rfl)
      try simp only [Act.put, List.setIfInBounds_toArray, List.set_cons_zero, List.set_cons_succ]
      refine wpAnyL_ready (rs := [11]) (by kernel_rfl) (by simp) hC ?_
      refine AllReadyL.cons (o := { dst := none, op := .store 29 (.tmp 7) (.tmp 70), type := _, pos := _, after := _, guard := none }) rfl (fun K9 hK => ?_) ?_
      · skip
        have y0 : (v3).cell? ⟨w.heap.size + 2, 0, none⟩ = some (.slice none 0 0) := (cell_of_row _ _ 0 _ _ _ HQ3.out.b2).trans rfl
        have y1 : (v3).cell? ⟨w.heap.size + 2, 1, none⟩ = some (.slice none 0 0) := (cell_of_row _ _ 1 _ _ _ HQ3.out.b2).trans rfl
        have y2 : (v3).cell? ⟨w.heap.size + 2, 2, none⟩ = some (.string ⟨#[]⟩) := (cell_of_row _ _ 2 _ _ _ HQ3.out.b2).trans rfl
        have y3 : (v3).cell? ⟨w.heap.size + 2, 3, none⟩ = some (.string ⟨#[]⟩) := (cell_of_row _ _ 3 _ _ _ HQ3.out.b2).trans rfl
        have f0 : (v3).frozen? ⟨w.heap.size + 2, 0, none⟩ = false := frozen_of_row _ _ _ _ _ HQ3.out.b2
        have f1 : (v3).frozen? ⟨w.heap.size + 2, 1, none⟩ = false := frozen_of_row _ _ _ _ _ HQ3.out.b2
        have f2 : (v3).frozen? ⟨w.heap.size + 2, 2, none⟩ = false := frozen_of_row _ _ _ _ _ HQ3.out.b2
        have f3 : (v3).frozen? ⟨w.heap.size + 2, 3, none⟩ = false := frozen_of_row _ _ _ _ _ HQ3.out.b2
        go_simp
        have HQ4 := Lib.hid (HQ3.out.stored HSN.out (.slice r1 r2 r3) (.slice r4 r5 r6) (.string c0) (.string c1))
        have HR4 := Lib.hid (HR3.out.put (set4_kk _ _ _ _ _ _) (fun b z => z.1) (HQ3.out.boxD (.slice r1 r2 r3) (.slice r4 r5 r6) (.string c0) (.string c1)))
        clear y0 y1 y2 y3 f0 f1 f2 f3 HQ3 HR3
        have HGW := set4 (v3) (w.heap.size + 2) (.slice r1 r2 r3) (.slice r4 r5 r6) (.string c0) (.string c1)
        clear HGW
        refine hK _ _ ⟨HQ4.out.b0, HQ4.out.b1⟩ (fun hC => ?_)
        clear hK K9
        try simp only [Act.put, List.setIfInBounds_toArray, List.set_cons_zero, List.set_cons_succ]
        refine wpAnyL_take (i := 12) (oi := { dst := some 8, op := .assign (.tmp 75), type := _, pos := _, after := _, guard := none }) (v := ?_) rfl (by kernel_rfl) (by kernel_rfl) (by kernel_rfl) (fun _ _ _ h => h) (fun _ _ => Iff.rfl) hC (Or.inl ⟨by rfl, ?_⟩) ⟨HQ4.out.b0, HQ4.out.b1⟩ (fun hC hS => ?_)
        rotate_left
        · intro W9 hSw; skip; go_simp; try (with_reducible rfl)
        try simp only [Act.put, List.setIfInBounds_toArray, List.set_cons_zero, List.set_cons_succ]
        refine wpAnyL_done (by kernel_rfl) ?_ _
        clear hS hC
        go_wp2_with fail
        refine bodyPost_ret (results_tct rfl _ _ (w.heap.size + 2) #[.slice r1 r2 r3, .slice r4 r5 r6, .string c0, .string c1] rfl (run_loadVar_row _ (w.heap.size + 2) 29 29 _ (0, 0) _ HQ4.out.b2 Tryd.underlying29 rfl (by kernel_rfl))) rfl ?_
        exact ⟨D, r1, r2, r3, r4, r5, r6, rfl, HQ4.out.sw, ShR.imp HR4.out (fun b _ z => ⟨z.1, z.2.2⟩), HQ4.out.ks.fr⟩
      exact AllReadyL.nil
    exact AllReadyL.nil
  exact AllReadyL.nil
end Go.Proofs.YtpjpegmjcgkonaaDoor

namespace Go.Proofs.YtpjpegmjcgkonaaDoor
open Go.RowKit Vi Hm

theorem SW.lift {n m : Nat} {w0 W : World} {D : Nat} {L : List Ob} {c0 c1 : ByteArray} {k : Nat} {w : World} (h : SW m W D L c0 c1 k w) (hm : m = W.heap.size) (hb : Below n w0 W) (hn : n ≤ W.heap.size) : SW n w0 D L c0 c1 k w := by
  subst hm
  exact ⟨h.sk, fun b q => Nat.le_trans hn (h.far b q), hb.trans (h.bel.mono hn), Nat.le_trans hn h.sz⟩
theorem size_oth {w w' : World} {g : Nat} (ho : ∀ k, k ≠ g → w'.heap[k]? = w.heap[k]?) (hg : g < w'.heap.size) : w.heap.size ≤ w'.heap.size := by
  rcases Nat.lt_or_ge w'.heap.size w.heap.size with q | q
  · have h := ho w'.heap.size (by omega)
    rw [Array.getElem?_eq_none (Nat.le_refl _), Array.getElem?_eq_getElem q] at h
    cases h
  · exact q
theorem Inv.drop {L : List Ob} {c0 c1 : ByteArray} (h : Inv L c0 c1) {L' : List Ob} (hs : L'.Sublist L) (hc : CI c0 c1 → CI c0 c1) : Inv L' c0 c1 :=
  ⟨fun x hx => h.li x (hs.subset hx), hc h.ci, (hs.map _).nodup h.nd⟩
theorem CI.none : CI ⟨#[]⟩ ⟨#[]⟩ := .inl ⟨rfl, rfl⟩
theorem Inv.nil : Inv [] ⟨#[]⟩ ⟨#[]⟩ := ⟨fun _ h => (by cases h), CI.none, List.nodup_nil⟩
theorem Inv.only {L : List Ob} {c0 c1 : ByteArray} (h : Inv L c0 c1) : Inv (onO L) ⟨#[]⟩ ⟨#[]⟩ :=
  ⟨fun x hx => h.li x (List.mem_filter.1 hx).1, CI.none, ((List.filter_sublist (l := L)).map _).nodup h.nd⟩
theorem Inv.cut {L : List Ob} {c0 c1 : ByteArray} (h : Inv L c0 c1) (nn : Int) : Inv (cutL L nn) c0 c1 := by
  unfold cutL
  split
  · exact h.drop (List.take_sublist _ _) id
  · exact h
theorem cutL_len (L : List Ob) (nn : Int) : (cutL L nn).length ≤ L.length := by
  unfold cutL
  split
  · rw [List.length_take]; omega
  · exact Nat.le_refl _
theorem get_none_mem {L : List Ob} {s : ByteArray} (h : getO L s = none) : ∀ x ∈ L, x.1 ≠ s := fun x hx e => by
  unfold getO at h
  rw [Option.map_eq_none_iff, List.find?_eq_none] at h
  have := h x hx
  rw [e] at this
  simp at this
theorem get_memS {L : List Ob} {s u : ByteArray} (h : getO L s = some u) : ∃ x ∈ L, x.1 = s ∧ x.2 = u := by
  unfold getO at h
  obtain ⟨x, hx, e⟩ := Option.map_eq_some_iff.1 h
  have := List.find?_some hx
  exact ⟨x, List.mem_of_find?_eq_some hx, ba_eq.1 this, e⟩
theorem Inv.put {L : List Ob} {c0 c1 : ByteArray} (h : Inv L c0 c1) (t : ByteArray) : Inv (putL L t) (putA L c0 c1 t) (putB L c0 c1 t) ∧ (putL L t).length ≤ L.length + 1 := by
  by_cases h0 : t.size = 0
  · obtain ⟨p1, p2, p3, p4, p5⟩ := put_bad (L := L) (x := 2) (.inl ⟨h0, rfl⟩) c0 c1
    rw [p3, p4, p5]
    exact ⟨h, by omega⟩
  by_cases h1 : 65536 < t.size
  · obtain ⟨p1, p2, p3, p4, p5⟩ := put_bad (L := L) (x := 5) (.inr ⟨h0, h1, rfl⟩) c0 c1
    rw [p3, p4, p5]
    exact ⟨h, by omega⟩
  cases hg : getO L (nmS t) with
  | none =>
    obtain ⟨p1, p2, p3, p4, p5⟩ := put_none h0 h1 hg c0 c1
    rw [p3, p4, p5]
    refine ⟨⟨fun x hx => ?_, h.ci, ?_⟩, by simp⟩
    · rcases List.mem_append.1 hx with q | q
      · exact h.li x q
      · obtain rfl : x = (nmS t, t) := by simpa using q
        exact ⟨rfl, h0, Nat.le_of_not_lt h1⟩
    · rw [List.map_append]
      refine List.nodup_append.2 ⟨h.nd, by simp, fun a ha b hb e => ?_⟩
      obtain rfl : b = nmS t := by simpa using hb
      obtain ⟨x, hx, rfl⟩ := List.mem_map.1 ha
      exact get_none_mem hg x hx e
  | some u =>
    by_cases hu : u = t
    · subst hu
      obtain ⟨p1, p2, p3, p4, p5⟩ := put_same h0 h1 hg c0 c1
      rw [p3, p4, p5]
      exact ⟨h, by omega⟩
    · obtain ⟨p1, p2, p3, p4, p5⟩ := put_clash h0 h1 hg hu c0 c1
      rw [p3, p4, p5]
      refine ⟨⟨h.li, ?_, h.nd⟩, by omega⟩
      obtain ⟨x, hx, _, e2⟩ := get_memS hg
      have hus : u.size ≠ 0 := by rw [← e2]; exact (h.li x hx).2.1
      rcases h.ci with ⟨rfl, rfl⟩ | q
      · exact .inr hus
      · refine .inr ?_
        unfold mtA
        rw [met_ofS (b := c1) q, if_pos rfl]
        exact q
theorem Fr.fr2 {D D' D2 : Nat} {w w' : World} (h : Fr D D' w w') (hn : ∀ b, InS D2 w' b → w.heap.size ≤ b) : Fr D D2 w w' := ⟨h.size, h.block, fun b hb q => absurd (hn b q) (by omega)⟩
theorem onO_len (L : List Ob) : (onO L).length ≤ L.length := List.length_filter_le _ _
set_option linter.unusedSimpArgs false in
set_option maxRecDepth 100000 in
set_option maxHeartbeats 8000000 in
theorem does_only (n : Nat) (w0 : World) (Q : Nat → Prop) (D : Nat) (L : List Ob) (c0 c1 : ByteArray) (k : Nat) (kd nn : Int) (t : ByteArray) (ta : Option Addr) (tn tc : Nat) (sa : Option Addr) (sn sc : Nat) (w : World) (h : SW n w0 D L c0 c1 k w) (hr : ShR (fun b => ¬ InS D w b ∧ Q b) L ta tn tc sa sn sc w) (hQ : ∀ b, w.heap.size ≤ b → Q b) (hi : Inv L c0 c1) (hl : L.length ≤ 40000) (hk : k < 900000) (hT : HTab w0) (hn : w0.heap.size ≤ n) (hkd : kd ≠ 1 ∧ kd ≠ 2) :
    Calls Tryd.prog 12 #[.pointer (some ⟨D, 0, none⟩), rsv ta tn tc sa sn sc c0 c1, actv kd nn t] w (RetDoes n w0 Q D (onO L) ⟨#[]⟩ ⟨#[]⟩ L.length w) := by
  obtain rfl := hr.tn_eq
  obtain rfl := hr.sn_eq
  have e1 : (kd == 1) = false := by simp; omega
  have e2 : (kd == 2) = false := by simp; omega
  have e3 : decide (kd = 1) = false := decide_eq_false hkd.1
  have e4 : decide (kd = 2) = false := decide_eq_false hkd.2
  have htI : (L.length : Int) ≤ 9223372036854775807 := by omega
  have HLL := Lib.hid hl
  have HKL := Lib.hid hk
  have HTT := Lib.hid hT
  have HNN := Lib.hid hn
  have HI := Lib.hid hi
  have HSN := Lib.hid h.sz
  obtain ⟨v, hv⟩ : ∃ v, v = (((w.alloc (.cells #[.slice ta L.length tc, .slice sa L.length sc, .string c0, .string c1] 29 (0, 0))).alloc (.cells #[.int .i64 kd, .int .i64 nn, .string t] 31 (0, 0))).alloc (.cells #[.slice none 0 0, .slice none 0 0, .string ⟨#[]⟩, .string ⟨#[]⟩] 29 (0, 0))) := ⟨_, rfl⟩
  have HV := Lib.hid hv
  have HB0 := Lib.hid (show Below w.heap.size w v by rw [hv]; exact (((Below.refl w.heap.size w).alloc (Nat.le_refl _) (.cells #[.slice ta L.length tc, .slice sa L.length sc, .string c0, .string c1] 29 (0, 0))).alloc (by simp) (.cells #[.int .i64 kd, .int .i64 nn, .string t] 31 (0, 0))).alloc (by simp; omega) (.cells #[.slice none 0 0, .slice none 0 0, .string ⟨#[]⟩, .string ⟨#[]⟩] 29 (0, 0)))
  have HQ0 := Lib.hid (show Bq n w0 w D L c0 c1 k #[.slice ta L.length tc, .slice sa L.length sc, .string c0, .string c1] #[.int .i64 kd, .int .i64 nn, .string t] #[.slice none 0 0, .slice none 0 0, .string ⟨#[]⟩, .string ⟨#[]⟩] v from ⟨h.below HB0.out,
    by rw [hv]; exact blk_alloc (blk_alloc (blk_new w (.cells #[.slice ta L.length tc, .slice sa L.length sc, .string c0, .string c1] 29 (0, 0))) (.cells #[.int .i64 kd, .int .i64 nn, .string t] 31 (0, 0))) (.cells #[.slice none 0 0, .slice none 0 0, .string ⟨#[]⟩, .string ⟨#[]⟩] 29 (0, 0)),
    by rw [hv]; exact blk_alloc (show (((w.alloc (.cells #[.slice ta L.length tc, .slice sa L.length sc, .string c0, .string c1] 29 (0, 0)))).alloc (.cells #[.int .i64 kd, .int .i64 nn, .string t] 31 (0, 0))).heap[w.heap.size + 1]? = some (.cells #[.int .i64 kd, .int .i64 nn, .string t] 31 (0, 0)) from blk_newN (W := w.alloc (.cells #[.slice ta L.length tc, .slice sa L.length sc, .string c0, .string c1] 29 (0, 0))) (o := (.cells #[.int .i64 kd, .int .i64 nn, .string t] 31 (0, 0))) (by simp)) (.cells #[.slice none 0 0, .slice none 0 0, .string ⟨#[]⟩, .string ⟨#[]⟩] 29 (0, 0)),
    by rw [hv]; exact (show ((((w.alloc (.cells #[.slice ta L.length tc, .slice sa L.length sc, .string c0, .string c1] 29 (0, 0)))).alloc (.cells #[.int .i64 kd, .int .i64 nn, .string t] 31 (0, 0))).alloc (.cells #[.slice none 0 0, .slice none 0 0, .string ⟨#[]⟩, .string ⟨#[]⟩] 29 (0, 0))).heap[w.heap.size + 2]? = some (.cells #[.slice none 0 0, .slice none 0 0, .string ⟨#[]⟩, .string ⟨#[]⟩] 29 (0, 0)) from blk_newN (W := (w.alloc (.cells #[.slice ta L.length tc, .slice sa L.length sc, .string c0, .string c1] 29 (0, 0))).alloc (.cells #[.int .i64 kd, .int .i64 nn, .string t] 31 (0, 0))) (o := (.cells #[.slice none 0 0, .slice none 0 0, .string ⟨#[]⟩, .string ⟨#[]⟩] 29 (0, 0))) (by simp)),
    fun b h1 _ q => absurd (h.sk.new (q.back HB0.out h.sk.lt)) (by omega), Ks.of_below HB0.out h.sk.lt, h.sk.lt⟩)
  have HQQ := Lib.hid hQ
  have HR0 := Lib.hid (show ShD D (fun b => b ≠ w.heap.size + 2 ∧ Q b) L ta L.length tc sa L.length sc v from ShD.kept (ShR.imp hr (fun b h1 h2 => ⟨h2.1, by omega, h2.2⟩)) HB0.out h.sk.lt)
  clear hv h hr hi hl hk hT hn hQ hkd
  go_enter Tryd.func12, Tryd.ntmps12
  go_upto_region 1 with (fail)
  rw [← HV.out]
  have a0 : v.cell? ⟨w.heap.size + 1, 0, none⟩ = some (.int .i64 kd) := (cell_of_row _ _ 0 _ _ _ HQ0.out.b1).trans rfl
  have b0 : v.cell? ⟨w.heap.size, 0, none⟩ = some (.slice ta L.length tc) := (cell_of_row _ _ 0 _ _ _ HQ0.out.b0).trans rfl
  go_upto_region 11 with (fail)
  have HN1 := Lib.hid (blk_new v (.cells #[.slice none 0 0, .slice none 0 0, .string ⟨#[]⟩, .string ⟨#[]⟩] 29 (0, 0)))
  have HB1 := Lib.hid ((Below.refl v.heap.size v).alloc (Nat.le_refl _) (.cells #[.slice none 0 0, .slice none 0 0, .string ⟨#[]⟩, .string ⟨#[]⟩] 29 (0, 0)))
  obtain ⟨w1, hw1⟩ : ∃ w1, w1 = v.alloc (.cells #[.slice none 0 0, .slice none 0 0, .string ⟨#[]⟩, .string ⟨#[]⟩] 29 (0, 0)) := ⟨_, rfl⟩
  have HW1 := Lib.hid hw1
  rw [← hw1] at HN1 HB1
  rw [← HW1.out]
  clear hw1 a0 b0
  have b0 : w1.cell? ⟨w.heap.size, 0, none⟩ = some (.slice ta L.length tc) := (cell_of_row _ _ 0 _ _ _ (HQ0.out.kept HB1.out).b0).trans rfl
  have HYW := Lib.hid (show w.heap.size + 2 < v.heap.size from HQ0.out.lt)
  obtain ⟨y, hy⟩ : ∃ y, y = v.heap.size := ⟨_, rfl⟩
  rw [← hy] at HN1 HB1 HYW
  have HY := Lib.hid hy
  rw [← hy]
  clear hy
  go_wp2_with fail
  go_loopw [79] (fun i wr => ∃ (j : Nat) (r1 : Option Addr) (r2 r3 : Nat) (r4 : Option Addr) (r5 r6 : Nat), i = .int .i64 (j : Int) ∧ j ≤ L.length ∧ wr.heap[y]? = some (.cells #[.slice r1 r2 r3, .slice r4 r5 r6, .string ⟨#[]⟩, .string ⟨#[]⟩] 29 (0, 0)) ∧ ShR (fun b => y < b) (onO (L.take j)) r1 r2 r3 r4 r5 r6 wr ∧ Below y v wr) (fun i _ => L.length - (intOf i).toNat)
  case atStart => exact ⟨0, none, 0, 0, none, 0, 0, rfl, Nat.zero_le _, HN1.out, ShR.nil _ _, HB1.out⟩
  case round =>
    obtain ⟨j, r1, r2, r3, r4, r5, r6, rfl, hj, hx, hs, hb⟩ := hrel
    have HX := Lib.hid hx
    have HS := Lib.hid hs
    have HB := Lib.hid hb
    clear hx hs hb b0 HN1 HB1
    by_cases hlt : j < L.length
    · have hd1 : decide ((j : Int) < (L.length : Int)) = true := decide_eq_true (by omega)
      have hi0 : (0 : Int) ≤ (j : Int) := by omega
      have hs1 : IntKind.i64.wrap ((j : Int) + 1) = (j : Int) + 1 := IntWalk.i64_in _ (by omega)
      obtain ⟨x, hx⟩ : ∃ x, L[j]? = some x := ⟨_, List.getElem?_eq_getElem hlt⟩
      have HXM := Lib.hid (HI.out.li x (List.mem_of_getElem? hx))
      have HTK := Lib.hid (onO_take L j x hx)
      have HPO := Lib.hid (onO_pos L HI.out.nd j x hx)
      obtain ⟨bT, oT, eT, _, hcT⟩ := (HR0.out.t.below (by rw [← HY.out]; exact HB.out)).2 (by omega)
      have gT : wr.cell? ⟨bT, oT + j, none⟩ = some (.string x.2) := by have q := hcT j x.2 0 (.string x.2) (by rw [List.getElem?_map, hx]; rfl) rfl; simpa using q
      have HTA := Lib.hid eT
      subst eT
      clear hcT hx
      obtain ⟨s, u⟩ := x
      obtain ⟨hs0, hu0, hu1⟩ := HXM.out
      dsimp only at hs0 hu0 hu1
      subst hs0
      have HU := Lib.hid (fun W : World => show Calls Tryd.prog 41 #[.string u] W fun e w' => e = .returned (.string (nmS u)) ∧ Below W.heap.size W w' from rsum_any u W (by omega))
      have HEV := Lib.hid (fun W : World => even_any (nmS u) W (by rw [nm_size]; decide))
      have HRP := Lib.hid (fun (W : World) (hh : ShR (fun b => y < b) (onO (L.take j)) r1 r2 r3 r4 r5 r6 W) (hz : y < W.heap.size) => rsput_any (fun b => y < b) (onO (L.take j)) ⟨#[]⟩ ⟨#[]⟩ u r1 r2 r3 r4 r5 r6 W hh (fun z hz => HI.out.li z (List.mem_of_mem_take (List.mem_filter.1 hz).1)) CI.none (by have := onO_len (L.take j); have := HLL.out; rw [List.length_take] at *; omega) (fun b hb => by omega))
      have HPN := Lib.hid (put_none (L := onO (L.take j)) (t := u) hu0 (Nat.not_lt.2 hu1) (pos_none HPO.out) ⟨#[]⟩ ⟨#[]⟩)
      clear hu0 hu1
      cases hv : evB (nmS u) with
      | true =>
        have HT2 := Lib.hid (show onO (L.take (j + 1)) = onO (L.take j) ++ [(nmS u, u)] by rw [HTK.out]; simp [hv])
        rw [hv] at HEV
        obtain ⟨p1, p2, p3, p4, p5⟩ := HPN.out
        rw [p1, p2, p3, p4, p5, ← HT2.out] at HRP
        clear hv p1 p2 p3 p4 p5 HPN HTK HPO HXM
        generalize nmS u = N at *
        go_wp2_with fail
        refine (HU.out wr).mono ?_
        rintro e w3 ⟨rfl, hb⟩
        have HX3 := Lib.hid (blk_below HX.out hb)
        have HS3 := Lib.hid (HS.out.below hb)
        have HB3 := Lib.hid (HB.out.trans (hb.mono (Nat.le_of_lt (lt_of_block HX.out))))
        clear hb gT
        go_wp2_with fail
        refine (HEV.out w3).mono ?_
        rintro e w' ⟨rfl, rfl⟩
        have c0' : w3.cell? ⟨y, 0, none⟩ = some (.slice r1 r2 r3) := (cell_of_row _ _ 0 _ _ _ HX3.out).trans rfl
        have c1' : w3.cell? ⟨y, 1, none⟩ = some (.slice r4 r5 r6) := (cell_of_row _ _ 1 _ _ _ HX3.out).trans rfl
        have c2' : w3.cell? ⟨y, 2, none⟩ = some (.string ⟨#[]⟩) := (cell_of_row _ _ 2 _ _ _ HX3.out).trans rfl
        have c3' : w3.cell? ⟨y, 3, none⟩ = some (.string ⟨#[]⟩) := (cell_of_row _ _ 3 _ _ _ HX3.out).trans rfl
        go_wp2_with fail
        refine (HRP.out w3 HS3.out (lt_of_block HX3.out)).mono ?_
        rintro e w4 ⟨s1, s2, s3, s4, s5, s6, rfl, hh, hb⟩
        have HX4 := Lib.hid (blk_below HX3.out hb)
        have HS4 := Lib.hid hh
        have HB4 := Lib.hid (HB3.out.trans (hb.mono (Nat.le_of_lt (lt_of_block HX3.out))))
        clear hh hb c0' c1' c2' c3' HX3 HS3 HB3
        go_wp2_with (refine wpList_store_rowY rfl 29 (.tmp 14) (.tmp 90) rfl y #[.slice s1 s2 s3, .slice s4 s5 s6, .string ⟨#[]⟩, .string ⟨#[]⟩] rfl rfl 29 _ HX4.out (info_rs) rfl (by simp [Value.oneCell']) y v HB4.out (Nat.le_refl _) ?_)
        intro w6 hbk hoth hbel _
        have HX6 := Lib.hid hbk.out
        have HS6 := Lib.hid (HS4.out.blocks (fun b _ h2 => hoth.out b (by omega)) (size_oth hoth.out (lt_of_block hbk.out)))
        have HB6 := Lib.hid hbel.out
        clear hbk hoth hbel HX4 HS4 HB4
        go_wp2_with fail
        go_roundw
        case rel => exact ⟨j + 1, s1, s2, s3, s4, s5, s6, by go_num, by omega, HX6.out, HS6.out, HB6.out⟩
        case measure => simp [intOf] <;> omega
      | false =>
        have HT2 := Lib.hid (show onO (L.take (j + 1)) = onO (L.take j) by rw [HTK.out]; simp [hv])
        rw [hv] at HEV
        clear hv HPN HTK HPO HXM HRP
        generalize nmS u = N at *
        go_wp2_with fail
        refine (HU.out wr).mono ?_
        rintro e w3 ⟨rfl, hb⟩
        have HX3 := Lib.hid (blk_below HX.out hb)
        have HS3 := Lib.hid (HS.out.below hb)
        have HB3 := Lib.hid (HB.out.trans (hb.mono (Nat.le_of_lt (lt_of_block HX.out))))
        clear hb gT
        go_wp2_with fail
        refine (HEV.out w3).mono ?_
        rintro e w' ⟨rfl, rfl⟩
        go_wp2_with fail
        go_roundw
        case rel => exact ⟨j + 1, r1, r2, r3, r4, r5, r6, by go_num, by omega, HX3.out, by rw [HT2.out]; exact HS3.out, HB3.out⟩
        case measure => simp [intOf] <;> omega
    · have hd1 : decide ((j : Int) < (L.length : Int)) = false := decide_eq_false (by omega)
      obtain rfl : j = L.length := by omega
      have HSF := Lib.hid (show ShR (fun b => y < b) (onO L) r1 r2 r3 r4 r5 r6 wr by have := HS.out; rwa [List.take_of_length_le (Nat.le_refl _)] at this)
      have HQ1 := Lib.hid (HQ0.out.kept (by rw [← HY.out]; exact HB.out))
      go_upto_region 17 with (fail)
      have HX1 := Lib.hid (show wr.drew.heap[y]? = some (.cells #[.slice r1 r2 r3, .slice r4 r5 r6, .string ⟨#[]⟩, .string ⟨#[]⟩] 29 (0, 0)) from HX.out)
      have HS1 := Lib.hid (HSF.out.below (Below.refl _ _).drew)
      have HQ1 := Lib.hid HQ1.out.drew
      refine wp_region_L_drew (S := fun _ W => W.heap[y]? = some (.cells #[.slice r1 r2 r3, .slice r4 r5 r6, .string ⟨#[]⟩, .string ⟨#[]⟩] 29 (0, 0))) (by kernel_rfl) HX1.out (fun hS hC => ?_)
      generalize wr.drew = v1 at *
      refine wpAnyL_take (i := 0) (oi := { dst := some 94, op := .move (.tmp 0), type := _, pos := _, after := _, guard := none }) (v := ?_) rfl (by kernel_rfl) (by kernel_rfl) (by kernel_rfl) (fun _ _ _ h => h) (fun _ _ => Iff.rfl) hC (Or.inl ⟨by rfl, ?_⟩) hS (fun hC hS => ?_)
      rotate_left
      · intro W9 hSw; skip; go_simp; try (with_reducible rfl)
      try simp only [Act.put, List.setIfInBounds_toArray, List.set_cons_zero, List.set_cons_succ]
      refine wpAnyL_take (i := 2) (oi := { dst := some 96, op := .load 29 (.tmp 14), type := _, pos := _, after := _, guard := none }) (v := ?_) rfl (by kernel_rfl) (by kernel_rfl) (by kernel_rfl) (fun _ _ _ h => h) (fun _ _ => Iff.rfl) hC (Or.inl ⟨by rfl, ?_⟩) hS (fun hC hS => ?_)
      rotate_left
      · intro W9 hSw; have q0 := (cell_of_row _ _ 0 _ _ _ (hSw.choose_spec.2.2)).trans rfl; have q1 := (cell_of_row _ _ 1 _ _ _ (hSw.choose_spec.2.2)).trans rfl; have q2 := (cell_of_row _ _ 2 _ _ _ (hSw.choose_spec.2.2)).trans rfl; have q3 := (cell_of_row _ _ 3 _ _ _ (hSw.choose_spec.2.2)).trans rfl; go_simp; try (with_reducible rfl)
      try simp only [Act.put, List.setIfInBounds_toArray, List.set_cons_zero, List.set_cons_succ]
      refine wpAnyL_ready (rs := [1]) (by kernel_rfl) (by simp) hC ?_
      refine AllReadyL.cons (o := { dst := some 95, op := .call { callee := .value (.func 27), args := #[.tmp 94, (.func 28)], argTypes := #[25, 38] }, type := _, pos := _, after := _, guard := none }) rfl (fun K9 hK => ?_) ?_
      · skip
        go_simp
        refine (sonly_any n w0 D L c0 c1 k v1 HQ1.out.sw HI.out.nd HI.out.nm (by have := HLL.out; omega)).mono ?_
        rintro e v2 ⟨D2, rfl, hs2, hs⟩
        have HX2 := Lib.hid (blk_below HX1.out hs2.bel)
        have HQ2 := Lib.hid (HQ1.out.kept hs2.bel)
        have HS1b := Lib.hid (ShR.imp (P' := fun b => y < b ∧ b < v1.heap.size) HS1.out (fun b h1 h2 => ⟨h2, h1⟩))
        have HS2 := Lib.hid (ShR.imp (P' := fun b => ¬ InS D2 v2 b ∧ b ≠ w.heap.size + 2 ∧ Q b) (HS1b.out.below hs2.bel) (fun b _ h2 => ⟨fun q => absurd (hs2.far b q) (by omega), by have := HYW.out; omega, HQQ.out b (by have := HYW.out; omega)⟩))
        have HW2 := Lib.hid (hs2.lift rfl HQ1.out.sw.bel HQ1.out.sw.sz)
        have HNI := Lib.hid (show ¬ InS D2 v2 (w.heap.size + 2) from fun q => absurd (hs2.far _ q) (by have := HQ1.out.lt; omega))
        have HNW2 := Lib.hid (fun b (q : InS D2 v2 b) => show w.heap.size ≤ b from Nat.le_trans HQ1.out.ks.size (hs2.far b q))
        have HNY := Lib.hid (show y ≠ w.heap.size + 2 from by have := HYW.out; omega)
        clear hs hs2 HS1 HS1b
        refine hK _ _ HX2.out (fun hC => ?_)
        clear hK K9
        try simp only [Act.put, List.setIfInBounds_toArray, List.set_cons_zero, List.set_cons_succ]
        refine wpAnyL_take (i := 3) (oi := { dst := some 6, op := .assign (.tmp 95), type := _, pos := _, after := _, guard := none }) (v := ?_) rfl (by kernel_rfl) (by kernel_rfl) (by kernel_rfl) (fun _ _ _ h => h) (fun _ _ => Iff.rfl) hC (Or.inl ⟨by rfl, ?_⟩) HX2.out (fun hC hS => ?_)
        rotate_left
        · intro W9 hSw; skip; go_simp; try (with_reducible rfl)
        try simp only [Act.put, List.setIfInBounds_toArray, List.set_cons_zero, List.set_cons_succ]
        refine wpAnyL_ready (rs := [4]) (by kernel_rfl) (by simp) hC ?_
        refine AllReadyL.cons (o := { dst := none, op := .store 29 (.tmp 7) (.tmp 96), type := _, pos := _, after := _, guard := none }) rfl (fun K9 hK => ?_) ?_
        · skip
          have y0 : (v2).cell? ⟨w.heap.size + 2, 0, none⟩ = some (.slice none 0 0) := (cell_of_row _ _ 0 _ _ _ HQ2.out.b2).trans rfl
          have y1 : (v2).cell? ⟨w.heap.size + 2, 1, none⟩ = some (.slice none 0 0) := (cell_of_row _ _ 1 _ _ _ HQ2.out.b2).trans rfl
          have y2 : (v2).cell? ⟨w.heap.size + 2, 2, none⟩ = some (.string ⟨#[]⟩) := (cell_of_row _ _ 2 _ _ _ HQ2.out.b2).trans rfl
          have y3 : (v2).cell? ⟨w.heap.size + 2, 3, none⟩ = some (.string ⟨#[]⟩) := (cell_of_row _ _ 3 _ _ _ HQ2.out.b2).trans rfl
          have f0 : (v2).frozen? ⟨w.heap.size + 2, 0, none⟩ = false := frozen_of_row _ _ _ _ _ HQ2.out.b2
          have f1 : (v2).frozen? ⟨w.heap.size + 2, 1, none⟩ = false := frozen_of_row _ _ _ _ _ HQ2.out.b2
          have f2 : (v2).frozen? ⟨w.heap.size + 2, 2, none⟩ = false := frozen_of_row _ _ _ _ _ HQ2.out.b2
          have f3 : (v2).frozen? ⟨w.heap.size + 2, 3, none⟩ = false := frozen_of_row _ _ _ _ _ HQ2.out.b2
          go_simp
          have HK5 := Lib.hid (set4_kk v2 (w.heap.size + 2) (.slice r1 r2 r3) (.slice r4 r5 r6) (.string ⟨#[]⟩) (.string ⟨#[]⟩))
          have HW5 := Lib.hid (HW2.out.oth HK5.out HNI.out (by have := HSN.out; omega))
          have HD5 := Lib.hid (HK5.out.block D2 HW2.out.sk.lt (fun e => HNI.out (by obtain rfl : D2 = w.heap.size + 2 := (by simpa using e); exact .inl rfl)))
          have HS5 := Lib.hid (ShD.put HS2.out HK5.out (fun b z => z.1) HD5.out)
          have HZ5 := Lib.hid (set4_box HQ2.out.b2 (.slice r1 r2 r3) (.slice r4 r5 r6) (.string ⟨#[]⟩) (.string ⟨#[]⟩))
          have HX5 := Lib.hid (HK5.out.blk HX2.out (by simpa using HNY.out))
          have HFR := Lib.hid ((HQ2.out.ks.setNew HK5.out (by omega) HQ2.out.dl).fr)
          have HF2 := Lib.hid (fun b (q : InS D2 _ b) => HNW2.out b (InS.eq HD5.out q))
          clear y0 y1 y2 y3 f0 f1 f2 f3
          refine hK _ _ HX5.out (fun hC => ?_)
          clear hK K9
          try simp only [Act.put, List.setIfInBounds_toArray, List.set_cons_zero, List.set_cons_succ]
          refine wpAnyL_take (i := 5) (oi := { dst := some 8, op := .assign (.const (.bool true)), type := _, pos := _, after := _, guard := none }) (v := ?_) rfl (by kernel_rfl) (by kernel_rfl) (by kernel_rfl) (fun _ _ _ h => h) (fun _ _ => Iff.rfl) hC (Or.inl ⟨by rfl, ?_⟩) HX5.out (fun hC hS => ?_)
          rotate_left
          · intro W9 hSw; skip; go_simp; try (with_reducible rfl)
          try simp only [Act.put, List.setIfInBounds_toArray, List.set_cons_zero, List.set_cons_succ]
          refine wpAnyL_done (by kernel_rfl) ?_ _
          clear hS hC
          go_wp2_with fail
          refine bodyPost_ret (results_tct rfl _ _ (w.heap.size + 2) #[.slice r1 r2 r3, .slice r4 r5 r6, .string ⟨#[]⟩, .string ⟨#[]⟩] rfl (run_loadVar_row _ (w.heap.size + 2) 29 29 _ (0, 0) _ HZ5.out Tryd.underlying29 rfl (by kernel_rfl))) rfl ?_
          exact ⟨D2, r1, r2, r3, r4, r5, r6, rfl, HW5.out, ShR.imp HS5.out (fun b _ z => ⟨z.1, z.2.2⟩), HFR.out.fr2 HF2.out⟩
        exact AllReadyL.nil
      exact AllReadyL.nil
/-- what there is behind an act -/
def actL (L : List Ob) (kd nn : Int) (t : ByteArray) : List Ob := if kd = 1 then putL L t else if kd = 2 then cutL L nn else onO L
def actA (L : List Ob) (c0 c1 : ByteArray) (kd : Int) (t : ByteArray) : ByteArray := if kd = 1 then putA L c0 c1 t else if kd = 2 then c0 else ⟨#[]⟩
def actB (L : List Ob) (c0 c1 : ByteArray) (kd : Int) (t : ByteArray) : ByteArray := if kd = 1 then putB L c0 c1 t else if kd = 2 then c1 else ⟨#[]⟩
theorem Inv.act {L : List Ob} {c0 c1 : ByteArray} (h : Inv L c0 c1) (kd nn : Int) (t : ByteArray) : Inv (actL L kd nn t) (actA L c0 c1 kd t) (actB L c0 c1 kd t) ∧ (actL L kd nn t).length ≤ L.length + 1 := by
  unfold actL actA actB
  by_cases h1 : kd = 1
  · rw [if_pos h1, if_pos h1, if_pos h1]
    exact h.put t
  rw [if_neg h1, if_neg h1, if_neg h1]
  by_cases h2 : kd = 2
  · rw [if_pos h2, if_pos h2, if_pos h2]
    exact ⟨h.cut nn, by have := cutL_len L nn; omega⟩
  rw [if_neg h2, if_neg h2, if_neg h2]
  exact ⟨h.only, by have := onO_len L; omega⟩
/-- any act -/
theorem does_anyS (n : Nat) (w0 : World) (Q : Nat → Prop) (D : Nat) (L : List Ob) (c0 c1 : ByteArray) (k : Nat) (kd nn : Int) (t : ByteArray) (ta : Option Addr) (tn tc : Nat) (sa : Option Addr) (sn sc : Nat) (w : World) (h : SW n w0 D L c0 c1 k w) (hr : ShR (fun b => ¬ InS D w b ∧ Q b) L ta tn tc sa sn sc w) (hQ : ∀ b, w.heap.size ≤ b → Q b) (hi : Inv L c0 c1) (hl : L.length ≤ 40000) (hk : k < 900000) (hT : HTab w0) (hn : w0.heap.size ≤ n) :
    Calls Tryd.prog 12 #[.pointer (some ⟨D, 0, none⟩), rsv ta tn tc sa sn sc c0 c1, actv kd nn t] w (RetDoes n w0 Q D (actL L kd nn t) (actA L c0 c1 kd t) (actB L c0 c1 kd t) (k + 1 + L.length) w) := by
  have up : ∀ {L' : List Ob} {d0 d1 : ByteArray} {k' : Nat}, k' ≤ k + 1 + L.length → ∀ e w', RetDoes n w0 Q D L' d0 d1 k' w e w' → RetDoes n w0 Q D L' d0 d1 (k + 1 + L.length) w e w' := fun hk' e w' ⟨D, ta, tn, tc, sa, sn, sc, q1, q2, q3⟩ => ⟨D, ta, tn, tc, sa, sn, sc, q1, q2.le hk', q3⟩
  unfold actL actA actB
  by_cases h1 : kd = 1
  · rw [if_pos h1, if_pos h1, if_pos h1]
    exact (does_put n w0 Q D L c0 c1 k kd nn t ta tn tc sa sn sc w h hr hQ hi hl hk hT hn h1).mono (up (by omega))
  rw [if_neg h1, if_neg h1, if_neg h1]
  by_cases h2 : kd = 2
  · rw [if_pos h2, if_pos h2, if_pos h2]
    by_cases h3 : 0 ≤ nn ∧ nn ≤ (L.length : Int)
    · exact (does_cut n w0 Q D L c0 c1 k kd nn t ta tn tc sa sn sc w h hr hQ hi hl hk hT hn h2 h3).mono (up (by omega))
    · exact (does_bad n w0 Q D L c0 c1 k kd nn t ta tn tc sa sn sc w h hr hQ hi hl hk hT hn h2 (by omega)).mono (up (by omega))
  rw [if_neg h2, if_neg h2, if_neg h2]
  exact (does_only n w0 Q D L c0 c1 k kd nn t ta tn tc sa sn sc w h hr hQ hi hl hk hT hn ⟨h1, h2⟩).mono (up (by omega))
end Go.Proofs.YtpjpegmjcgkonaaDoor

namespace Go.Proofs.YtpjpegmjcgkonaaDoor
open Go.RowKit Vi Hm

theorem get_one (t : ByteArray) : getO [(nmS t, t)] (nmS t) = some t := by simp [getO]
theorem aw16 : getO [] (nmS ⟨#[97]⟩) = none := rfl
set_option maxRecDepth 100000 in
set_option maxHeartbeats 2000000 in
theorem awake16_any (w : World) (hT : HTab w) : Calls Tryd.prog 10 #[] w fun e w' => e = .returned (.bool true) ∧ Below w.heap.size w w' := by
  have HT := Lib.hid hT
  clear hT
  obtain ⟨t, ht⟩ : ∃ t : ByteArray, t = ⟨#[97]⟩ := ⟨_, rfl⟩
  have P1 := Lib.hid (put_none (L := []) (t := ⟨#[97]⟩) (by decide) (by decide) rfl ⟨#[]⟩ ⟨#[]⟩)
  have P2 := Lib.hid (put_same (L := [(nmS ⟨#[97]⟩, ⟨#[97]⟩)]) (t := ⟨#[97]⟩) (by decide) (by decide) (get_one _) ⟨#[]⟩ ⟨#[]⟩)
  go_enter Tryd.func10, Tryd.ntmps10
  go_wp2_with fail
  refine (snew_any w).mono ?_
  rintro e w1 hr
  obtain ⟨D, rfl, h1⟩ := NewS.sw (Below.refl _ w) hr
  have H1 := Lib.hid h1
  clear h1 hr
  go_wp2_with fail
  refine (sputT_any _ _ D _ _ _ 0 _ w1 H1.out HT.out (Nat.le_refl _) (by decide) (by decide)).mono ?_
  rintro e w2 ⟨rfl, h2, -⟩
  rw [P1.out.1, P1.out.2.1]
  rw [P1.out.2.2.1, P1.out.2.2.2.1, P1.out.2.2.2.2] at h2
  have H2 := Lib.hid h2
  clear h2 H1
  go_wp2_with fail
  refine (sputT_any _ _ D _ _ _ 1 _ w2 H2.out HT.out (Nat.le_refl _) (by decide) (by decide)).mono ?_
  rintro e w3 ⟨rfl, h3, -⟩
  rw [show ([] : List Ob) ++ [(nmS ⟨#[97]⟩, ⟨#[97]⟩)] = [(nmS ⟨#[97]⟩, ⟨#[97]⟩)] from rfl] at h3 ⊢
  rw [P2.out.1, P2.out.2.1]
  rw [P2.out.2.2.1, P2.out.2.2.2.1, P2.out.2.2.2.2] at h3
  have H3 := Lib.hid h3
  clear h3 H2
  obtain ⟨N, hN⟩ : ∃ N, N = nmS ⟨#[97]⟩ := ⟨_, rfl⟩
  have HN := Lib.hid hN
  rw [← hN]
  clear hN P1 P2 ht
  go_wp2_with fail
  refine (slen_any D _ _ _ _ w3 H3.out.sk).mono ?_
  rintro e w4 ⟨rfl, rfl⟩
  go_wp2_with fail
  refine (rsum_any ⟨#[97]⟩ w3 (by decide)).mono ?_
  rintro e w5 ⟨rfl, hb⟩
  have H5 := Lib.hid (H3.out.below hb)
  clear hb
  rw [show (⟨(Hm.sum (⟨#[97]⟩ : ByteArray).data.toList).toArray⟩ : ByteArray) = N from HN.out.symm]
  go_wp2_with fail
  go_ret
  exact ⟨rfl, H5.out.bel⟩
theorem nsonly {p : Option Addr} {w : World} (h : NoSh p w) (f : Value) : Calls Tryd.prog 27 #[.pointer p, f] w fun e w' => e = .returned (.pointer none) ∧ Below w.heap.size w w' := by
  have HR := Lib.hid (nsmade h)
  clear h
  go_enter Tryd.func27, Tryd.ntmps27
  go_wp2_with fail
  refine HR.out.mono ?_
  rintro e w' ⟨rfl, rfl⟩
  go_wp2_with fail
  go_ret
  exact ⟨rfl, Below.refl _ _⟩
end Go.Proofs.YtpjpegmjcgkonaaDoor

namespace Go.Proofs.YtpjpegmjcgkonaaDoor
open Go.RowKit Vi Hm

abbrev Aq := Int × Int × ByteArray
def acQ (x : Aq) : List Value := [.int .i64 x.1, .int .i64 x.2.1, .string x.2.2]
theorem acQ_len (x : Aq) : (acQ x).length = 3 := rfl
def FewQ (n : Nat) (w : World) (e : Ending) (w' : World) : Prop := ∃ b : Bool, e = .returned (.bool b) ∧ (b = true → n ≤ 40) ∧ w = w'
set_option maxRecDepth 100000 in
set_option maxHeartbeats 2000000 in
theorem few16_any (A : Option Addr) (n c : Nat) (l : List Aq) (w : World) (h : RdX acQ 3 w A n l) (hm : n ≤ maxLen) (hz : ∀ x ∈ l, x.2.2.size ≤ maxLen) :
    Calls Tryd.prog 9 #[.slice A n c] w (FewQ n w) := by
  have H := Lib.hid h
  have HZ := Lib.hid hz
  have hmI : (n : Int) ≤ 9223372036854775807 := by unfold maxLen at hm; omega
  clear h hz hm
  go_enter Tryd.func9, Tryd.ntmps9
  go_wp2_with fail
  go_loop [3, 4] (fun s i => ∃ (k : Nat) (z : Int), s = .int .i64 z ∧ i = .int .i64 (k : Int) ∧ k ≤ n ∧ k ≤ 41 ∧ 0 ≤ z ∧ z ≤ 10000 * (k : Int)) (fun _ i => 41 - (intOf i).toNat)
  case atStart => exact ⟨0, 0, rfl, rfl, Nat.zero_le _, Nat.zero_le _, by omega, by omega⟩
  case round =>
    obtain ⟨k, z, rfl, rfl, hk, hk4, hz0, hz1⟩ := hrel
    by_cases hlt : k < n
    · have hd1 : decide ((k : Int) < (n : Int)) = true := decide_eq_true (by omega)
      have hi0 : (0 : Int) ≤ (k : Int) := by omega
      by_cases h40 : k ≤ 40
      · have hd2 : decide ((k : Int) ≤ 40) = true := decide_eq_true (by omega)
        have hd2b : decide (k ≤ 40) = true := decide_eq_true h40
        obtain ⟨b, off, hl, rfl, hb, hc⟩ := H.out.at hlt
        have g2 := hc 2 (.string (l[k]'hl).2.2) rfl
        have hts := HZ.out _ (List.getElem_mem hl)
        obtain ⟨t, ht⟩ : ∃ t, t = (l[k]'hl).2.2 := ⟨_, rfl⟩
        rw [← ht] at g2 hts
        have htI : (t.size : Int) ≤ 9223372036854775807 := by unfold maxLen at hts; omega
        have hs1 : IntKind.i64.wrap (z + min (t.size : Int) 10000) = z + min (t.size : Int) 10000 := IntWalk.i64_in _ (by omega)
        have hs2 : IntKind.i64.wrap ((k : Int) + 1) = (k : Int) + 1 := IntWalk.i64_in _ (by omega)
        have HZZ := Lib.hid (show 0 ≤ z + min (t.size : Int) 10000 ∧ z + min (t.size : Int) 10000 ≤ 10000 * ((k + 1 : Nat) : Int) by omega)
        clear hc hb ht hts hl
        go_wp2_with fail
        go_round
        case rel => exact ⟨k + 1, z + min (t.size : Int) 10000, rfl, by go_num, by omega, by omega, HZZ.out.1, HZZ.out.2⟩
        case measure => simp [intOf] <;> omega
      · have hd2 : decide ((k : Int) ≤ 40) = false := decide_eq_false (by omega)
        have hd2b : decide (k ≤ 40) = false := decide_eq_false h40
        have hd3 : decide ((n : Int) ≤ 40) = false := decide_eq_false (by omega)
        have hd4 : decide (n ≤ 40) = false := decide_eq_false (by omega)
        go_wp2_with fail
        go_ret
        exact ⟨false, rfl, fun h => (by cases h), rfl⟩
    · have hd1 : decide ((k : Int) < (n : Int)) = false := decide_eq_false (by omega)
      obtain rfl : k = n := by omega
      by_cases h40 : k ≤ 40
      · have hd3 : decide ((k : Int) ≤ 40) = true := decide_eq_true (by omega)
        have hd4 : decide (k ≤ 40) = true := decide_eq_true h40
        obtain ⟨q, hq⟩ : ∃ q, q = decide (z ≤ 4000) := ⟨_, rfl⟩
        have hq2 := hq.symm
        clear hq
        go_wp2_with fail
        go_ret
        exact ⟨q, rfl, fun _ => h40, rfl⟩
      · have hd3 : decide ((k : Int) ≤ 40) = false := decide_eq_false (by omega)
        have hd4 : decide (k ≤ 40) = false := decide_eq_false h40
        go_wp2_with fail
        go_ret
        exact ⟨false, rfl, fun h => (by cases h), rfl⟩
/-- a shelf and the document's box between acts -/
structure Sq (w : World) (y D : Nat) (L : List Ob) (c0 c1 : ByteArray) (k : Nat) (ta : Option Addr) (tn tc : Nat) (sa : Option Addr) (sn sc : Nat) (W : World) : Prop where
  sw : SW w.heap.size w D L c0 c1 k W
  bx : W.heap[y]? = some (.cells #[.slice ta tn tc, .slice sa sn sc, .string c0, .string c1] 29 (0, 0))
  ny : ¬ InS D W y
  rs : ShR (fun b => ¬ InS D W b ∧ b ≠ y) L ta tn tc sa sn sc W
section
variable {w : World} {y D : Nat} {L : List Ob} {c0 c1 : ByteArray} {k : Nat} {ta : Option Addr} {tn tc : Nat} {sa : Option Addr} {sn sc : Nat} {W W' : World}
theorem Sq.kept (h : Sq w y D L c0 c1 k ta tn tc sa sn sc W) (hb : Below W.heap.size W W') : Sq w y D L c0 c1 k ta tn tc sa sn sc W' :=
  ⟨h.sw.below hb, blk_below h.bx hb, fun q => h.ny (q.back hb h.sw.sk.lt), (h.rs.below hb).imp fun _ _ q => ⟨fun z => q.1 (z.back hb h.sw.sk.lt), q.2⟩⟩
theorem Sq.cells (h : Sq w y D L c0 c1 k ta tn tc sa sn sc W) : W.cell? ⟨y, 0, none⟩ = some (.slice ta tn tc) ∧ W.cell? ⟨y, 1, none⟩ = some (.slice sa sn sc) ∧ W.cell? ⟨y, 2, none⟩ = some (.string c0) ∧ W.cell? ⟨y, 3, none⟩ = some (.string c1) :=
  ⟨(cell_of_row _ _ 0 _ _ _ h.bx).trans rfl, (cell_of_row _ _ 1 _ _ _ h.bx).trans rfl, (cell_of_row _ _ 2 _ _ _ h.bx).trans rfl, (cell_of_row _ _ 3 _ _ _ h.bx).trans rfl⟩
end
theorem RetDoes.sq {w : World} {y D : Nat} {L L' : List Ob} {c0 c1 d0 d1 : ByteArray} {k k' : Nat} {ta : Option Addr} {tn tc : Nat} {sa : Option Addr} {sn sc : Nat} {W W' : World} {e : Ending} (h : Sq w y D L c0 c1 k ta tn tc sa sn sc W) (q : RetDoes w.heap.size w (fun b => b ≠ y) D L' d0 d1 k' W e W') :
    ∃ D2 r1 r2 r3 r4 r5 r6, e = .returned (.tuple #[.pointer (some ⟨D2, 0, none⟩), rsv r1 r2 r3 r4 r5 r6 d0 d1, .bool true]) ∧ SW w.heap.size w D2 L' d0 d1 k' W' ∧ ShR (fun b => ¬ InS D2 W' b ∧ b ≠ y) L' r1 r2 r3 r4 r5 r6 W' ∧ W'.heap[y]? = some (.cells #[.slice ta tn tc, .slice sa sn sc, .string c0, .string c1] 29 (0, 0)) ∧ ¬ InS D2 W' y := by
  obtain ⟨D2, r1, r2, r3, r4, r5, r6, h1, h2, h3, h4⟩ := q
  have hy := lt_of_block h.bx
  exact ⟨D2, r1, r2, r3, r4, r5, r6, h1, h2, h3, (h4.block y hy h.ny).trans h.bx, fun z => h.ny (h4.ind y hy z)⟩
/-- the document's box is stored -/
theorem Sq.put {w : World} {y D : Nat} {L : List Ob} {d0 d1 : ByteArray} {k : Nat} {r1 : Option Addr} {r2 r3 : Nat} {r4 : Option Addr} {r5 r6 : Nat} {W W' : World} (hs : SW w.heap.size w D L d0 d1 k W) (hr : ShR (fun b => ¬ InS D W b ∧ b ≠ y) L r1 r2 r3 r4 r5 r6 W) (hy : ¬ InS D W y)
    (hbk : W'.heap[y]? = some (.cells #[.slice r1 r2 r3, .slice r4 r5 r6, .string d0, .string d1] 29 (0, 0))) (ho : ∀ b, b ≠ y → W'.heap[b]? = W.heap[b]?) (hb : Below w.heap.size w W') : Sq w y D L d0 d1 k r1 r2 r3 r4 r5 r6 W' := by
  have hsz := size_oth ho (lt_of_block hbk)
  have hD : W'.heap[D]? = W.heap[D]? := ho D (fun e => hy (by subst e; exact .inl rfl))
  refine ⟨⟨hs.sk.oth (fun b z => ho b (fun e => hy (by subst e; exact z))), fun b z => hs.far b (InS.eq hD z), hb, Nat.le_trans hs.sz hsz⟩, hbk, fun z => hy (InS.eq hD z), (hr.blocks (fun b _ h2 => ho b h2.2) hsz).imp fun _ _ z => ⟨fun q => z.1 (InS.eq hD q), z.2⟩⟩
theorem SW.frame {w W : World} {D : Nat} {L : List Ob} {c0 c1 : ByteArray} {k : Nat} (h : SW w.heap.size w D L c0 c1 k W) : Below w.heap.size w W := h.bel
end Go.Proofs.YtpjpegmjcgkonaaDoor
