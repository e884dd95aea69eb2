/- Several texts of one family, merged for a claim. Conditions as in its parts. -/
import Derived.Test.YtiflieaemgamkaaDoorYSFp
import Derived.Test.YtiflieaemgamkaaDoorG6
import Derived.Test.YtiflieaemgamkaaDoorG2
import Derived.Test.YtiflieaemgamkaaDoorG0
namespace Go.Proofs.YtiflieaemgamkaaDoor
open Go.RowKit Vi

set_option maxRecDepth 100000 in
set_option maxHeartbeats 2000000 in
theorem rsget_any (P : Nat → Prop) (L : List Ob) (c0 c1 s : ByteArray) (ta : Option Addr) (tn tc : Nat) (sa : Option Addr) (sn sc : Nat) (w : World) (h : ShR P L ta tn tc sa sn sc w) (hl : L.length ≤ 40000) :
    Calls Tryd.prog 33 #[rsv ta tn tc sa sn sc c0 c1, .string s] w fun e w' => e = .returned (.tuple #[.string ((getO L s).getD ⟨#[]⟩), .bool (getO L s).isSome]) ∧ Below w.heap.size w w' := by
  obtain rfl := h.tn_eq
  obtain rfl := h.sn_eq
  have HH := Lib.hid h
  have htI : (L.length : Int) ≤ 9223372036854775807 := by omega
  clear h
  have HB1 := Lib.hid (Below.refl w.heap.size w)
  have HF2 := Lib.hid (blk_new w (.cells #[.slice ta L.length tc, .slice sa L.length sc, .string c0, .string c1] 28 (0, 0)))
  have HB3 := Lib.hid (HB1.out.alloc HB1.out.size (.cells #[.slice ta L.length tc, .slice sa L.length sc, .string c0, .string c1] 28 (0, 0)))
  clear HB1
  obtain ⟨v, hv⟩ : ∃ v, v = (w.alloc (.cells #[.slice ta L.length tc, .slice sa L.length sc, .string c0, .string c1] 28 (0, 0))) := ⟨_, rfl⟩
  have HVv := Lib.hid hv
  rw [← hv] at HF2 HB3
  clear hv
  go_enter Tryd.func33, Tryd.ntmps33
  go_upto_region 1 with (fail)
  rw [← HVv.out]
  go_wp2_with fail
  have hc4 : v.cell? ⟨w.heap.size, 0, none⟩ = some (.slice ta L.length tc) := by rw [cell_of_row _ _ _ _ _ _ HF2.out]; rfl
  have hc5 : v.cell? ⟨w.heap.size, 1, none⟩ = some (.slice sa L.length sc) := by rw [cell_of_row _ _ _ _ _ _ HF2.out]; rfl
  go_loop [6] (fun i => ∃ j : Nat, i = .int .i64 (j : Int) ∧ j ≤ L.length ∧ ∀ y ∈ L.take j, y.1 ≠ s) (fun i => L.length - (intOf i).toNat)
  case atStart => exact ⟨0, rfl, Nat.zero_le _, by simp⟩
  case round =>
    obtain ⟨j, rfl, hj, hne⟩ := hrel
    have HNE := Lib.hid hne
    clear hne
    by_cases hlt : j < L.length
    · skip
      have hd1 : decide ((j : Int) < (L.length : Int)) = true := decide_eq_true (by omega)
      have hi0 : (0 : Int) ≤ (j : Int) := by omega
      have hs1 : IntKind.i64.wrap ((j : Int) + 1) = (j : Int) + 1 := IntWalk.i64_in _ (by omega)
      obtain ⟨x, hx⟩ : ∃ x, L[j]? = some x := ⟨_, List.getElem?_eq_getElem hlt⟩
      have HX := Lib.hid hx
      obtain ⟨bT, oT, eT, _, hcT⟩ := (HH.out.below HB3.out).t.2 (by omega)
      have gT : v.cell? ⟨bT, oT + j, none⟩ = some (.string x.2) := by have q := hcT j x.2 0 (.string x.2) (by rw [List.getElem?_map, hx]; rfl) rfl; simpa using q
      subst eT
      clear hcT
      obtain ⟨bS, oS, eS, _, hcS⟩ := (HH.out.below HB3.out).s.2 (by omega)
      have gS : v.cell? ⟨bS, oS + j, none⟩ = some (.string x.1) := by have q := hcS j x.1 0 (.string x.1) (by rw [List.getElem?_map, hx]; rfl) rfl; simpa using q
      subst eS
      clear hcS
      clear hx
      obtain ⟨n, u⟩ := x
      by_cases hs : n = s
      · skip
        subst hs
        have HG := Lib.hid (get_at HX.out rfl HNE.out)
        obtain ⟨r1, r2⟩ := beq_same n
        go_wp2_with fail
        go_ret2
        exact ⟨by rw [HG.out]; rfl, HB3.out⟩
      · skip
        obtain ⟨r1, r2⟩ := beq_ne hs
        have HNE2 := Lib.hid (show ∀ y ∈ L.take (j + 1), y.1 ≠ s from fun y hy => by
          obtain ⟨hj2, hx2⟩ := List.getElem?_eq_some_iff.1 HX.out
          rw [List.take_succ_eq_append_getElem hj2, hx2] at hy
          rcases List.mem_append.1 hy with q | q
          · exact HNE.out y q
          · obtain rfl : y = (n, u) := by simpa using q
            exact hs)
        clear hs
        go_wp2_with fail
        go_round
        case rel => exact ⟨j + 1, by go_num, by omega, HNE2.out⟩
        case measure => simp [intOf] <;> omega
    · skip
      obtain rfl : j = L.length := by omega
      have hd1 : decide ((L.length : Int) < (L.length : Int)) = false := decide_eq_false (by omega)
      have HG := Lib.hid (get_end (fun y hy => HNE.out y (by rw [List.take_of_length_le (Nat.le_refl _)]; exact hy)))
      go_wp2_with fail
      go_ret2
      exact ⟨by rw [HG.out]; rfl, HB3.out⟩

theorem get_memC {L : List Ob} {s u : ByteArray} (h : getO L s = some u) : ∃ x ∈ L, x.2 = u := by
  unfold getO at h
  rw [Option.map_eq_some_iff] at h
  obtain ⟨x, hx, rfl⟩ := h
  exact ⟨x, List.mem_of_find?_eq_some hx, rfl⟩
theorem iv_put {L : List Ob} {c0 c1 : ByteArray} (h : LI L) (hc : CI c0 c1) (t : ByteArray) : LI (putL L t) ∧ CI (putA L c0 c1 t) (putB L c0 c1 t) ∧ (putL L t).length ≤ L.length + 1 := by
  by_cases h0 : t.size = 0
  · obtain ⟨p1, p2, p3, p4, p5⟩ := put_bad (L := L) (x := 2) (.inl ⟨h0, rfl⟩) c0 c1
    rw [p3, p4, p5]
    exact ⟨h, hc, by omega⟩
  by_cases h1 : 65536 < t.size
  · obtain ⟨p1, p2, p3, p4, p5⟩ := put_bad (L := L) (x := 5) (.inr ⟨h0, h1, rfl⟩) c0 c1
    rw [p3, p4, p5]
    exact ⟨h, hc, by omega⟩
  cases hg : getO L (nmS t) with
  | none =>
    obtain ⟨p1, p2, p3, p4, p5⟩ := put_none h0 h1 hg c0 c1
    rw [p3, p4, p5]
    refine ⟨fun x hx => ?_, hc, by simp⟩
    rcases List.mem_append.1 hx with q | q
    · exact h x q
    · obtain rfl : x = (nmS t, t) := by simpa using q
      exact ⟨rfl, h0, Nat.le_of_not_lt h1⟩
  | some u =>
    by_cases hu : u = t
    · subst hu
      obtain ⟨p1, p2, p3, p4, p5⟩ := put_same h0 h1 hg c0 c1
      rw [p3, p4, p5]
      exact ⟨h, hc, by omega⟩
    · obtain ⟨p1, p2, p3, p4, p5⟩ := put_clash h0 h1 hg hu c0 c1
      rw [p3, p4, p5]
      refine ⟨h, ?_, by omega⟩
      obtain ⟨x, hx, e2⟩ := get_memC hg
      have hus : u.size ≠ 0 := by rw [← e2]; exact (h x hx).2.1
      rcases hc with ⟨rfl, rfl⟩ | q
      · exact .inr hus
      · refine .inr ?_
        unfold mtA
        rw [met_ofS (b := c1) q, if_pos rfl]
        exact q
def ofL (ts : List ByteArray) : List Ob := ts.foldl putL []
theorem ofL_snoc (ts : List ByteArray) (k : Nat) (hk : k < ts.length) : ofL (ts.take (k + 1)) = putL (ofL (ts.take k)) ts[k] := by
  unfold ofL
  rw [List.take_succ_eq_append_getElem hk, List.foldl_append]
  rfl
section
variable {P Q : Nat → Prop} {L : List Ob} {ta : Option Addr} {tn tc : Nat} {sa : Option Addr} {sn sc : Nat} {w w' : World}
theorem ShR.blocks (h : ShR P L ta tn tc sa sn sc w) (hb : ∀ b, b < w.heap.size → P b → w'.heap[b]? = w.heap[b]?) (hs : w.heap.size ≤ w'.heap.size) : ShR P L ta tn tc sa sn sc w' :=
  ⟨h.t.blocksC (fun b o e hn hl => hb b hl (h.pt b o e hn)) hs, h.s.blocksC (fun b o e hn hl => hb b hl (h.ps b o e hn)) hs, h.tl, h.tm, h.sl, h.sm, h.pt, h.ps⟩
theorem ShR.weak (h : ShR P L ta tn tc sa sn sc w) (hq : ∀ b, P b → Q b) : ShR Q L ta tn tc sa sn sc w := ⟨h.t, h.s, h.tl, h.tm, h.sl, h.sm, fun b o e q => hq b (h.pt b o e q), fun b o e q => hq b (h.ps b o e q)⟩
end
/-- a shelf's value whose rows are new -/
def OfP (L : List Ob) (w : World) (e : Ending) (w' : World) : Prop := ∃ ta tn tc sa sn sc c0 c1, e = .returned (rsv ta tn tc sa sn sc c0 c1) ∧ ShR (fun b => w.heap.size ≤ b) L ta tn tc sa sn sc w' ∧ LI L ∧ Below w.heap.size w w'
set_option maxRecDepth 100000 in
set_option maxHeartbeats 8000000 in
theorem rof_any (A : Option Addr) (n c : Nat) (ts : List ByteArray) (w : World) (h : RdX stC 1 w A n ts) (hn : n ≤ 1000) :
    Calls Tryd.prog 7 #[.slice A n c] w (OfP (ofL ts) w) := by
  obtain ⟨Z, hZ⟩ : ∃ Z, Z = ofL ts := ⟨_, rfl⟩
  rw [← hZ]
  have HZ := Lib.hid hZ
  have HB1 := Lib.hid ((Below.refl w.heap.size w).alloc (Nat.le_refl _) (.cells #[.slice none 0 0, .slice none 0 0, .string ⟨#[]⟩, .string ⟨#[]⟩] 28 (0, 0)))
  have HB2 := Lib.hid (HB1.out.alloc HB1.out.size (.cells #[.slice none 0 0, .slice none 0 0, .string ⟨#[]⟩, .string ⟨#[]⟩] 28 (0, 0)))
  have H2 := Lib.hid (blk_alloc (blk_new w (.cells #[.slice none 0 0, .slice none 0 0, .string ⟨#[]⟩, .string ⟨#[]⟩] 28 (0, 0))) (.cells #[.slice none 0 0, .slice none 0 0, .string ⟨#[]⟩, .string ⟨#[]⟩] 28 (0, 0)))
  have H3 := Lib.hid (show ((w.alloc (.cells #[.slice none 0 0, .slice none 0 0, .string ⟨#[]⟩, .string ⟨#[]⟩] 28 (0, 0))).alloc (.cells #[.slice none 0 0, .slice none 0 0, .string ⟨#[]⟩, .string ⟨#[]⟩] 28 (0, 0))).heap[w.heap.size + 1]? = some (.cells #[.slice none 0 0, .slice none 0 0, .string ⟨#[]⟩, .string ⟨#[]⟩] 28 (0, 0)) from two_blk w _ _)
  have HT := Lib.hid h
  obtain ⟨v, hv⟩ : ∃ v, v = (w.alloc (.cells #[.slice none 0 0, .slice none 0 0, .string ⟨#[]⟩, .string ⟨#[]⟩] 28 (0, 0))).alloc (.cells #[.slice none 0 0, .slice none 0 0, .string ⟨#[]⟩, .string ⟨#[]⟩] 28 (0, 0)) := ⟨_, rfl⟩
  have HV := Lib.hid hv
  rw [← hv] at HB2 H2 H3
  clear h hZ hv HB1
  go_enter Tryd.func7, Tryd.ntmps7
  go_upto_region 2 with (fail)
  rw [← HV.out]
  clear HV
  generalize hp3 : w.heap.size + 1 = p3 at *
  go_wp2_with fail
  go_loopw [11] (fun i wr => ∃ (j : Nat) (L : List Ob) (ta : Option Addr) (tn tc : Nat) (sa : Option Addr) (sn sc : Nat) (c0 c1 : ByteArray), i = .int .i64 (j : Int) ∧ j ≤ n ∧ Hid (L = ofL (ts.take j)) ∧ L.length ≤ j ∧ Hid (LI L) ∧ Hid (CI c0 c1) ∧ Hid (ShR (fun b => p3 < b) L ta tn tc sa sn sc wr) ∧ Hid (wr.heap[p3]? = some (.cells #[.slice ta tn tc, .slice sa sn sc, .string c0, .string c1] 28 (0, 0))) ∧ Hid (wr.heap[w.heap.size]? = some (.cells #[.slice none 0 0, .slice none 0 0, .string ⟨#[]⟩, .string ⟨#[]⟩] 28 (0, 0))) ∧ Hid (Below w.heap.size w wr)) (fun i _ => n - (intOf i).toNat)
  case atStart => exact ⟨0, [], none, 0, 0, none, 0, 0, ⟨#[]⟩, ⟨#[]⟩, rfl, Nat.zero_le _, Lib.hid rfl, Nat.le_refl _, Lib.hid (fun _ h => by cases h), Lib.hid (.inl ⟨rfl, rfl⟩), Lib.hid (ShR.nil _ _), H3, H2, HB2⟩
  case round =>
    obtain ⟨j, L, ta, tn, tc, sa, sn, sc, c0, c1, rfl, hj, HL, hlj, HLI, HCI, HSH, H3, H2, HB⟩ := hrel
    have hws := lt_of_block H3.out
    have y0 : wr.cell? ⟨p3, 0, none⟩ = some (.slice ta tn tc) := (cell_of_row _ _ 0 _ _ _ H3.out).trans rfl
    have y1 : wr.cell? ⟨p3, 1, none⟩ = some (.slice sa sn sc) := (cell_of_row _ _ 1 _ _ _ H3.out).trans rfl
    have y2 : wr.cell? ⟨p3, 2, none⟩ = some (.string c0) := (cell_of_row _ _ 2 _ _ _ H3.out).trans rfl
    have y3 : wr.cell? ⟨p3, 3, none⟩ = some (.string c1) := (cell_of_row _ _ 3 _ _ _ H3.out).trans rfl
    by_cases hlt : j < n
    · have hd1 : decide ((j : Int) < (n : Int)) = true := decide_eq_true (by omega)
      have hi0 : (0 : Int) ≤ (j : Int) := by omega
      obtain ⟨b, off, hl2, rfl, hbb, hcell⟩ := (HT.out.below HB.out).at hlt
      obtain ⟨t, ht⟩ : ∃ t, t = ts[j] := ⟨_, rfl⟩
      have x0 := hcell 0 (.string ts[j]) rfl
      rw [← ht, Nat.mul_one, Nat.add_zero] at x0
      have HLs := Lib.hid (show putL L t = ofL (ts.take (j + 1)) by rw [ofL_snoc ts j hl2, ← HL.out, ht])
      have HIV := Lib.hid (iv_put HLI.out HCI.out t)
      have HPT := Lib.hid (rsput_any (fun b => p3 < b) L c0 c1 t ta tn tc sa sn sc wr HSH.out HLI.out HCI.out (by omega) (fun b hb => Nat.lt_of_lt_of_le hws hb))
      unfold RetRP at HPT
      generalize putL L t = L2 at *
      generalize putA L c0 c1 t = d0 at *
      generalize putB L c0 c1 t = d1 at *
      generalize putN L t = nn at *
      generalize putE L t = ee at *
      clear hcell hbb ht
      go_wp2_with fail
      clear y0 y1 y2 y3 x0
      refine HPT.out.mono ?_
      rintro e w2 ⟨ta2, tn2, tc2, sa2, sn2, sc2, rfl, hsh, hb⟩
      have hb2 : Below w2.heap.size w2 (w2.alloc (.cells #[.slice ta2 tn2 tc2, .slice sa2 sn2 sc2, .string d0, .string d1] 28 (0, 0))) := (Below.refl _ _).alloc (Nat.le_refl _) _
      have H6 := Lib.hid (blk_new w2 (.cells #[.slice ta2 tn2 tc2, .slice sa2 sn2 sc2, .string d0, .string d1] 28 (0, 0)))
      have HSH2 := Lib.hid (hsh.below hb2)
      have H3 := Lib.hid (blk_below (blk_below H3.out hb) hb2)
      have H2 := Lib.hid (blk_below (blk_below H2.out hb) hb2)
      have HB := Lib.hid ((HB.out.trans (hb.mono HB.out.size)).trans (hb2.mono (HB.out.trans (hb.mono HB.out.size)).size))
      clear hsh hb hb2 HSH HLI HCI HL HPT
      go_upto_region 6 with (fail)
      generalize w2.alloc (.cells #[.slice ta2 tn2 tc2, .slice sa2 sn2 sc2, .string d0, .string d1] 28 (0, 0)) = w3 at *
      generalize w2.heap.size = b6 at *
      have y0 : w3.cell? ⟨b6, 0, none⟩ = some (.slice ta2 tn2 tc2) := (cell_of_row _ _ 0 _ _ _ H6.out).trans rfl
      have y1 : w3.cell? ⟨b6, 1, none⟩ = some (.slice sa2 sn2 sc2) := (cell_of_row _ _ 1 _ _ _ H6.out).trans rfl
      have y2 : w3.cell? ⟨b6, 2, none⟩ = some (.string d0) := (cell_of_row _ _ 2 _ _ _ H6.out).trans rfl
      have y3 : w3.cell? ⟨b6, 3, none⟩ = some (.string d1) := (cell_of_row _ _ 3 _ _ _ H6.out).trans rfl
      go_wp2_with (first
        | refine wpList_store_rowY rfl 28 (.tmp 3) (.tmp 22) rfl p3 #[.slice ta2 tn2 tc2, .slice sa2 sn2 sc2, .string d0, .string d1] rfl rfl 28 _ H3.out info_rs rfl (by simp [Value.oneCell']) w.heap.size w HB.out (by omega) ?_)
      intro W8 hbk hoth hbel hsz
      clear y0 y1 y2 y3
      have HSH3 := Lib.hid (HSH2.out.blocks (fun b _ hp => hoth.out b (by omega)) (by rw [hsz.out]; exact Nat.le_refl _))
      have H2n := Lib.hid (blk_oth H2.out hoth.out (by omega))
      clear HSH2 H2 H3 H6 HB hoth hsz
      go_wp2_with fail
      go_roundw
      case rel => exact ⟨j + 1, L2, ta2, tn2, tc2, sa2, sn2, sc2, d0, d1, by go_num, by omega, HLs, by have := HIV.out.2.2; omega, Lib.hid HIV.out.1, Lib.hid HIV.out.2.1, HSH3, hbk, H2n, hbel⟩
      case measure => simp [intOf] <;> omega
    · obtain rfl : j = n := by omega
      have hd1 : decide ((j : Int) < (j : Int)) = false := decide_eq_false (by omega)
      have HLE := Lib.hid (show L = Z by rw [HL.out, HZ.out, List.take_of_length_le (by rw [HT.out.1]; exact Nat.le_refl _)])
      clear HL
      go_wp2_with (first
        | refine wpList_store_rowY rfl 28 (.tmp 2) (.tmp 24) rfl (w.heap.size) #[.slice ta tn tc, .slice sa sn sc, .string c0, .string c1] rfl rfl 28 _ H2.out info_rs rfl (by simp [Value.oneCell']) w.heap.size w HB.out (Nat.le_refl _) ?_)
      intro W8 hbk hoth hbel hsz
      clear y0 y1 y2 y3
      have HSH3 := Lib.hid (HSH.out.blocks (fun b _ hp => hoth.out b (by omega)) (by rw [hsz.out]; exact Nat.le_refl _))
      go_wp2_with fail
      refine bodyPost_ret (results_cY rfl _ _ (w.heap.size) #[.slice ta tn tc, .slice sa sn sc, .string c0, .string c1] rfl (run_loadVar_row _ (w.heap.size) 28 28 _ (0, 0) _ hbk.out Tryd.underlying28 rfl info_rs)) rfl ?_
      exact ⟨ta, tn, tc, sa, sn, sc, c0, c1, rfl, by rw [← HLE.out]; exact HSH3.out.weak (fun b hb => by omega), by rw [← HLE.out]; exact HLI.out, hbel.out⟩
set_option maxRecDepth 100000 in
theorem in35_any (A : Option Addr) (n c : Nat) (l : List ByteArray) (s : ByteArray) (w : World) (h : RdX stC 1 w A n l) (hn : n ≤ 100000) :
    Calls Tryd.prog 19 #[.slice A n c, .string s] w fun e w' => e = .returned (.bool (l.any fun x => x.toList == s.toList)) ∧ w = w' := by
  have H := Lib.hid h
  have HB := Lib.hid (show ∀ z, (l.any fun x => x.toList == s.toList) = z → Ending.returned (.bool z) = .returned (.bool (l.any fun x => x.toList == s.toList)) from fun z e => by rw [e])
  clear h
  go_enter Tryd.func19, Tryd.ntmps19
  go_wp2_with fail
  go_loop [9] (fun i => ∃ k : Nat, i = .int .i64 (k : Int) ∧ k ≤ n ∧ Hid (((l.take k).any fun x => x.toList == s.toList) = false)) (fun i => n - (intOf i).toNat)
  case atStart => exact ⟨0, rfl, Nat.zero_le _, Lib.hid rfl⟩
  case round =>
    obtain ⟨k, rfl, hk, HN⟩ := hrel
    by_cases hlt : k < n
    · have hd1 : decide ((k : Int) < (n : Int)) = true := decide_eq_true (by omega)
      have hi0 : (0 : Int) ≤ (k : Int) := by omega
      obtain ⟨b, off, hl2, rfl, hbb, hcell⟩ := H.out.at hlt
      have c0 := hcell 0 (.string l[k]) rfl
      have hT := List.take_succ_eq_append_getElem hl2
      have hmem := List.getElem_mem hl2
      obtain ⟨x, hx⟩ : ∃ x, x = l[k] := ⟨_, rfl⟩
      rw [← hx, Nat.mul_one, Nat.add_zero] at c0
      rw [← hx] at hT hmem
      have HT := Lib.hid hT
      have HM := Lib.hid hmem
      clear hcell hx hT hmem hbb
      by_cases hs : x = s
      · subst hs
        obtain ⟨r1, r2⟩ := beq_same x
        go_wp2_with fail
        go_ret
        exact ⟨HB.out true (List.any_eq_true.2 ⟨_, HM.out, r2⟩), rfl⟩
      · obtain ⟨r1, r2⟩ := beq_ne hs
        go_wp2_with fail
        go_round
        case rel => exact ⟨k + 1, by go_num, by omega, Lib.hid (by rw [HT.out, List.any_append, HN.out]; simp [r2])⟩
        case measure => simp [intOf] <;> omega
    · have hd1 : decide ((k : Int) < (n : Int)) = false := decide_eq_false (by omega)
      have HE := Lib.hid (show l.take k = l from List.take_of_length_le (by have := H.out.1; omega))
      go_wp2_with fail
      go_ret
      exact ⟨HB.out false (by rw [← HE.out]; exact HN.out), rfl⟩
/-- a commit that is loaded, or none -/
def LdP (L : List Ob) (s : ByteArray) (w : World) (e : Ending) (w' : World) : Prop :=
  (∃ (k : Int) (P : List ByteArray) (g t : ByteArray) (A : Option Addr) (n c : Nat), ldC L s = some ⟨k, P, g, t⟩ ∧ e = .returned (.tuple #[.agg #[.int .i64 k, .slice A n c, .string g, .string t], .bool true]) ∧ RdX stC 1 w' A n P ∧ n ≤ 2 ∧ n ≤ c ∧ (∀ b o, A = some ⟨b, o, none⟩ → w.heap.size < b) ∧ Below w.heap.size w w') ∨ (ldC L s = none ∧ e = .returned (.tuple #[.agg #[.int .i64 0, .slice none 0 0, .string ⟨#[]⟩, .string ⟨#[]⟩], .bool false]) ∧ Below w.heap.size w w')
theorem no_empC : ∀ (k : Int) (P : List ByteArray) (g t : ByteArray), cmok k P g t = true → (⟨#[]⟩ : ByteArray) ≠ cmT k P g t := fun _ _ _ _ h e => (cmT_size h).2 (by rw [← e]; rfl)
set_option maxRecDepth 100000 in
set_option maxHeartbeats 8000000 in
theorem rload_any {P : Nat → Prop} {L : List Ob} {ta : Option Addr} {tn tc : Nat} {sa : Option Addr} {sn sc : Nat} {c0 c1 : ByteArray} {w : World} (s : ByteArray) (h : ShR P L ta tn tc sa sn sc w) (hll : L.length ≤ 40000) (hL : ((getO L s).getD ⟨#[]⟩).size ≤ 1000000) :
    Calls Tryd.prog 20 #[rsv ta tn tc sa sn sc c0 c1, .string s] w (LdP L s w) := by
  have HB1 := Lib.hid ((Below.refl w.heap.size w).alloc (Nat.le_refl _) (.cells #[.slice ta tn tc, .slice sa sn sc, .string c0, .string c1] 28 (0, 0)))
  have HB2 := Lib.hid (HB1.out.alloc HB1.out.size (.cells #[.int .i64 0, .slice none 0 0, .string ⟨#[]⟩, .string ⟨#[]⟩] 41 (0, 0)))
  have H2 := Lib.hid (blk_alloc (blk_new w (.cells #[.slice ta tn tc, .slice sa sn sc, .string c0, .string c1] 28 (0, 0))) (.cells #[.int .i64 0, .slice none 0 0, .string ⟨#[]⟩, .string ⟨#[]⟩] 41 (0, 0)))
  have H4 := Lib.hid (show ((w.alloc (.cells #[.slice ta tn tc, .slice sa sn sc, .string c0, .string c1] 28 (0, 0))).alloc (.cells #[.int .i64 0, .slice none 0 0, .string ⟨#[]⟩, .string ⟨#[]⟩] 41 (0, 0))).heap[w.heap.size + 1]? = some (.cells #[.int .i64 0, .slice none 0 0, .string ⟨#[]⟩, .string ⟨#[]⟩] 41 (0, 0)) from two_blk w _ _)
  have HSH := Lib.hid (h.below HB2.out)
  have HGET := Lib.hid (rsget_any P L c0 c1 s ta tn tc sa sn sc _ HSH.out hll)
  obtain ⟨T, hT⟩ : ∃ T, T = (getO L s).getD ⟨#[]⟩ := ⟨_, rfl⟩
  obtain ⟨is, his⟩ : ∃ z, z = (getO L s).isSome := ⟨_, rfl⟩
  rw [← hT] at hL
  rw [← hT, ← his] at HGET
  have HTK := Lib.hid (fun W : World => crtake_any T W hL)
  have HT := Lib.hid hT
  have HIS := Lib.hid his
  obtain ⟨v, hv⟩ : ∃ v, v = (w.alloc (.cells #[.slice ta tn tc, .slice sa sn sc, .string c0, .string c1] 28 (0, 0))).alloc (.cells #[.int .i64 0, .slice none 0 0, .string ⟨#[]⟩, .string ⟨#[]⟩] 41 (0, 0)) := ⟨_, rfl⟩
  have HV := Lib.hid hv
  rw [← hv] at HB2 H2 H4 HGET
  clear h hv HB1 hT his HSH
  go_enter Tryd.func20, Tryd.ntmps20
  go_upto_region 1 with (fail)
  rw [← HV.out]
  clear HV
  generalize hp4 : w.heap.size + 1 = p4 at *
  have y0 : v.cell? ⟨w.heap.size, 0, none⟩ = some (.slice ta tn tc) := (cell_of_row _ _ 0 _ _ _ H2.out).trans rfl
  have y1 : v.cell? ⟨w.heap.size, 1, none⟩ = some (.slice sa sn sc) := (cell_of_row _ _ 1 _ _ _ H2.out).trans rfl
  have y2 : v.cell? ⟨w.heap.size, 2, none⟩ = some (.string c0) := (cell_of_row _ _ 2 _ _ _ H2.out).trans rfl
  have y3 : v.cell? ⟨w.heap.size, 3, none⟩ = some (.string c1) := (cell_of_row _ _ 3 _ _ _ H2.out).trans rfl
  go_wp2_with fail
  clear y0 y1 y2 y3 H2
  refine HGET.out.mono ?_
  rintro e w1 ⟨rfl, hb⟩
  have H4 := Lib.hid (blk_below H4.out hb)
  have HB := Lib.hid (HB2.out.trans (hb.mono HB2.out.size))
  clear hb HB2 HGET
  cases is with
  | false =>
    have HN := Lib.hid (show ldC L s = none from ldC_no (fun k P g t hk => by
      have e : getO L s = none := by
        cases q : getO L s with
        | none => rfl
        | some u => have y := HIS.out; rw [q] at y; cases y
      rw [e]
      exact no_empC k P g t hk))
    go_wp2_with (first
      | refine wpList_store_rowY rfl 41 (.tmp 4) (.tmp 16) rfl p4 #[.int .i64 0, .slice none 0 0, .string ⟨#[]⟩, .string ⟨#[]⟩] rfl rfl 41 _ H4.out (info_cmC _ _ _ _) rfl (one_cmC _ _ _ _ _ _) w.heap.size w HB.out (by omega) ?_)
    intro W8 hbk hoth hbel hsz
    go_wp2_with fail
    refine bodyPost_ret (results_ctY rfl _ _ p4 #[.int .i64 0, .slice none 0 0, .string ⟨#[]⟩, .string ⟨#[]⟩] rfl (run_loadVar_row _ p4 41 41 _ (0, 0) _ hbk.out Tryd.underlying41 rfl (info_cmC _ _ _ _))) rfl ?_
    exact .inr ⟨HN.out, rfl, hbel.out⟩
  | true =>
    go_wp2_with fail
    refine (HTK.out w1).mono ?_
    rintro e w2 (⟨k, P, g, t, A, n, c, hok, hTT, rfl, hrd, hnc, hAr, hb⟩ | ⟨hno, rfl, hb⟩)
    · have HN := Lib.hid (show ldC L s = some ⟨k, P, g, t⟩ from ldC_yes hok (HT.out.symm.trans hTT))
      have hn2 : n ≤ 2 := by have y := (cmok_of hok).n; rw [hrd.1] at y; exact y
      have HAR := Lib.hid (fun (b o : Nat) (e : A = some ⟨b, o, none⟩) => show w.heap.size + 1 < b from by have h1 := hAr b o e; have h2 := lt_of_block H4.out; omega)
      have H4 := Lib.hid (blk_below H4.out hb)
      have HRD := Lib.hid hrd
      have HB := Lib.hid (HB.out.trans (hb.mono HB.out.size))
      clear hb hrd hAr hTT hok
      go_wp2_with (first
        | refine wpList_store_rowY rfl 41 (.tmp 4) (.tmp 19) rfl p4 #[.int .i64 k, .slice A n c, .string g, .string t] rfl rfl 41 _ H4.out (info_cmC _ _ _ _) rfl (one_cmC _ _ _ _ _ _) w.heap.size w HB.out (by omega) ?_)
      intro W8 hbk hoth hbel hsz
      have HRD := Lib.hid (show RdX stC 1 W8 A n P from HRD.out.othR hoth.out hsz.out (fun b o e => by have := HAR.out b o e; omega))
      go_wp2_with fail
      refine bodyPost_ret (results_ctY rfl _ _ p4 #[.int .i64 k, .slice A n c, .string g, .string t] rfl (run_loadVar_row _ p4 41 41 _ (0, 0) _ hbk.out Tryd.underlying41 rfl (info_cmC _ _ _ _))) rfl ?_
      exact .inl ⟨k, P, g, t, A, n, c, HN.out, rfl, HRD.out, hn2, hnc, fun b o e => by have := HAR.out b o e; omega, hbel.out⟩
    · have HN := Lib.hid (show ldC L s = none from ldC_no (fun k P g t hk => by rw [← HT.out]; exact hno k P g t hk))
      have H4 := Lib.hid (blk_below H4.out hb)
      have HB := Lib.hid (HB.out.trans (hb.mono HB.out.size))
      clear hb hno
      go_wp2_with (first
        | refine wpList_store_rowY rfl 41 (.tmp 4) (.tmp 19) rfl p4 #[.int .i64 0, .slice none 0 0, .string ⟨#[]⟩, .string ⟨#[]⟩] rfl rfl 41 _ H4.out (info_cmC _ _ _ _) rfl (one_cmC _ _ _ _ _ _) w.heap.size w HB.out (by omega) ?_)
      intro W8 hbk hoth hbel hsz
      go_wp2_with fail
      refine bodyPost_ret (results_ctY rfl _ _ p4 #[.int .i64 0, .slice none 0 0, .string ⟨#[]⟩, .string ⟨#[]⟩] rfl (run_loadVar_row _ p4 41 41 _ (0, 0) _ hbk.out Tryd.underlying41 rfl (info_cmC _ _ _ _))) rfl ?_
      exact .inr ⟨HN.out, rfl, hbel.out⟩
end Go.Proofs.YtiflieaemgamkaaDoor

namespace Go.Proofs.YtiflieaemgamkaaDoor
open Go.RowKit Vi

theorem wpList_appPo {α : Type} {f : α → List Value} {s : Nat} {ops : Array Oper} {rest : List Oper} {o : Oper} {a : Act} {Q : Exit → Act → World → Prop} {w : World} (hgd : o.guard = none) (sl xo : Operand) (t e : TypeId) (z : Value) (bytes : Nat)
    (ho : o.op = .call { callee := .builtin .append, args := #[sl, xo], argTypes := #[t, t] })
    (hu : Tryd.prog.underlying t = some (.slice e)) (hinfo : (Tryd.prog.info? e).map (fun i => (i.zero, i.size, i.bytes)) = some (some z, s, bytes)) (hz : z.cells.size = s) (hs0 : 0 < s) (hby : bytes ≤ 100)
    (hf : ∀ x, (f x).length = s) (h1 : ∀ x, ∀ u ∈ f x, u.oneCell' = true)
    (B : Nat) (w0 : World) (hb : Below B w0 w) (hB : B ≤ w.heap.size) (v : Value) (l : List α) (hs : a.eval sl = v) (hown : OwX f s e w B v l)
    (bn c : Nat) (x : α) (cs : Array Value) (T' : TypeId) (fr : Nat × Nat) (hx : a.eval xo = .slice (some ⟨bn, 0, none⟩) 1 c) (hbn : w.heap[bn]? = some (.cells cs T' fr)) (hcs : cs.toList = f x) (hm : l.length + 1 ≤ 1000000)
    (h : ∀ v' w', Hid (OwX f s e w' B v' (l ++ [x])) → Hid (Below B w0 w') → Hid (w.grownBy w' v.ownBlock) → Hid (v'.ownBlock = v.ownBlock ∨ v'.ownBlock = some w.heap.size) → wpList Tryd.prog ops Q rest (a.put o.dst v') w') : wpList Tryd.prog ops Q (o :: rest) a w := by
  refine wpList_plain hgd fun K hK => ?_
  obtain ⟨v', w', hr, h2, h3, h5⟩ := run_appPo hu hinfo hz hs0 hby hf h1 o.type B v l hown bn c x cs T' fr hbn hcs hm hB
  unfold Oper.wp execOp
  simp only [ho, resolve, invoke, builtin, Sem.run_bind, Sem.run_pure, Result.andThen_ok, List.map_toArray, List.map_cons, List.map_nil, hs, hx, hr]
  exact hK _ _ (h v' w' h2 (hb.grown h3 hB (fun k hk => (World.ownsRow.lt hown k hk).1)) h3 h5)
/-- not in two rows of one's own -/
def Nq (u v : Value) (b : Nat) : Prop := u.ownBlock ≠ some b ∧ v.ownBlock ≠ some b
theorem Nq.l {u u' v : Value} {b n : Nat} (h : Nq u v b) (hb : b < n) (ha : u'.ownBlock = u.ownBlock ∨ u'.ownBlock = some n) : Nq u' v b := by
  refine ⟨fun e => ?_, h.2⟩
  rcases ha with q | q
  · exact h.1 (q.symm.trans e)
  · rw [q] at e; injection e with e; omega
theorem Nq.r {u v v' : Value} {b n : Nat} (h : Nq u v b) (hb : b < n) (ha : v'.ownBlock = v.ownBlock ∨ v'.ownBlock = some n) : Nq u v' b := by
  refine ⟨h.1, fun e => ?_⟩
  rcases ha with q | q
  · exact h.2 (q.symm.trans e)
  · rw [q] at e; injection e with e; omega
/-- a row of texts apart from both -/
structure TdR (u v : Value) (W : World) (A : Option Addr) (n : Nat) (l : List ByteArray) : Prop where
  r : RdX stC 1 W A n l
  f : ∀ b o, A = some ⟨b, o, none⟩ → 0 < n → Nq u v b
section
variable {u u' v v' : Value} {W W' : World} {A : Option Addr} {n : Nat} {l : List ByteArray}
theorem TdR.kept (h : TdR u v W A n l) (hb : Below W.heap.size W W') : TdR u v W' A n l := ⟨h.r.below hb, h.f⟩
theorem TdR.gl (h : TdR u v W A n l) (hg : W.grownBy W' u.ownBlock) (ha : u'.ownBlock = u.ownBlock ∨ u'.ownBlock = some W.heap.size) : TdR u' v W' A n l :=
  ⟨h.r.blocksC (fun b o e hn hl => hg.block b hl (fun q => (h.f b o e hn).1 (by first | exact q | exact q.symm))) hg.size, fun b o e hn => (h.f b o e hn).l (h.r.ltC e hn) ha⟩
theorem TdR.gr (h : TdR u v W A n l) (hg : W.grownBy W' v.ownBlock) (ha : v'.ownBlock = v.ownBlock ∨ v'.ownBlock = some W.heap.size) : TdR u v' W' A n l :=
  ⟨h.r.blocksC (fun b o e hn hl => hg.block b hl (fun q => (h.f b o e hn).2 (by first | exact q | exact q.symm))) hg.size, fun b o e hn => (h.f b o e hn).r (h.r.ltC e hn) ha⟩
end
/-- the document's rows of what is met -/
structure DBk (w : World) (acc : List Nc) (rcs : List RC) (u v : Value) (W : World) : Prop where
  o : OwX stC 1 9 W w.heap.size u (acc.map (·.1))
  a : OwX rcC 4 41 W w.heap.size v rcs
  len : rcs.length = acc.length
  at' : ∀ (i : Nat) x c, rcs[i]? = some x → acc[i]? = some c → RcIs (Nq u v) W x c.2
  be : Below w.heap.size w W
section
variable {w : World} {acc : List Nc} {rcs : List RC} {u u' v v' : Value} {W W' : World} {x : RC} {c : Cm}
theorem RcIs.td (h : RcIs (Nq u v) W x c) : TdR u v W x.2.1.1 x.2.1.2.1 c.P := ⟨h.r, h.f⟩
theorem RcIs.of_td (h : RcIs (Nq u v) W x c) (k : TdR u' v' W' x.2.1.1 x.2.1.2.1 c.P) : RcIs (Nq u' v') W' x c := ⟨h.k, h.g, h.t, k.r, k.f⟩
theorem DBk.kept (h : DBk w acc rcs u v W) (hb : Below W.heap.size W W') : DBk w acc rcs u v W' :=
  ⟨h.o.kept hb, h.a.kept hb, h.len, fun i x c hx hc => (h.at' i x c hx hc).of_td ((h.at' i x c hx hc).td.kept hb), h.be.trans (hb.mono h.be.size)⟩
theorem OwX.growP {α β : Type} {f : α → List Value} {f' : β → List Value} {s s' : Nat} {T T' : TypeId} {w w' : World} {B B' : Nat} {v v2 : Value} {l : List α} {l2 : List β} (h : OwX f s T w B v l) (k : OwX f' s' T' w B' v2 l2) (hT : T ≠ T') (hg : w.grownBy w' v2.ownBlock) : OwX f s T w' B v l := OwX.other h k hT hg
/-- the same while a commit comes in: its name is there, it is not -/
structure DBm (w : World) (acc : List Nc) (rcs : List RC) (s : ByteArray) (c : Cm) (x : RC) (u v : Value) (W : World) : Prop where
  o : OwX stC 1 9 W w.heap.size u (acc.map (·.1) ++ [s])
  a : OwX rcC 4 41 W w.heap.size v rcs
  len : rcs.length = acc.length
  at' : ∀ (i : Nat) x c, rcs[i]? = some x → acc[i]? = some c → RcIs (Nq u v) W x c.2
  new : RcIs (Nq u v) W x c
  be : Below w.heap.size w W
theorem DBk.pushL {s : ByteArray} (h : DBk w acc rcs u v W) (hx : RcIs (Nq u v) W x c) (h1 : OwX stC 1 9 W' w.heap.size u' (acc.map (·.1) ++ [s])) (g1 : W.grownBy W' u.ownBlock) (a1 : u'.ownBlock = u.ownBlock ∨ u'.ownBlock = some W.heap.size) (hb : Below w.heap.size w W') : DBm w acc rcs s c x u' v W' :=
  ⟨h1, h.a.growP h.o (by decide) g1, h.len, fun i y d hy hd => (h.at' i y d hy hd).of_td ((h.at' i y d hy hd).td.gl g1 a1), hx.of_td (hx.td.gl g1 a1), hb⟩
theorem DBm.kept {s : ByteArray} (h : DBm w acc rcs s c x u v W) (hb : Below W.heap.size W W') : DBm w acc rcs s c x u v W' :=
  ⟨h.o.kept hb, h.a.kept hb, h.len, fun i x c hx hc => (h.at' i x c hx hc).of_td ((h.at' i x c hx hc).td.kept hb), h.new.of_td (h.new.td.kept hb), h.be.trans (hb.mono h.be.size)⟩
theorem DBm.pushR {s : ByteArray} (h : DBm w acc rcs s c x u v W) (h2 : OwX rcC 4 41 W' w.heap.size v' (rcs ++ [x])) (g2 : W.grownBy W' v.ownBlock) (a2 : v'.ownBlock = v.ownBlock ∨ v'.ownBlock = some W.heap.size) (hb : Below w.heap.size w W') : DBk w (acc ++ [(s, c)]) (rcs ++ [x]) u v' W' := by
  refine ⟨by rw [List.map_append]; exact h.o.growP h.a (by decide) g2, h2, by rw [List.length_append, List.length_append, h.len]; rfl, fun i y d hy hd => ?_, hb⟩
  rcases Nat.lt_or_ge i acc.length with q | q
  · rw [List.getElem?_append_left q] at hd
    rw [List.getElem?_append_left (by rw [h.len]; exact q)] at hy
    exact (h.at' i y d hy hd).of_td ((h.at' i y d hy hd).td.gr g2 a2)
  · rw [List.getElem?_append_right q] at hd
    rw [List.getElem?_append_right (by rw [h.len]; exact q), h.len] at hy
    obtain ⟨z, hz⟩ : ∃ z, z = i - acc.length := ⟨_, rfl⟩
    rw [← hz] at hy hd
    cases z with
    | zero =>
      simp only [List.getElem?_cons_zero, Option.some.injEq] at hy hd
      subst hy hd
      exact h.new.of_td (h.new.td.gr g2 a2)
    | succ z => simp at hy
theorem DBk.rows {A7 : Option Addr} {c7 : Nat} {A8 : Option Addr} {c8 : Nat} (h : DBk w acc rcs (.slice A7 acc.length c7) (.slice A8 acc.length c8) W) : RdX stC 1 W A7 acc.length (acc.map (·.1)) ∧ RdX rcC 4 W A8 acc.length rcs := by
  obtain ⟨_, _, e, hr, _, _⟩ := h.o.rd stC_len
  injection e with e1 e2 e3
  subst e1
  rw [List.length_map] at hr
  obtain ⟨_, _, e, hr2, _, _⟩ := h.a.rd rcC_len
  injection e with e1 e2 e3
  subst e1
  rw [h.len] at hr2
  exact ⟨hr, hr2⟩
theorem DBk.own (h : DBk w acc rcs u v W) : (∀ b, u.ownBlock = some b → b < W.heap.size) ∧ ∀ b, v.ownBlock = some b → b < W.heap.size := ⟨fun b e => (World.ownsRow.lt h.o b e).2, fun b e => (World.ownsRow.lt h.a b e).2⟩
end
theorem posC_any (acc : List Nc) (s : ByteArray) : ((acc.map (·.1)).any fun x => x.toList == s.toList) = (posC acc s).isSome := by
  cases hp : posC acc s with
  | none =>
    rw [List.any_eq_false.2]
    · rfl
    intro x hx e
    obtain ⟨y, hy, rfl⟩ := List.mem_map.1 hx
    exact posC_none hp y hy (ba_eq.1 e)
  | some i =>
    obtain ⟨k, hk, rfl, e⟩ := posC_some hp
    exact List.any_eq_true.2 ⟨_, List.mem_map.2 ⟨_, List.getElem_mem hk, rfl⟩, ba_eq.2 e⟩
/-- what Back tells -/
def BkP (L : List Ob) (ns : List ByteArray) (w : World) (e : Ending) (w' : World) : Prop :=
  (bkC L ns ≠ 0 ∧ e = .returned (.tuple #[.slice none 0 0, .slice none 0 0, .int .i64 (bkC L ns)]) ∧ Below w.heap.size w w') ∨
  (bkC L ns = 0 ∧ ∃ A n c B c2 rcs, e = .returned (.tuple #[.slice A n c, .slice B n c2, .int .i64 0]) ∧ RdX stC 1 w' A n ((wlC L ns).1.map (·.1)) ∧ RdX rcC 4 w' B n rcs ∧ (∀ (i : Nat) x c, rcs[i]? = some x → (wlC L ns).1[i]? = some c → RcIs (fun _ => True) w' x c.2) ∧ Below w.heap.size w w')
theorem results_t3C {fn : Func} {s t u : Tmp} (h : fn.results = #[.tmp s, .tmp t, .tmp u]) (tmps : Array Value) (w : World) :
    (results fn tmps).run Tryd.prog w = .ok (.tuple #[tmps.getD s undef, tmps.getD t undef, tmps.getD u undef]) w := by
  simp [results, h]
theorem wkC_done {ld : ByteArray → Option Cm} {f i : Nat} {a : List Nc} (h : a.length ≤ i) : wkC ld f i (a, true) = (a, true) := by
  cases f with
  | zero => rfl
  | succ f => rw [wkC, if_pos rfl, List.getElem?_eq_none h]
theorem wkC_fail {ld : ByteArray → Option Cm} {f i : Nat} {a : List Nc} : wkC ld f i (a, false) = (a, false) := by
  cases f with
  | zero => rfl
  | succ f => rw [wkC, if_neg (by simp)]
theorem wkC_go {ld : ByteArray → Option Cm} {f i : Nat} {a : List Nc} {x : Nc} (h : a[i]? = some x) : wkC ld (f + 1) i (a, true) = wkC ld f (i + 1) (eaC ld x.2.P a) := by
  rw [wkC, if_pos rfl, h]
section
variable {P : Nat → Prop} {L : List Ob} {ta : Option Addr} {tn tc : Nat} {sa : Option Addr} {sn sc : Nat} {c0 c1 : ByteArray} {w : World}
set_option linter.unusedSimpArgs false in
set_option maxRecDepth 100000 in
set_option maxHeartbeats 16000000 in
theorem rback_any (An : Option Addr) (nn cn : Nat) (ns : List ByteArray) (h : ShR P L ta tn tc sa sn sc w) (hr : RdX stC 1 w An nn ns) (hnn : nn ≤ 100000) (hll : L.length ≤ 90) (hL : ∀ s, ((getO L s).getD ⟨#[]⟩).size ≤ 1000000) :
    Calls Tryd.prog 10 #[rsv ta tn tc sa sn sc c0 c1, .slice An nn cn] w (BkP L ns w) := by
  obtain ⟨ZZ, hZZ⟩ : ∃ ZZ, ZZ = wlC L ns := ⟨_, rfl⟩
  have HBK := Lib.hid (show bkC L ns = if ZZ.2 = true then (if fallsC L ZZ.1 = true then 0 else 16) else 13 by rw [hZZ]; rfl)
  have HZ := Lib.hid (show wkC (ldC L) 100 0 (eaC (ldC L) ns []) = ZZ from hZZ.symm)
  unfold BkP
  rw [← hZZ]
  generalize bkC L ns = bk at HBK ⊢
  clear hZZ
  have HB0 := Lib.hid ((Below.refl w.heap.size w).alloc (Nat.le_refl _) (.cells #[.slice ta tn tc, .slice sa sn sc, .string c0, .string c1] 28 (0, 0)))
  have H2 := Lib.hid (blk_new w (.cells #[.slice ta tn tc, .slice sa sn sc, .string c0, .string c1] 28 (0, 0)))
  have HSH := Lib.hid h
  have HNS := Lib.hid hr
  have HL := Lib.hid hL
  have HT0 : Hid (TdR (.slice none 0 0) (.slice none 0 0) (w.alloc (.cells #[.slice ta tn tc, .slice sa sn sc, .string c0, .string c1] 28 (0, 0))) An nn ns) := Lib.hid ⟨hr.below HB0.out, fun _ _ _ _ => ⟨by simp [Value.ownBlock], by simp [Value.ownBlock]⟩⟩
  have HD0 : Hid (DBk w [] [] (.slice none 0 0) (.slice none 0 0) (w.alloc (.cells #[.slice ta tn tc, .slice sa sn sc, .string c0, .string c1] 28 (0, 0)))) := Lib.hid ⟨OwX.nil _, OwX.nil _, rfl, fun i x c hx _ => by simp at hx, HB0.out⟩
  obtain ⟨v, hv⟩ : ∃ v, v = w.alloc (.cells #[.slice ta tn tc, .slice sa sn sc, .string c0, .string c1] 28 (0, 0)) := ⟨_, rfl⟩
  have HV := Lib.hid hv
  rw [← hv] at H2 HT0 HD0
  clear h hr hL hv HB0
  go_enter Tryd.func10, Tryd.ntmps10
  go_upto_region 1 with (fail)
  rw [← HV.out]
  clear HV
  go_upto_region 5 with (fail)
  go_loopw [7, 8, 9, 10] (fun o7 o8 o9 o10 wr => ∃ (i : Nat) (acc : List Nc) (rcs : List RC) (A9 : Option Addr) (n9 c9 : Nat) (td : List ByteArray) (A7 : Option Addr) (c7 : Nat) (A8 : Option Addr) (c8 : Nat), o10 = .int .i64 (i : Int) ∧ o9 = .slice A9 n9 c9 ∧ o7 = .slice A7 acc.length c7 ∧ o8 = .slice A8 acc.length c8 ∧ i ≤ 100 ∧ n9 ≤ 100000 ∧ Hid ((i ≤ acc.length ∧ wkC (ldC L) (100 - i) i (eaC (ldC L) td acc) = ZZ) ∨ (acc.length < i ∧ ZZ = (acc, true))) ∧ Hid (AccOk (ldC L) acc) ∧ Hid (DBk w acc rcs (.slice A7 acc.length c7) (.slice A8 acc.length c8) wr) ∧ Hid (TdR (.slice A7 acc.length c7) (.slice A8 acc.length c8) wr A9 n9 td) ∧ Hid (wr.heap[w.heap.size]? = some (.cells #[.slice ta tn tc, .slice sa sn sc, .string c0, .string c1] 28 (0, 0)))) (fun _ _ _ o10 _ => 100 - (intOf o10).toNat)
  case atStart => exact ⟨0, [], [], An, nn, cn, ns, none, 0, none, 0, rfl, rfl, rfl, rfl, Nat.zero_le _, hnn, Lib.hid (.inl ⟨Nat.le_refl _, HZ.out⟩), Lib.hid AccOk.nil, HD0, HT0, H2⟩
  case round =>
    obtain ⟨i, acc, rcs, A9, n9, c9, td, A7, c7, A8, c8, rfl, rfl, rfl, rfl, hi, hn9, HE, HO, HD, HT, H2⟩ := hrel
    clear HZ HD0 HT0
    have hal := HO.out.len
    by_cases hia : i ≤ acc.length
    · have HE2 := Lib.hid (show wkC (ldC L) (100 - i) i (eaC (ldC L) td acc) = ZZ from by rcases HE.out with q | q; exact q.2; exact absurd hia (by omega))
      have hd1 : decide ((i : Int) ≤ (acc.length : Int)) = true := decide_eq_true (by omega)
      have ew : IntKind.i64.wrap ((i : Int) + 1) = (i : Int) + 1 := IntWalk.i64_in _ (by omega)
      obtain ⟨Y, hY⟩ : ∃ Y, Y = eaC (ldC L) td acc := ⟨_, rfl⟩
      rw [← hY] at HE2
      have HY := Lib.hid hY.symm
      clear hY HE
      obtain ⟨wo, hwo⟩ : ∃ z, z = wr := ⟨_, rfl⟩
      subst hwo
      go_upto_region 8 with (fail)
      go_wp2_with fail
      go_loopw [7, 8, 30] (fun o7 o8 o30 wr => ∃ (j : Nat) (a2 : List Nc) (rc2 : List RC) (A7 : Option Addr) (c7 : Nat) (A8 : Option Addr) (c8 : Nat), o30 = .int .i64 (j : Int) ∧ o7 = .slice A7 a2.length c7 ∧ o8 = .slice A8 a2.length c8 ∧ j ≤ n9 ∧ Hid (eaC (ldC L) (td.drop j) a2 = Y) ∧ Hid (AccOk (ldC L) a2) ∧ Hid (DBk w a2 rc2 (.slice A7 a2.length c7) (.slice A8 a2.length c8) wr) ∧ Hid (TdR (.slice A7 a2.length c7) (.slice A8 a2.length c8) wr A9 n9 td) ∧ Hid (wr.heap[w.heap.size]? = some (.cells #[.slice ta tn tc, .slice sa sn sc, .string c0, .string c1] 28 (0, 0)))) (fun _ _ o30 _ => n9 - (intOf o30).toNat)
      case atStart => exact ⟨0, acc, rcs, A7, c7, A8, c8, rfl, rfl, rfl, Nat.zero_le _, HY, HO, HD, HT, H2⟩
      case round =>
        obtain ⟨j, a2, rc2, B7, d7, B8, d8, rfl, rfl, rfl, hj, HEi, HOi, HDi, HTi, H2i⟩ := hrel
        clear HO HD HT H2 HY
        have ha2 := HOi.out.len
        have hrc := HDi.out.len
        obtain ⟨hro, hra⟩ := HDi.out.rows
        by_cases hlt : j < n9
        · have hd2 : decide ((j : Int) < (n9 : Int)) = true := decide_eq_true (by omega)
          have hj0 : (0 : Int) ≤ (j : Int) := by omega
          obtain ⟨b, off, hl2, rfl, hbb, hcell⟩ := HTi.out.r.at hlt
          obtain ⟨s, hs⟩ : ∃ s, s = td[j] := ⟨_, rfl⟩
          have x0 := hcell 0 (.string td[j]) rfl
          rw [← hs, Nat.mul_one, Nat.add_zero] at x0
          have hE3 : eaC (ldC L) (s :: td.drop (j + 1)) a2 = Y := by rw [hs, ← List.drop_eq_getElem_cons hl2]; exact HEi.out
          have HNO := Lib.hid (fun q => eaC_no hE3 q)
          have HYES := Lib.hid (fun q => eaC_yes hE3 q)
          have HIN := in35_any B7 a2.length d7 (a2.map (·.1)) s wr hro (by omega)
          rw [posC_any] at HIN
          have HLD := Lib.hid (rload_any (c0 := c0) (c1 := c1) s (HSH.out.below HDi.out.be) (by omega) (HL.out s))
          clear hE3 hs hcell hbb HEi hro hra
          cases hp : posC a2 s with
          | some m =>
            rw [hp] at HIN
            have HIN := Lib.hid (show Calls Tryd.prog 19 #[.slice B7 a2.length d7, .string s] wr fun e w' => e = .returned (.bool true) ∧ wr = w' from HIN)
            have HY2 := Lib.hid (show eaC (ldC L) (td.drop (j + 1)) a2 = Y from by have y := HYES.out (by rw [mtC_met hp]); rw [mtC_met hp] at y; exact y)
            clear hp HNO HYES HLD
            go_wp2_with fail
            refine HIN.out.mono ?_
            rintro e w' ⟨rfl, rfl⟩
            clear x0 HIN
            go_wp2_with fail
            go_roundw
            case rel => exact ⟨j + 1, a2, rc2, B7, d7, B8, d8, by go_num, rfl, rfl, by omega, HY2, HOi, HDi, HTi, H2i⟩
            case measure => simp [intOf] <;> omega
          | none =>
            rw [hp] at HIN
            have HIN := Lib.hid (show Calls Tryd.prog 19 #[.slice B7 a2.length d7, .string s] wr fun e w' => e = .returned (.bool false) ∧ wr = w' from HIN)
            have HP := Lib.hid hp
            have HO2 := Lib.hid (HOi.out.mt s).1
            have y0 : wr.cell? ⟨w.heap.size, 0, none⟩ = some (.slice ta tn tc) := (cell_of_row _ _ 0 _ _ _ H2i.out).trans rfl
            have y1 : wr.cell? ⟨w.heap.size, 1, none⟩ = some (.slice sa sn sc) := (cell_of_row _ _ 1 _ _ _ H2i.out).trans rfl
            have y2 : wr.cell? ⟨w.heap.size, 2, none⟩ = some (.string c0) := (cell_of_row _ _ 2 _ _ _ H2i.out).trans rfl
            have y3 : wr.cell? ⟨w.heap.size, 3, none⟩ = some (.string c1) := (cell_of_row _ _ 3 _ _ _ H2i.out).trans rfl
            clear hp
            go_wp2_with fail
            refine HIN.out.mono ?_
            rintro e w' ⟨rfl, rfl⟩
            clear x0 HIN
            go_wp2_with fail
            clear y0 y1 y2 y3
            refine HLD.out.mono ?_
            rintro e w2 (⟨k, P9, g, t, A, n, c, hld, rfl, hrd, hn2, hnc, hAr, hb⟩ | ⟨hld, rfl, hb⟩)
            · have HY2 := Lib.hid (show eaC (ldC L) (td.drop (j + 1)) (a2 ++ [(s, ⟨k, P9, g, t⟩)]) = Y from by have y := HYES.out (by rw [mtC_new HP.out hld]); rw [mtC_new HP.out hld] at y; exact y)
              have HO3 := Lib.hid (show AccOk (ldC L) (a2 ++ [(s, ⟨k, P9, g, t⟩)]) from by have y := HO2.out; rw [mtC_new HP.out hld] at y; exact y)
              have hb2 : Below w2.heap.size w2 (w2.alloc (.cells #[.int .i64 k, .slice A n c, .string g, .string t] 41 (0, 0))) := (Below.refl _ _).alloc (Nat.le_refl _) _
              have H13 := Lib.hid (blk_new w2 (.cells #[.int .i64 k, .slice A n c, .string g, .string t] 41 (0, 0)))
              have HX : Hid (RcIs (Nq (.slice B7 a2.length d7) (.slice B8 a2.length d8)) (w2.alloc (.cells #[.int .i64 k, .slice A n c, .string g, .string t] 41 (0, 0))) (k, (A, n, c), g, t) ⟨k, P9, g, t⟩) := Lib.hid ⟨rfl, rfl, rfl, hrd.below hb2, fun b o e _ => ⟨fun q => by have h1 := HDi.out.own.1 b q; have h2 := hAr b o e; omega, fun q => by have h1 := HDi.out.own.2 b q; have h2 := hAr b o e; omega⟩⟩
              have HD := Lib.hid ((HDi.out.kept hb).kept hb2)
              have HT := Lib.hid ((HTi.out.kept hb).kept hb2)
              have H2 := Lib.hid (blk_below (blk_below H2i.out hb) hb2)
              clear hld hrd hAr hb hb2 HNO HYES HLD HDi HTi H2i HO2 HP HOi
              go_upto_region 12 with (fail)
              generalize w2.alloc (.cells #[.int .i64 k, .slice A n c, .string g, .string t] 41 (0, 0)) = w3 at *
              generalize w2.heap.size = b13 at *
              have hz3 : w.heap.size ≤ w3.heap.size := HD.out.be.size
              have hbA : Below w3.heap.size w3 (w3.alloc (.cells #[.string s] 9 (0, 0))) := (Below.refl _ _).alloc (Nat.le_refl _) _
              have HDA := Lib.hid (HD.out.kept hbA)
              have HXA := Lib.hid (HX.out.of_td (HX.out.td.kept hbA))
              have HTA := Lib.hid (HT.out.kept hbA)
              have H2A := Lib.hid (blk_below H2.out hbA)
              have H13A := Lib.hid (blk_below H13.out hbA)
              clear hbA HD HX HT H2 H13
              go_wp2_with (at_builtin; refine wpList_appPo rfl (.tmp 45) (.tmp 47) 22 9 _ 16 rfl Tryd.underlying22 info_sC rfl (by omega) (by omega) stC_len stC_one w.heap.size w HDA.out.be HDA.out.be.size (.slice B7 a2.length d7) (a2.map (·.1)) rfl HDA.out.o w3.heap.size 1 s #[.string s] 9 (0, 0) rfl (heap_alloc_new w3 _) rfl (by rw [List.length_map]; omega) ?_)
              intro v7 w4 HO7 HB7 HG7 HA7
              have HA7 : Hid (v7.ownBlock = (Value.slice B7 a2.length d7).ownBlock ∨ v7.ownBlock = some (w3.alloc (.cells #[.string s] 9 (0, 0))).heap.size) := Lib.hid (by have y := HA7.out; simpa using y)
              have HDM := Lib.hid (HDA.out.pushL HXA.out HO7.out HG7.out HA7.out HB7.out)
              have HT4 := Lib.hid (HTA.out.gl HG7.out HA7.out)
              have H24 := Lib.hid (OwG.box (Or.inl (HDA.out.o.mono (Nat.zero_le _))) HG7.out H2A.out (by decide))
              have H134 := Lib.hid (OwG.box (Or.inl (HDA.out.o.mono (Nat.zero_le _))) HG7.out H13A.out (by decide))
              obtain ⟨A7n, c7n, rfl, _, _, _⟩ := HO7.out.rd stC_len
              have hbB : Below w4.heap.size w4 (w4.alloc (.cells #[.int .i64 k, .slice A n c, .string g, .string t] 41 (0, 0))) := (Below.refl _ _).alloc (Nat.le_refl _) _
              have HDB := Lib.hid (HDM.out.kept hbB)
              have HT5 := Lib.hid (HT4.out.kept hbB)
              have H25 := Lib.hid (blk_below H24.out hbB)
              have z0 : w4.cell? ⟨b13, 0, none⟩ = some (.int .i64 k) := (cell_of_row _ _ 0 _ _ _ H134.out).trans rfl
              have z1 : w4.cell? ⟨b13, 1, none⟩ = some (.slice A n c) := (cell_of_row _ _ 1 _ _ _ H134.out).trans rfl
              have z2 : w4.cell? ⟨b13, 2, none⟩ = some (.string g) := (cell_of_row _ _ 2 _ _ _ H134.out).trans rfl
              have z3 : w4.cell? ⟨b13, 3, none⟩ = some (.string t) := (cell_of_row _ _ 3 _ _ _ H134.out).trans rfl
              clear hbB HDA HXA HTA H2A H13A HO7 HB7 HG7 HA7 HDM HT4 H24 H134
              go_wp2_with (at_builtin; refine wpList_appPo rfl (.tmp 49) (.tmp 51) 33 41 _ 64 rfl Tryd.underlying33 info_cC rfl (by omega) (by omega) rcC_len rcC_one w.heap.size w HDB.out.be HDB.out.be.size (.slice B8 a2.length d8) rc2 rfl HDB.out.a w4.heap.size 1 (k, (A, n, c), g, t) #[.int .i64 k, .slice A n c, .string g, .string t] 41 (0, 0) rfl (heap_alloc_new w4 _) rfl (by omega) ?_)
              intro v8 w5 HO8 HB8 HG8 HA8
              clear z0 z1 z2 z3
              have HA8 : Hid (v8.ownBlock = (Value.slice B8 a2.length d8).ownBlock ∨ v8.ownBlock = some (w4.alloc (.cells #[.int .i64 k, .slice A n c, .string g, .string t] 41 (0, 0))).heap.size) := Lib.hid (by have y := HA8.out; simpa using y)
              have HDN := Lib.hid (HDB.out.pushR HO8.out HG8.out HA8.out HB8.out)
              have HT6 := Lib.hid (HT5.out.gr HG8.out HA8.out)
              have H26 := Lib.hid (OwG.box (Or.inl (HDB.out.a.mono (Nat.zero_le _))) HG8.out H25.out (by decide))
              obtain ⟨A8n, c8n, rfl, _, _, _⟩ := HO8.out.rd rcC_len
              have e7 : (a2.map (·.1) ++ [s]).length = (a2 ++ [(s, (⟨k, P9, g, t⟩ : Cm))]).length := by simp
              have e8 : (rc2 ++ [((k, (A, n, c), g, t) : RC)]).length = (a2 ++ [(s, (⟨k, P9, g, t⟩ : Cm))]).length := by simp [hrc]
              rw [e7, e8] at HDN HT6
              clear HDB HT5 H25 HO8 HB8 HG8 HA8 e7 e8
              go_wp2_with fail
              go_roundw
              case rel => exact ⟨j + 1, _, _, A7n, c7n, A8n, c8n, by go_num, by simp [hrc], by simp [hrc], by omega, HY2, HO3, HDN, HT6, H26⟩
              case measure => simp [intOf] <;> omega
            · have HZE := Lib.hid (show ZZ = (a2, false) from by
                have y := HNO.out (by rw [mtC_no HP.out hld])
                rw [mtC_no HP.out hld] at y
                have q := HE2.out
                rw [y, wkC_fail] at q
                exact q.symm)
              have hbk : bk = 13 := by rw [HBK.out, HZE.out]; rfl
              subst hbk
              have HB := Lib.hid ((HDi.out.be.trans (hb.mono HDi.out.be.size)).alloc (Nat.le_trans HDi.out.be.size hb.size) (.cells #[.int .i64 0, .slice none 0 0, .string ⟨#[]⟩, .string ⟨#[]⟩] 41 (0, 0)))
              clear hld hb HNO HYES HLD HDi HTi H2i HO2 HP HOi
              go_wp2_with fail
              refine bodyPost_ret (results_t3C rfl _ _) rfl ?_
              exact .inl ⟨by decide, rfl, HB.out⟩
        · have hd2 : decide ((j : Int) < (n9 : Int)) = false := decide_eq_false (by omega)
          have HYE := Lib.hid (show Y = (a2, true) from by
            have y := HEi.out
            rw [List.drop_of_length_le (by have := HTi.out.r.1; omega)] at y
            exact y.symm)
          have HE4 := Lib.hid (show wkC (ldC L) (100 - i) i (a2, true) = ZZ from by rw [← HYE.out]; exact HE2.out)
          clear HEi HE2 HYE
          by_cases hia2 : i < a2.length
          · have hd3 : decide ((i : Int) < (a2.length : Int)) = true := decide_eq_true (by omega)
            have hi0 : (0 : Int) ≤ (i : Int) := by omega
            have hi3 : (i : Int) < (a2.length : Int) := by omega
            obtain ⟨bb, off, hl2, rfl, hbb, hcell⟩ := hra.at hia2
            have c1 := hcell 1 _ rfl
            have hI := HDi.out.at' i _ _ (List.getElem?_eq_getElem hl2) (List.getElem?_eq_getElem hia2)
            have HE5 := Lib.hid (show wkC (ldC L) (100 - (i + 1)) (i + 1) (eaC (ldC L) (a2[i]).2.P a2) = ZZ from by
              have y := HE4.out
              rw [show 100 - i = (100 - (i + 1)) + 1 by omega, wkC_go (List.getElem?_eq_getElem hia2)] at y
              exact y)
            have HPL := Lib.hid (cm_par (HOi.out.ld _ (List.getElem_mem hia2)))
            obtain ⟨⟨x1, ⟨x2, x3, x4⟩, x5, x6⟩, hx⟩ : ∃ x, x = rc2[i] := ⟨_, rfl⟩
            rw [← hx] at c1 hI
            simp only at c1
            have HI := Lib.hid hI.td
            have hx3 : x3 ≤ 100000 := by have q := hI.r.1; have := HPL.out.1; simp only at q; omega
            clear hI hx hcell hbb HE4 hro
            go_wp2_with fail
            clear c1
            go_roundw
            case rel => exact ⟨i + 1, a2, rc2, x2, x3, x4, (a2[i]).2.P, B7, d7, _, d8, by go_num, rfl, rfl, rfl, by omega, hx3, Lib.hid (.inl ⟨by omega, HE5.out⟩), HOi, HDi, HI, H2i⟩
            case measure => simp [intOf] <;> omega
          · have hd3 : decide ((i : Int) < (a2.length : Int)) = false := decide_eq_false (by omega)
            have HZE := Lib.hid (show ZZ = (a2, true) from by
              have y := HE4.out
              rw [wkC_done (Nat.le_of_not_lt hia2)] at y
              exact y.symm)
            clear HE4 hro hra
            go_wp2_with fail
            go_roundw
            case rel => exact ⟨i + 1, a2, rc2, A9, n9, c9, td, B7, d7, B8, d8, by go_num, rfl, rfl, rfl, by omega, hn9, Lib.hid (.inr ⟨by omega, HZE.out⟩), HOi, HDi, HTi, H2i⟩
            case measure => simp [intOf] <;> omega
    · have hd1 : decide ((i : Int) ≤ (acc.length : Int)) = false := decide_eq_false (by omega)
      have HZE := Lib.hid (show ZZ = (acc, true) from by rcases HE.out with q | q; exact absurd q.1 hia; exact q.2)
      have HBK2 := Lib.hid (show bk = if fallsC L acc = true then 0 else 16 from by rw [HBK.out, HZE.out]; rfl)
      clear HE HT HBK
      obtain ⟨hro, hra⟩ := HD.out.rows
      have HRO := Lib.hid hro
      have HRA := Lib.hid hra
      have HAT := Lib.hid HD.out.at'
      have HBE := Lib.hid HD.out.be
      have hlen := HD.out.len
      have HPAR := Lib.hid (fun (c : Nc) (hc : c ∈ acc) => cm_par (HO.out.ld c hc))
      clear hro hra HD HO
      obtain ⟨wo, hwo⟩ : ∃ z, z = wr := ⟨_, rfl⟩
      subst hwo
      go_upto_region 20 with (fail)
      go_wp2_with fail
      go_loopw [65] (fun o65 wr => ∃ m : Nat, o65 = .int .i64 (m : Int) ∧ m ≤ acc.length ∧ Hid (((acc.take m).any fun c => c.2.P.any fun p => decide (c.2.k ≤ nmC L p)) = false) ∧ Hid (Below wo.heap.size wo wr)) (fun o65 _ => acc.length - (intOf o65).toNat)
      case atStart => exact ⟨0, rfl, Nat.zero_le _, Lib.hid rfl, Lib.hid (Below.refl _ _)⟩
      case round =>
        obtain ⟨m, rfl, hm, HA, HBw⟩ := hrel
        obtain ⟨wz, hwz⟩ : ∃ z, z = wr := ⟨_, rfl⟩
        subst hwz
        by_cases hlt : m < acc.length
        · have hd3 : decide ((m : Int) < (acc.length : Int)) = true := decide_eq_true (by omega)
          have hm0 : (0 : Int) ≤ (m : Int) := by omega
          obtain ⟨bb, off, hl2, rfl, hbb, hcell⟩ := (HRA.out.below HBw.out).at hlt
          have c0' := hcell 0 _ rfl
          have c1' := hcell 1 _ rfl
          have c2' := hcell 2 _ rfl
          have c3' := hcell 3 _ rfl
          rw [Nat.add_zero] at c0'
          have hI := HAT.out m _ _ (List.getElem?_eq_getElem hl2) (List.getElem?_eq_getElem hlt)
          have hTm := any_snocF (fun c : Nc => c.2.P.any fun p => decide (c.2.k ≤ nmC L p)) acc m hlt
          have hmem := List.getElem_mem hlt
          have hpar := HPAR.out _ hmem
          obtain ⟨⟨cn9, cm⟩, hcm⟩ : ∃ z, z = acc[m] := ⟨_, rfl⟩
          rw [← hcm] at hI hTm hmem hpar
          obtain ⟨⟨x1, ⟨x2, x3, x4⟩, x5, x6⟩, hx⟩ : ∃ x, x = rcs[m] := ⟨_, rfl⟩
          rw [← hx] at c0' c1' c2' c3' hI
          simp only at c0' c1' c2' c3' hTm hpar
          have HK1 : Hid (x1 = cm.k) := Lib.hid hI.k
          have HCM := Lib.hid hmem
          have HTM := Lib.hid hTm
          have hx3 : x3 ≤ 100000 := by have q := hI.r.1; have := hpar.1; simp only at q; omega
          have hbA : Below wz.heap.size wz (wz.alloc (.cells #[.int .i64 x1, .slice x2 x3 x4, .string x5, .string x6] 41 (0, 0))) := (Below.refl _ _).alloc (Nat.le_refl _) _
          have HBW2 := Lib.hid (HBw.out.trans (hbA.mono HBw.out.size))
          have H16 := Lib.hid (blk_new wz (.cells #[.int .i64 x1, .slice x2 x3 x4, .string x5, .string x6] 41 (0, 0)))
          have HPR := Lib.hid (show RdX stC 1 (wz.alloc (.cells #[.int .i64 x1, .slice x2 x3 x4, .string x5, .string x6] 41 (0, 0))) x2 x3 cm.P from (hI.r.below HBw.out).below hbA)
          have H2w := Lib.hid (blk_below (blk_below H2.out HBw.out) hbA)
          clear hI hx hcm hcell hbb hTm hmem hpar
          go_upto_region 22 with (fail)
          generalize wz.alloc (.cells #[.int .i64 x1, .slice x2 x3 x4, .string x5, .string x6] 41 (0, 0)) = wa at *
          generalize wz.heap.size = b16 at *
          have z1 : wa.cell? ⟨b16, 1, none⟩ = some (.slice x2 x3 x4) := (cell_of_row _ _ 1 _ _ _ H16.out).trans rfl
          clear c0' c1' c2' c3'
          go_wp2_with fail
          clear z1

          go_loopw [72] (fun o72 wr => ∃ j : Nat, o72 = .int .i64 (j : Int) ∧ j ≤ x3 ∧ Hid ((cm.P.take j).any (fun p => decide (cm.k ≤ nmC L p)) = false) ∧ Hid (Below wa.heap.size wa wr)) (fun o72 _ => x3 - (intOf o72).toNat)
          case atStart => exact ⟨0, rfl, Nat.zero_le _, Lib.hid rfl, Lib.hid (Below.refl _ _)⟩
          case round =>
            obtain ⟨j, rfl, hj, HPA, HBi⟩ := hrel
            by_cases hjt : j < x3
            · have hd4 : decide ((j : Int) < (x3 : Int)) = true := decide_eq_true (by omega)
              have hj0 : (0 : Int) ≤ (j : Int) := by omega
              obtain ⟨bq, ofq, hq2, rfl, hbq, hcq⟩ := (HPR.out.below HBi.out).at hjt
              have x0 := hcq 0 _ rfl
              have hPT := any_snocF (fun p : ByteArray => decide (cm.k ≤ nmC L p)) cm.P j hq2
              have hpm := List.getElem_mem hq2
              obtain ⟨p, hp⟩ : ∃ p, p = cm.P[j] := ⟨_, rfl⟩
              rw [← hp, Nat.mul_one, Nat.add_zero] at x0
              rw [← hp] at hPT hpm
              have HPT := Lib.hid hPT
              have HPM := Lib.hid hpm
              have HLD := Lib.hid (rload_any (c0 := c0) (c1 := c1) p (HSH.out.below (HBE.out.trans ((HBW2.out.trans (HBi.out.mono HBW2.out.size)).mono HBE.out.size))) (by omega) (HL.out p))
              have H2r := Lib.hid (blk_below H2w.out HBi.out)
              have y0 : wr.cell? ⟨w.heap.size, 0, none⟩ = some (.slice ta tn tc) := (cell_of_row _ _ 0 _ _ _ H2r.out).trans rfl
              have y1 : wr.cell? ⟨w.heap.size, 1, none⟩ = some (.slice sa sn sc) := (cell_of_row _ _ 1 _ _ _ H2r.out).trans rfl
              have y2 : wr.cell? ⟨w.heap.size, 2, none⟩ = some (.string c0) := (cell_of_row _ _ 2 _ _ _ H2r.out).trans rfl
              have y3 : wr.cell? ⟨w.heap.size, 3, none⟩ = some (.string c1) := (cell_of_row _ _ 3 _ _ _ H2r.out).trans rfl
              clear hp hPT hpm hcq hbq H2r
              go_wp2_with fail
              refine HLD.out.mono ?_
              rintro e w2 (⟨k, P9, g, t, A, n, c, hld, rfl, hrd, hn2, hnc, hAr, hb⟩ | ⟨hld, rfl, hb⟩)
              · skip
                have HNM := Lib.hid (show nmC L p = k from by unfold nmC; rw [hld]; rfl)
                have hb2 : Below w2.heap.size w2 (w2.alloc (.cells #[.int .i64 k, .slice A n c, .string g, .string t] 41 (0, 0))) := (Below.refl _ _).alloc (Nat.le_refl _) _
                have HBn := Lib.hid ((HBi.out.trans (hb.mono HBi.out.size)).trans (hb2.mono (Nat.le_trans HBi.out.size hb.size)))
                have H19 := Lib.hid (blk_new w2 (.cells #[.int .i64 k, .slice A n c, .string g, .string t] 41 (0, 0)))
                clear hld hb hb2 hrd hn2 hnc hAr HLD y0 y1 y2 y3 x0
                go_upto_region 26 with (fail)
                generalize w2.alloc (.cells #[.int .i64 k, .slice A n c, .string g, .string t] 41 (0, 0)) = w3 at *
                generalize w2.heap.size = b19 at *
                have z0 : w3.cell? ⟨b19, 0, none⟩ = some (.int .i64 k) := (cell_of_row _ _ 0 _ _ _ H19.out).trans rfl
                have z1 : w3.cell? ⟨b16, 0, none⟩ = some (.int .i64 x1) := (cell_of_row _ _ 0 _ _ _ (blk_below H16.out HBn.out)).trans rfl
                by_cases hge : x1 ≤ k
                · have hd5 : decide (k ≥ x1) = true := decide_eq_true hge
                  have hd6 : decide (x1 ≤ k) = true := decide_eq_true hge
                  have hbk : bk = 16 := by
                    rw [HBK2.out, if_neg]
                    unfold fallsC
                    rw [show (acc.any fun c => c.2.P.any fun p => decide (c.2.k ≤ nmC L p)) = true from List.any_eq_true.2 ⟨_, HCM.out, List.any_eq_true.2 ⟨p, HPM.out, by rw [HNM.out, ← HK1.out]; exact hd6⟩⟩]
                    simp
                  subst hbk
                  have HBE9 := Lib.hid (HBE.out.trans ((HBW2.out.trans (HBn.out.mono HBW2.out.size)).mono HBE.out.size))
                  go_wp2_with fail
                  refine bodyPost_ret (results_t3C rfl _ _) rfl ?_
                  exact .inl ⟨by decide, rfl, HBE9.out⟩
                · have hd5 : decide (k ≥ x1) = false := decide_eq_false hge
                  have hd6 : decide (x1 ≤ k) = false := decide_eq_false hge
                  have HPN := Lib.hid (show (cm.P.take (j + 1)).any (fun p => decide (cm.k ≤ nmC L p)) = false from by rw [HPT.out, HPA.out, HNM.out, ← HK1.out, hd6]; rfl)
                  clear hge HNM H19
                  go_wp2_with fail
                  clear z0 z1
                  go_roundw
                  case rel => exact ⟨j + 1, by go_num, by omega, HPN, HBn⟩
                  case measure => simp [intOf] <;> omega
              · skip
                have HNM := Lib.hid (show nmC L p = 0 from by unfold nmC; rw [hld]; rfl)
                have hb2 : Below w2.heap.size w2 (w2.alloc (.cells #[.int .i64 0, .slice none 0 0, .string ⟨#[]⟩, .string ⟨#[]⟩] 41 (0, 0))) := (Below.refl _ _).alloc (Nat.le_refl _) _
                have HBn := Lib.hid ((HBi.out.trans (hb.mono HBi.out.size)).trans (hb2.mono (Nat.le_trans HBi.out.size hb.size)))
                have H19 := Lib.hid (blk_new w2 (.cells #[.int .i64 0, .slice none 0 0, .string ⟨#[]⟩, .string ⟨#[]⟩] 41 (0, 0)))
                clear hld hb hb2  HLD y0 y1 y2 y3 x0
                go_upto_region 26 with (fail)
                generalize w2.alloc (.cells #[.int .i64 0, .slice none 0 0, .string ⟨#[]⟩, .string ⟨#[]⟩] 41 (0, 0)) = w3 at *
                generalize w2.heap.size = b19 at *
                have z0 : w3.cell? ⟨b19, 0, none⟩ = some (.int .i64 0) := (cell_of_row _ _ 0 _ _ _ H19.out).trans rfl
                have z1 : w3.cell? ⟨b16, 0, none⟩ = some (.int .i64 x1) := (cell_of_row _ _ 0 _ _ _ (blk_below H16.out HBn.out)).trans rfl
                by_cases hge : x1 ≤ 0
                · have hd5 : decide (0 ≥ x1) = true := decide_eq_true hge
                  have hd6 : decide (x1 ≤ 0) = true := decide_eq_true hge
                  have hbk : bk = 16 := by
                    rw [HBK2.out, if_neg]
                    unfold fallsC
                    rw [show (acc.any fun c => c.2.P.any fun p => decide (c.2.k ≤ nmC L p)) = true from List.any_eq_true.2 ⟨_, HCM.out, List.any_eq_true.2 ⟨p, HPM.out, by rw [HNM.out, ← HK1.out]; exact hd6⟩⟩]
                    simp
                  subst hbk
                  have HBE9 := Lib.hid (HBE.out.trans ((HBW2.out.trans (HBn.out.mono HBW2.out.size)).mono HBE.out.size))
                  go_wp2_with fail
                  refine bodyPost_ret (results_t3C rfl _ _) rfl ?_
                  exact .inl ⟨by decide, rfl, HBE9.out⟩
                · have hd5 : decide (0 ≥ x1) = false := decide_eq_false hge
                  have hd6 : decide (x1 ≤ 0) = false := decide_eq_false hge
                  have HPN := Lib.hid (show (cm.P.take (j + 1)).any (fun p => decide (cm.k ≤ nmC L p)) = false from by rw [HPT.out, HPA.out, HNM.out, ← HK1.out, hd6]; rfl)
                  clear hge HNM H19
                  go_wp2_with fail
                  clear z0 z1
                  go_roundw
                  case rel => exact ⟨j + 1, by go_num, by omega, HPN, HBn⟩
                  case measure => simp [intOf] <;> omega
            · have hd4 : decide ((j : Int) < (x3 : Int)) = false := decide_eq_false (by omega)
              have HA2 := Lib.hid (show ((acc.take (m + 1)).any fun c => c.2.P.any fun p => decide (c.2.k ≤ nmC L p)) = false from by
                rw [HTM.out, HA.out]
                have y := HPA.out
                rw [List.take_of_length_le (by have := HPR.out.1; omega)] at y
                rw [y]
                rfl)
              have HBw2 := Lib.hid (HBW2.out.trans (HBi.out.mono HBW2.out.size))
              clear HA HPA HPR H16 H2w
              go_wp2_with fail
              go_roundw
              case rel => exact ⟨m + 1, by go_num, by omega, HA2, HBw2⟩
              case measure => simp [intOf] <;> omega
        · have hd3 : decide ((m : Int) < (acc.length : Int)) = false := decide_eq_false (by omega)
          have hbk : bk = 0 := by
            rw [HBK2.out, if_pos]
            unfold fallsC
            have y := HA.out
            rw [List.take_of_length_le (Nat.le_of_not_lt hlt)] at y
            rw [y]
            rfl
          have HBK0 := Lib.hid hbk
          clear hbk
          have HB9 := Lib.hid (HBE.out.trans (HBw.out.mono HBE.out.size))
          have HRO9 := Lib.hid (HRO.out.below HBw.out)
          have HRA9 := Lib.hid (HRA.out.below HBw.out)
          have HAT9 := Lib.hid (fun (i : Nat) (x : RC) (c : Nc) (hx : rcs[i]? = some x) (hc : acc[i]? = some c) => show RcIs (fun _ => True) wz x c.2 from ⟨(HAT.out i x c hx hc).k, (HAT.out i x c hx hc).g, (HAT.out i x c hx hc).t, (HAT.out i x c hx hc).r.below HBw.out, fun _ _ _ _ => trivial⟩)
          go_wp2_with fail
          refine bodyPost_ret (results_t3C rfl _ _) rfl ?_
          exact .inr ⟨HBK0.out, A7, acc.length, c7, A8, c8, rcs, rfl, by rw [HZE.out]; exact HRO9.out, HRA9.out, by rw [HZE.out]; exact HAT9.out, HB9.out⟩
end
end Go.Proofs.YtiflieaemgamkaaDoor

namespace Go.Proofs.YtiflieaemgamkaaDoor
open Go.RowKit Vi

theorem AccOk.wk {ld : ByteArray → Option Cm} : ∀ (f i : Nat) (a : List Nc × Bool), AccOk ld a.1 → AccOk ld (wkC ld f i a).1
  | 0, _, _, h => h
  | f + 1, i, (a, true), h => by
    cases hx : a[i]? with
    | none => rw [wkC, if_pos rfl]; simp only [hx]; exact h
    | some x => rw [wkC_go hx]; exact AccOk.wk f (i + 1) _ (AccOk.ea x.2.P h).1
  | f + 1, i, (a, false), h => by rw [wkC_fail]; exact h
theorem wl_ok (L : List Ob) (ns : List ByteArray) : AccOk (ldC L) (wlC L ns).1 := AccOk.wk 100 0 _ (AccOk.ea ns AccOk.nil).1
theorem wl_len (L : List Ob) (ns : List ByteArray) : (wlC L ns).1.length ≤ L.length := (wl_ok L ns).len
theorem wl_par (L : List Ob) (ns : List ByteArray) : ∀ c ∈ (wlC L ns).1, c.2.P.length ≤ 2 := fun c hc => (cm_par ((wl_ok L ns).ld c hc)).1
section
variable {L : List Ob} {c0 c1 : ByteArray} {z D : Nat} {w : World}
theorem Rw.rows {R : Nat} {acc : List Nc} {rcs : List RC} (h : Rw D R acc rcs w) : ∃ na nc ca cc B, w.heap[R]? = some (rwO D na acc.length nc ca acc.length cc B) ∧ RdX stC 1 w na acc.length (acc.map (·.1)) ∧ RdX rcC 4 w ca acc.length rcs := by
  obtain ⟨na, nn, nc, ca, cn, cc, B, h1, h2, h3, h4⟩ := h.box
  obtain ⟨_, _, e, hr, _, _⟩ := h2.rd stC_len
  injection e with e1 e2 e3
  subst e1 e2 e3
  obtain ⟨_, _, e, hr2, _, _⟩ := h3.rd rcC_len
  injection e with e1 e2 e3
  subst e1 e2 e3
  rw [List.length_map] at h1 hr
  rw [h.len] at h1 hr2
  exact ⟨_, _, _, _, _, h1, hr, hr2⟩
set_option maxRecDepth 100000 in
set_option maxHeartbeats 8000000 in
theorem cback_any (A : Option Addr) (n c : Nat) (ns : List ByteArray) (hS : SK D L c0 c1 z w) (hr : RdX stC 1 w A n ns) (hn : n ≤ 100000) (hz : ∀ s ∈ ns, s.size ≤ maxLen) (hll : L.length ≤ 90) (hL : ∀ s, ((getO L s).getD ⟨#[]⟩).size ≤ 1000000) :
    Calls Tryd.prog 9 #[.pointer (some ⟨D, 0, none⟩), .slice A n c] w (BkP L ns w) := by
  have HW := Lib.hid (walk_any A n c ns hS hr hn hz hll hL)
  unfold BkP
  obtain ⟨bk, hbk⟩ : ∃ z, z = bkC L ns := ⟨_, rfl⟩
  obtain ⟨acc, hacc⟩ : ∃ z, z = (wlC L ns).1 := ⟨_, rfl⟩
  rw [← hbk, ← hacc] at HW
  rw [← hbk, ← hacc]
  clear hS hr hz hL hbk hacc
  go_enter Tryd.func9, Tryd.ntmps9
  go_wp2_with fail
  refine HW.out.mono ?_
  rintro e w1 ⟨R, rcs, rfl, hx⟩
  have HX := Lib.hid hx
  clear hx HW
  by_cases hq : bk = 0
  · have hd1 : (bk != 0) = false := by rw [hq]; rfl
    have HQ := Lib.hid hq
    obtain ⟨na, nc, ca, cc, B, h1, hr1, hr2⟩ := HX.out.rw.rows
    have x1 := (rw_cells h1).2.1
    have x2 := (rw_cells h1).2.2.1
    have HR1 := Lib.hid hr1
    have HR2 := Lib.hid hr2
    clear hq h1 hr1 hr2
    go_upto_region 4 with (fail)
    have r1 := fun d os => cell_regrown x1 d os
    have r2 := fun d os => cell_regrown x2 d os
    refine wp_region_quiet_below (by kernel_rfl) (by kernel_rfl) ?_
    repeat (any_goals (first | go_big_quiet_step (fail) | quiet_step (fail)))
    refine wpQuiet_nil ?_
    intro w2 hw2
    have hb2 := below_anyY hw2
    clear hw2 r1 r2 x1 x2
    have HA := Lib.hid (fun (i : Nat) (x : RC) (c : Nc) (hx : rcs[i]? = some x) (hc : acc[i]? = some c) => show RcIs (fun _ => True) w2 x c.2 from by
      have y := HX.out.rw.at' i x c hx hc
      exact ⟨y.k, y.g, y.t, y.r.below hb2, fun _ _ _ _ => trivial⟩)
    have HB := Lib.hid (HX.out.bel.trans (hb2.mono HX.out.sz))
    have HR1 := Lib.hid (HR1.out.below hb2)
    have HR2 := Lib.hid (HR2.out.below hb2)
    clear hb2 HX
    go_wp2_with fail
    refine bodyPost_ret (results_t3C rfl _ _) rfl ?_
    exact .inr ⟨HQ.out, na, acc.length, nc, ca, cc, rcs, rfl, HR1.out, HR2.out, HA.out, HB.out⟩
  · have hd1 : (bk != 0) = true := by rw [bne_iff_ne]; exact hq
    have HQ := Lib.hid hq
    clear hq
    go_wp2_with fail
    refine bodyPost_ret (results_t3C rfl _ _) rfl ?_
    exact .inl ⟨HQ.out, rfl, HX.out.bel⟩
end
end Go.Proofs.YtiflieaemgamkaaDoor

namespace Go.Proofs.YtiflieaemgamkaaDoor
open Go.RowKit Vi

theorem strS_rd {w : World} {a : Option Addr} {n : Nat} {l : List ByteArray} (h : StrS w a n l) : RdX stC 1 w a n l := by
  refine ⟨h.1, fun hp => ?_⟩
  obtain ⟨b, off, rfl, hc⟩ := h.2 hp
  refine ⟨b, off, rfl, World.block_lt_of_cell? w _ (hc 0 (by rw [h.1]; exact hp)), fun k x j u hx hu => ?_⟩
  obtain ⟨hk, rfl⟩ := List.getElem?_eq_some_iff.1 hx
  cases j with
  | zero =>
    have e : u = .string l[k] := by simpa [stC] using hu.symm
    subst e
    have q := hc k hk
    rw [Nat.mul_one, Nat.add_zero]
    exact q
  | succ j => simp [stC] at hu
theorem rd_slnC {w : World} {A : Option Addr} {n : Nat} {l : List ByteArray} (h : RdX stC 1 w A n l) : SlN w A n l := by
  refine ⟨h.1, fun hp => ?_⟩
  obtain ⟨b, off, rfl, _, hc⟩ := h.2 hp
  exact ⟨b, off, rfl, fun i hi => by have q := hc i l[i] 0 (.string l[i]) (List.getElem?_eq_getElem hi) rfl; simpa using q⟩
theorem txC_same (A : Option Addr) (ca : Nat) (B : Option Addr) (cb n : Nat) (l : List ByteArray) (w : World) (h1 : RdX stC 1 w A n l) (h2 : RdX stC 1 w B n l) (hn : n ≤ 1000000) :
    Calls Tryd.prog 11 #[.slice A n ca, .slice B n cb] w fun e w' => e = .returned (.bool true) ∧ Below w.heap.size w w' := of_drew (texts_same A ca B cb n l w (rd_slnC h1) (rd_slnC h2) hn)
theorem ShR.ks {D : Nat} {L : List Ob} {ta : Option Addr} {tn tc : Nat} {sa : Option Addr} {sn sc : Nat} {w w' : World} (h : ShR (fun b => ¬ InS D w b) L ta tn tc sa sn sc w) (k : Ks D w w') : ShR (fun b => ¬ InS D w' b) L ta tn tc sa sn sc w' :=
  ⟨h.t.blocksC (fun b o e hn hl => k.block b hl (h.pt b o e hn)) k.size, h.s.blocksC (fun b o e hn hl => k.block b hl (h.ps b o e hn)) k.size, h.tl, h.tm, h.sl, h.sm, fun b o e hn q => h.pt b o e hn (k.ind b (h.t.ltC e hn) q), fun b o e hn q => h.ps b o e hn (k.ind b (h.s.ltC e hn) q)⟩
theorem ofL_len (ts : List ByteArray) : (ofL ts).length ≤ ts.length := by
  have h : ∀ (r : List ByteArray) (L : List Ob), (r.foldl putL L).length ≤ L.length + r.length := by
    intro r
    induction r with
    | nil => intro L; simp
    | cons t r ih =>
      intro L
      rw [List.foldl_cons]
      have h1 := ih (putL L t)
      have h2 : (putL L t).length ≤ L.length + 1 := by
        unfold putL
        split
        · rw [List.length_append]; simp
        · omega
      rw [List.length_cons]
      omega
  have := h ts []
  simpa [ofL] using this
theorem li_size {L : List Ob} (h : LI L) (s : ByteArray) : ((getO L s).getD ⟨#[]⟩).size ≤ 1000000 := by
  cases hg : getO L s with
  | none => show (0 : Nat) ≤ _; omega
  | some u =>
    obtain ⟨x, hx, e⟩ := get_memC hg
    have := (h x hx).2.2
    rw [e] at this
    show u.size ≤ _
    omega
theorem cat_sz {l : List ByteArray} {s : ByteArray} (h : s ∈ l) : s.size ≤ (catS l).length := by
  obtain ⟨k, hk, rfl⟩ := List.getElem_of_mem h
  have := catS_le l k hk
  omega
set_option linter.unusedSimpArgs false in
set_option maxRecDepth 100000 in
set_option maxHeartbeats 16000000 in
theorem commitback_any (A1 : Option Addr) (n1 d1 : Nat) (ts : List ByteArray) (A2 : Option Addr) (n2 d2 : Nat) (ns : List ByteArray) (w : World) (h1 : StrS w A1 n1 ts) (hz1 : ∀ s ∈ ts, s.size ≤ maxLen) (hm1 : n1 ≤ maxLen) (h2 : StrS w A2 n2 ns) (hz2 : ∀ s ∈ ns, s.size ≤ maxLen) (hm2 : n2 ≤ maxLen) (hT : HTab w) :
    Calls Tryd.prog 3 #[.slice A1 n1 d1, .slice A2 n2 d2] w fun e w' => e = .returned (.bool true) ∧ Below w.heap.size w w' := by
  unfold maxLen at hm1 hm2
  have HT := Lib.hid hT
  have H1 := Lib.hid h1
  have H2 := Lib.hid h2
  have HZ1 := Lib.hid hz1
  have HZ2 := Lib.hid hz2
  have HAW := Lib.hid (fun (W : World) (hb : Below w.heap.size w W) => awake35_any W (hT.later hb))
  clear hT h1 h2 hz1 hz2
  go_enter Tryd.func3, Tryd.ntmps3
  by_cases q1 : 30 < n1
  · have t1 : decide ((n1 : Int) > 30) = true := decide_eq_true (by omega)
    have t2 : decide (30 < (n1 : Int)) = true := decide_eq_true (by omega)
    have t3 : decide (30 < n1) = true := decide_eq_true q1
    go_wp2_with fail
    refine (HAW.out w (Below.refl _ _)).mono ?_
    rintro e w9 ⟨rfl, hb9⟩
    have HB9 := Lib.hid hb9
    clear hb9
    go_wp2_with fail
    go_ret
    exact ⟨rfl, HB9.out⟩
  have t1 : decide ((n1 : Int) > 30) = false := decide_eq_false (by omega)
  have t2 : decide (30 < (n1 : Int)) = false := decide_eq_false (by omega)
  have t3 : decide (30 < n1) = false := decide_eq_false q1
  go_wp2_with fail
  refine (tbytes_any A1 n1 d1 ts w H1.out (by omega) HZ1.out).mono ?_
  rintro e w' ⟨⟨r1, rfl, hr1⟩, rfl⟩
  by_cases q2 : 5000 < r1
  · have t4 : decide ((r1 : Int) > 5000) = true := decide_eq_true (by omega)
    have t5 : decide (5000 < (r1 : Int)) = true := decide_eq_true (by omega)
    have t6 : decide (5000 < r1) = true := decide_eq_true q2
    go_wp2_with fail
    refine (HAW.out w (Below.refl _ _)).mono ?_
    rintro e w9 ⟨rfl, hb9⟩
    have HB9 := Lib.hid hb9
    clear hb9
    go_wp2_with fail
    go_ret
    exact ⟨rfl, HB9.out⟩
  have t4 : decide ((r1 : Int) > 5000) = false := decide_eq_false (by omega)
  have t5 : decide (5000 < (r1 : Int)) = false := decide_eq_false (by omega)
  have t6 : decide (5000 < r1) = false := decide_eq_false q2
  clear hr1
  by_cases q3 : 5 < n2
  · have t7 : decide ((n2 : Int) > 5) = true := decide_eq_true (by omega)
    have t8 : decide (5 < (n2 : Int)) = true := decide_eq_true (by omega)
    have t9 : decide (5 < n2) = true := decide_eq_true q3
    go_wp2_with fail
    refine (HAW.out w (Below.refl _ _)).mono ?_
    rintro e w9 ⟨rfl, hb9⟩
    have HB9 := Lib.hid hb9
    clear hb9
    go_wp2_with fail
    go_ret
    exact ⟨rfl, HB9.out⟩
  have t7 : decide ((n2 : Int) > 5) = false := decide_eq_false (by omega)
  have t8 : decide (5 < (n2 : Int)) = false := decide_eq_false (by omega)
  have t9 : decide (5 < n2) = false := decide_eq_false q3
  go_wp2_with fail
  refine (tbytes_any A2 n2 d2 ns w H2.out (by omega) HZ2.out).mono ?_
  rintro e w' ⟨⟨r2, rfl, hr2⟩, rfl⟩
  by_cases q4 : 500 < r2
  · have ta : decide ((r2 : Int) > 500) = true := decide_eq_true (by omega)
    have tb : decide (500 < (r2 : Int)) = true := decide_eq_true (by omega)
    have tc : decide (500 < r2) = true := decide_eq_true q4
    go_wp2_with fail
    refine (HAW.out w (Below.refl _ _)).mono ?_
    rintro e w9 ⟨rfl, hb9⟩
    have HB9 := Lib.hid hb9
    clear hb9
    go_wp2_with fail
    go_ret
    exact ⟨rfl, HB9.out⟩
  have ta : decide ((r2 : Int) > 500) = false := decide_eq_false (by omega)
  have tb : decide (500 < (r2 : Int)) = false := decide_eq_false (by omega)
  have tc : decide (500 < r2) = false := decide_eq_false q4
  have HR1 := Lib.hid (strS_rd H1.out)
  have HR2 := Lib.hid (strS_rd H2.out)
  go_wp2_with fail
  clear t1 t2 t3 t4 t5 t6 t7 t8 t9 ta tb tc hr2
  refine (snew_any w).mono ?_
  rintro e w1 hr
  obtain ⟨D, rfl, hsw⟩ := NewS.sw (Below.refl _ w) hr
  have HSW := Lib.hid hsw
  clear hr hsw
  go_wp2_with fail
  refine (rof_any A1 n1 d1 ts w1 (HR1.out.below HSW.out.bel) (by omega)).mono ?_
  rintro e w2 ⟨ta, tn, tc, sa, sn, sc, c0, c1, rfl, hsh, hli, hb⟩
  have hb2 : Below w2.heap.size w2 (w2.alloc (.cells #[.slice ta tn tc, .slice sa sn sc, .string c0, .string c1] 28 (0, 0))) := (Below.refl _ _).alloc (Nat.le_refl _) _
  have HSW3 := Lib.hid ((HSW.out.below hb).below hb2)
  have H6 := Lib.hid (blk_new w2 (.cells #[.slice ta tn tc, .slice sa sn sc, .string c0, .string c1] 28 (0, 0)))
  have HLI := Lib.hid hli
  have h6n : ¬ InS D (w2.alloc (.cells #[.slice ta tn tc, .slice sa sn sc, .string c0, .string c1] 28 (0, 0))) w2.heap.size := fun q => by
    have y := HSW.out.sk.new ((q.back hb2 (Nat.lt_of_lt_of_le HSW.out.sk.lt hb.size)).back hb HSW.out.sk.lt)
    have := hb.size
    omega
  have H6N := Lib.hid h6n
  have HSH3 : Hid (ShR (fun b => ¬ InS D (w2.alloc (.cells #[.slice ta tn tc, .slice sa sn sc, .string c0, .string c1] 28 (0, 0))) b) (ofL ts) ta tn tc sa sn sc (w2.alloc (.cells #[.slice ta tn tc, .slice sa sn sc, .string c0, .string c1] 28 (0, 0)))) := Lib.hid ((hsh.below hb2).weak (fun b hb3 q => by
    have y := HSW.out.sk.new ((q.back hb2 (Nat.lt_of_lt_of_le HSW.out.sk.lt hb.size)).back hb HSW.out.sk.lt)
    omega))
  clear hsh hli hb hb2 h6n HSW
  go_upto_region 4 with (fail)
  generalize w2.alloc (.cells #[.slice ta tn tc, .slice sa sn sc, .string c0, .string c1] 28 (0, 0)) = w3 at *
  generalize w2.heap.size = p6 at *
  go_wp2_with fail
  go_loopw [42] (fun o42 wr => ∃ (j : Nat) (e0 e1 : ByteArray), o42 = .int .i64 (j : Int) ∧ j ≤ n1 ∧ Hid (SW w.heap.size w D (ofL (ts.take j)) e0 e1 j wr) ∧ Hid (wr.heap[p6]? = some (.cells #[.slice ta tn tc, .slice sa sn sc, .string c0, .string c1] 28 (0, 0))) ∧ Hid (¬ InS D wr p6) ∧ Hid (ShR (fun b => ¬ InS D wr b) (ofL ts) ta tn tc sa sn sc wr)) (fun o42 _ => n1 - (intOf o42).toNat)
  case atStart => exact ⟨0, ⟨#[]⟩, ⟨#[]⟩, rfl, Nat.zero_le _, HSW3, H6, H6N, HSH3⟩
  case round =>
    obtain ⟨j, e0, e1, rfl, hj, HS, H6, H6N, HSH⟩ := hrel
    clear HSW3 HSH3
    by_cases hlt : j < n1
    · have hd1 : decide ((j : Int) < (n1 : Int)) = true := decide_eq_true (by omega)
      have hi0 : (0 : Int) ≤ (j : Int) := by omega
      obtain ⟨b, off, hl2, rfl, hbb, hcell⟩ := (HR1.out.below HS.out.bel).at hlt
      obtain ⟨t, ht⟩ : ∃ t, t = ts[j] := ⟨_, rfl⟩
      have x0 := hcell 0 (.string ts[j]) rfl
      rw [← ht, Nat.mul_one, Nat.add_zero] at x0
      have HLs := Lib.hid (show ofL (ts.take (j + 1)) = putL (ofL (ts.take j)) t by rw [ofL_snoc ts j hl2, ht])
      have hle : (ofL (ts.take j)).length ≤ j := Nat.le_trans (ofL_len _) (by rw [List.length_take]; omega)
      have HPT := Lib.hid (sputT_any w.heap.size w D (ofL (ts.take j)) e0 e1 j t wr HS.out HT.out (Nat.le_refl _) (by omega) (by omega))
      unfold RetPut at HPT
      rw [← HLs.out] at HPT
      obtain ⟨ee, hee⟩ : ∃ z, z = putE (ofL (ts.take j)) t := ⟨_, rfl⟩
      rw [← hee] at HPT
      generalize putA (ofL (ts.take j)) e0 e1 t = f0 at *
      generalize putB (ofL (ts.take j)) e0 e1 t = f1 at *
      generalize putN (ofL (ts.take j)) t = nn at *
      clear hcell hbb ht hee
      go_wp2_with fail
      clear x0
      refine HPT.out.mono ?_
      rintro e w4 ⟨rfl, hs4, hk4⟩
      have HS4 := Lib.hid hs4
      have H64 := Lib.hid ((hk4.block _ (lt_of_block H6.out) H6N.out).trans H6.out)
      have H6N4 := Lib.hid (fun q => H6N.out (hk4.ind _ (lt_of_block H6.out) q))
      have HSH4 := Lib.hid (HSH.out.ks hk4)
      clear hs4 hk4 HS H6 H6N HSH HPT
      by_cases hq : ee = 15
      · have hd5 : (ee == 15) = true := by rw [hq]; rfl
        clear hq
        go_wp2_with fail
        refine (HAW.out w4 HS4.out.bel).mono ?_
        rintro e w5 ⟨rfl, hb⟩
        have HB := Lib.hid (HS4.out.bel.trans (hb.mono HS4.out.sz))
        clear hb
        go_wp2_with fail
        go_ret
        exact ⟨rfl, HB.out⟩
      · have hd5 : (ee == 15) = false := by rw [beq_eq_false_iff_ne]; exact hq
        clear hq
        go_wp2_with fail
        go_roundw
        case rel => exact ⟨j + 1, f0, f1, by go_num, by omega, HS4, H64, H6N4, HSH4⟩
        case measure => simp [intOf] <;> omega
    · have hd1 : decide ((j : Int) < (n1 : Int)) = false := decide_eq_false (by omega)
      obtain ⟨L, hL⟩ : ∃ L, L = ofL ts := ⟨_, rfl⟩
      have hLe : ofL (ts.take j) = L := by rw [hL, List.take_of_length_le (by have := HR1.out.1; omega)]
      have hll : L.length ≤ 30 := by rw [hL]; exact Nat.le_trans (ofL_len _) (by have := HR1.out.1; omega)
      rw [hLe] at HS
      rw [← hL] at HSH HLI
      have HLS := Lib.hid (li_size HLI.out)
      clear hL hLe HLI
      obtain ⟨wo, hwo⟩ : ∃ z, z = wr := ⟨_, rfl⟩
      subst hwo
      have HRN := Lib.hid (HR2.out.below HS.out.bel)
      have HCB := Lib.hid (cback_any A2 n2 d2 ns HS.out.sk HRN.out (by omega) HZ2.out (by omega) HLS.out)
      unfold BkP at HCB
      have HRB := Lib.hid (fun (W : World) (hb : Below wo.heap.size wo W) => rback_any (c0 := c0) (c1 := c1) A2 n2 d2 ns (HSH.out.below hb) (HRN.out.below hb) (by omega) (by omega) HLS.out)
      unfold BkP at HRB
      have HAL := Lib.hid (show (wlC L ns).1.length ≤ 30 from Nat.le_trans (show (wlC L ns).1.length ≤ L.length from (wl_len L ns)) hll)
      have HPAR := Lib.hid (wl_par L ns)
      generalize bkC L ns = bk at *
      generalize (wlC L ns).1 = acc at *
      go_wp2_with fail
      refine HCB.out.mono ?_
      clear HCB
      rintro e w4 (⟨hk, rfl, hb⟩ | ⟨hk, Aa, na, ca, Ba, ba, rca, rfl, hra, hca, hia, hb⟩)
      · have HK := Lib.hid hk
        have HB4 := Lib.hid hb
        have H64 := Lib.hid (blk_below H6.out hb)
        clear hk hb
        have y0 : w4.cell? ⟨p6, 0, none⟩ = some (.slice ta tn tc) := (cell_of_row _ _ 0 _ _ _ H64.out).trans rfl
        have y1 : w4.cell? ⟨p6, 1, none⟩ = some (.slice sa sn sc) := (cell_of_row _ _ 1 _ _ _ H64.out).trans rfl
        have y2 : w4.cell? ⟨p6, 2, none⟩ = some (.string c0) := (cell_of_row _ _ 2 _ _ _ H64.out).trans rfl
        have y3 : w4.cell? ⟨p6, 3, none⟩ = some (.string c1) := (cell_of_row _ _ 3 _ _ _ H64.out).trans rfl
        go_wp2_with fail
        clear y0 y1 y2 y3
        refine (HRB.out w4 HB4.out).mono ?_
        rintro e w5 (⟨_, rfl, hb⟩ | ⟨hk, _⟩)
        rotate_left
        · exact absurd hk HK.out
        have HB5 := Lib.hid (HB4.out.trans (hb.mono HB4.out.size))
        clear hb HB4
        go_wp2_with fail
        refine (txC_same none 0 none 0 0 [] w5 ⟨rfl, fun h => by omega⟩ ⟨rfl, fun h => by omega⟩ (by omega)).mono ?_
        rintro e w6 ⟨rfl, hb⟩
        have HB6 := Lib.hid (HB5.out.trans (hb.mono HB5.out.size))
        clear hb HB5
        have hdb : (bk != bk) = false := by simp
        go_wp2_with fail
        go_loopw [88] (fun o88 wr => o88 = .int .i64 0 ∧ wr = w6) (fun _ _ => 0)
        case atStart => exact ⟨rfl, rfl⟩
        case round =>
          obtain ⟨rfl, rfl⟩ := hrel
          go_wp2_with fail
          refine (HAW.out wr (HS.out.bel.trans (HB6.out.mono HS.out.sz))).mono ?_
          rintro e w9 ⟨rfl, hb9⟩
          have HB9 := Lib.hid ((HS.out.bel.trans (HB6.out.mono HS.out.sz)).trans (hb9.mono (HS.out.bel.trans (HB6.out.mono HS.out.sz)).size))
          clear hb9
          go_wp2_with fail
          go_ret
          exact ⟨rfl, HB9.out⟩
      · have HK := Lib.hid hk
        have HB4 := Lib.hid hb
        have H64 := Lib.hid (blk_below H6.out hb)
        have hna : na = acc.length := by have y := hra.1; rw [List.length_map] at y; exact y.symm
        subst hna
        have HRA := Lib.hid hra
        have HCA := Lib.hid hca
        have HIA := Lib.hid hia
        clear hk hb hra hca hia
        have y0 : w4.cell? ⟨p6, 0, none⟩ = some (.slice ta tn tc) := (cell_of_row _ _ 0 _ _ _ H64.out).trans rfl
        have y1 : w4.cell? ⟨p6, 1, none⟩ = some (.slice sa sn sc) := (cell_of_row _ _ 1 _ _ _ H64.out).trans rfl
        have y2 : w4.cell? ⟨p6, 2, none⟩ = some (.string c0) := (cell_of_row _ _ 2 _ _ _ H64.out).trans rfl
        have y3 : w4.cell? ⟨p6, 3, none⟩ = some (.string c1) := (cell_of_row _ _ 3 _ _ _ H64.out).trans rfl
        go_wp2_with fail
        clear y0 y1 y2 y3
        refine (HRB.out w4 HB4.out).mono ?_
        rintro e w5 (⟨hk, _⟩ | ⟨_, Ab, nb, cb, Bb, bb, rcb, rfl, hrb, hcb, hib, hb⟩)
        · exact absurd HK.out hk
        have hnb : nb = acc.length := by have y := hrb.1; rw [List.length_map] at y; exact y.symm
        subst hnb
        have HB5 := Lib.hid (HB4.out.trans (hb.mono HB4.out.size))
        have HRA := Lib.hid (HRA.out.below hb)
        have HCA := Lib.hid (HCA.out.below hb)
        have HIA0 := Lib.hid (fun (i : Nat) (x : RC) (c : Nc) (hx : rca[i]? = some x) (hc : acc[i]? = some c) => HIA.out i x c hx hc)
        have HIA := Lib.hid (fun (i : Nat) (x : RC) (c : Nc) (hx : rca[i]? = some x) (hc : acc[i]? = some c) => (HIA.out i x c hx hc).r.below hb)
        have HCB := Lib.hid hcb
        have HIB := Lib.hid hib
        go_wp2_with fail
        refine (txC_same Aa ca Ab cb acc.length (acc.map (·.1)) w5 HRA.out hrb (by have := HAL.out; omega)).mono ?_
        rintro e w6 ⟨rfl, hb6⟩
        have HB6 := Lib.hid (HB5.out.trans (hb6.mono HB5.out.size))
        have HCA := Lib.hid (HCA.out.below hb6)
        have HCB := Lib.hid (HCB.out.below hb6)
        have HPA := Lib.hid (fun (i : Nat) (x : RC) (c : Nc) (hx : rca[i]? = some x) (hc : acc[i]? = some c) => (HIA.out i x c hx hc).below hb6)
        have HPB := Lib.hid (fun (i : Nat) (x : RC) (c : Nc) (hx : rcb[i]? = some x) (hc : acc[i]? = some c) => (HIB.out i x c hx hc).r.below hb6)
        clear hb hb6 hrb hcb hib HB5 HIA HRA
        go_wp2_with fail
        go_loopw [88] (fun o88 wr => ∃ j : Nat, o88 = .int .i64 (j : Int) ∧ j ≤ acc.length ∧ Hid (Below w6.heap.size w6 wr)) (fun o88 _ => acc.length - (intOf o88).toNat)
        case atStart => exact ⟨0, rfl, Nat.zero_le _, Lib.hid (Below.refl _ _)⟩
        case round =>
          obtain ⟨j, rfl, hj, HBr⟩ := hrel
          have hal := HAL.out
          by_cases hjt : j < acc.length
          · have hd3 : decide ((j : Int) < (acc.length : Int)) = true := decide_eq_true (by omega)
            have hj0 : (0 : Int) ≤ (j : Int) := by omega
            have hj1 : (j : Int) < (acc.length : Int) := by omega
            obtain ⟨ba9, oa, la, rfl, _, hca⟩ := (HCA.out.below HBr.out).at hjt
            obtain ⟨bb9, ob, lb, rfl, _, hcb⟩ := (HCB.out.below HBr.out).at hjt
            have u0 := hca 0 _ rfl
            have u1 := hca 1 _ rfl
            have u2 := hca 2 _ rfl
            have u3 := hca 3 _ rfl
            have v0 := hcb 0 _ rfl
            have v1 := hcb 1 _ rfl
            have v2 := hcb 2 _ rfl
            have v3 := hcb 3 _ rfl
            rw [Nat.add_zero] at u0 v0
            have hA := HIA0.out j _ _ (List.getElem?_eq_getElem la) (List.getElem?_eq_getElem hjt)
            have hB := HIB.out j _ _ (List.getElem?_eq_getElem lb) (List.getElem?_eq_getElem hjt)
            have hPA := (HPA.out j _ _ (List.getElem?_eq_getElem la) (List.getElem?_eq_getElem hjt)).below HBr.out
            have hPB := (HPB.out j _ _ (List.getElem?_eq_getElem lb) (List.getElem?_eq_getElem hjt)).below HBr.out
            have hpar := HPAR.out _ (List.getElem_mem hjt)
            obtain ⟨⟨cn9, cm⟩, hcm⟩ : ∃ z, z = acc[j] := ⟨_, rfl⟩
            obtain ⟨⟨x1, ⟨x2, x3, x4⟩, x5, x6⟩, hx⟩ : ∃ x, x = rca[j] := ⟨_, rfl⟩
            obtain ⟨⟨y1, ⟨y2, y3, y4⟩, y5, y6⟩, hy⟩ : ∃ x, x = rcb[j] := ⟨_, rfl⟩
            rw [← hcm, ← hx] at hA hPA
            rw [← hcm, ← hy] at hB hPB
            rw [← hcm] at hpar
            rw [← hx] at u0 u1 u2 u3
            rw [← hy] at v0 v1 v2 v3
            simp only at u0 u1 u2 u3 v0 v1 v2 v3 hPA hPB hpar
            obtain rfl : y1 = x1 := hB.k.trans hA.k.symm
            obtain rfl : y5 = x5 := hB.g.trans hA.g.symm
            obtain rfl : y6 = x6 := hB.t.trans hA.t.symm
            obtain rfl : y3 = x3 := hPB.1.symm.trans hPA.1
            have hx3 : y3 ≤ 100000 := by have := hPA.1; omega
            have HSM := Lib.hid (fun (W : World) (hb : Below wr.heap.size wr W) => csame_yes y1 x2 y3 x4 y2 y4 cm.P y5 y6 W (hPA.below hb) (hPB.below hb) hx3)
            clear hA hB hPA hPB hpar hcm hx hy hca hcb
            go_upto_region 18 with (fail)
            have ru0 := fun d os => cell_regrown u0 d os
            have ru1 := fun d os => cell_regrown u1 d os
            have ru2 := fun d os => cell_regrown u2 d os
            have ru3 := fun d os => cell_regrown u3 d os
            have rv0 := fun d os => cell_regrown v0 d os
            have rv1 := fun d os => cell_regrown v1 d os
            have rv2 := fun d os => cell_regrown v2 d os
            have rv3 := fun d os => cell_regrown v3 d os
            refine wp_region_quiet_below (by kernel_rfl) (by kernel_rfl) ?_
            repeat (any_goals (first | go_big_quiet_step ((go_at_call 12; with_reducible exact Calls.regrown_of (HSM.out _ (below_regrown _ _ _)))) | quiet_step ((go_at_call 12; with_reducible exact Calls.regrown_of (HSM.out _ (below_regrown _ _ _))))))
            refine wpQuiet_nil ?_
            intro w7 hw7
            have hb7 := below_anyY hw7
            have HBr2 := Lib.hid (HBr.out.trans (hb7.mono HBr.out.size))
            clear hw7 hb7 ru0 ru1 ru2 ru3 rv0 rv1 rv2 rv3 u0 u1 u2 u3 v0 v1 v2 v3 HSM
            go_wp2_with fail
            go_roundw
            case rel => exact ⟨j + 1, by go_num, by omega, HBr2⟩
            case measure => simp [intOf] <;> omega
          · have hd3 : decide ((j : Int) < (acc.length : Int)) = false := decide_eq_false (by omega)
            have HBt := Lib.hid (HS.out.bel.trans ((HB6.out.trans (HBr.out.mono HB6.out.size)).mono HS.out.sz))
            go_wp2_with fail
            refine (HAW.out wr HBt.out).mono ?_
            rintro e w9 ⟨rfl, hb9⟩
            have HB9 := Lib.hid (HBt.out.trans (hb9.mono HBt.out.size))
            clear hb9
            go_wp2_with fail
            go_ret
            exact ⟨rfl, HB9.out⟩
end Go.Proofs.YtiflieaemgamkaaDoor
