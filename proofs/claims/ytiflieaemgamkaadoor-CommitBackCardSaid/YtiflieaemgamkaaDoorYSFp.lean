/- The document's shelf, and its Put. Conditions: at most 100000 texts; each is named by its sum. -/
import Derived.Test.YtiflieaemgamkaaDoorG5
import Derived.Test.YtiflieaemgamkaaDoorPm
import Derived.Test.YtiflieaemgamkaaDoorYHn
namespace Go.Proofs.YtiflieaemgamkaaDoor
open Go.RowKit Vi

/-- a document's shelf as a value -/
abbrev rsv (ta : Option Addr) (tn tc : Nat) (sa : Option Addr) (sn sc : Nat) (a b : ByteArray) : Value := .agg #[.slice ta tn tc, .slice sa sn sc, .string a, .string b]
/-- its rows read as the objects' texts and names; their blocks are such as P says -/
structure ShR (P : Nat → Prop) (L : List Ob) (ta : Option Addr) (tn tc : Nat) (sa : Option Addr) (sn sc : Nat) (w : World) : Prop where
  t : RdX stC 1 w ta tn (L.map (·.2))
  s : RdX stC 1 w sa sn (L.map (·.1))
  tl : tn ≤ tc
  tm : tc ≤ maxLen
  sl : sn ≤ sc
  sm : sc ≤ maxLen
  pt : ∀ b o, ta = some ⟨b, o, none⟩ → 0 < tn → P b
  ps : ∀ b o, sa = some ⟨b, o, none⟩ → 0 < sn → P b
section
variable {P P' : Nat → Prop} {L : List Ob} {ta : Option Addr} {tn tc : Nat} {sa : Option Addr} {sn sc : Nat} {w w' : World}
theorem ShR.below (h : ShR P L ta tn tc sa sn sc w) (hb : Below w.heap.size w w') : ShR P L ta tn tc sa sn sc w' := ⟨h.t.below hb, h.s.below hb, h.tl, h.tm, h.sl, h.sm, h.pt, h.ps⟩
theorem ShR.tn_eq (h : ShR P L ta tn tc sa sn sc w) : tn = L.length := by have := h.t.1; rw [List.length_map] at this; exact this.symm
theorem ShR.sn_eq (h : ShR P L ta tn tc sa sn sc w) : sn = L.length := by have := h.s.1; rw [List.length_map] at this; exact this.symm
theorem RdX.blocks {α : Type} {f : α → List Value} {s n : Nat} {A : Option Addr} {l : List α} (h : RdX f s w A n l) (hb : ∀ b o, A = some ⟨b, o, none⟩ → 0 < n → w'.heap[b]? = w.heap[b]?) (hs : w.heap.size ≤ w'.heap.size) : RdX f s w' A n l := by
  refine ⟨h.1, fun hp => ?_⟩
  obtain ⟨b, off, rfl, h1, hc⟩ := h.2 hp
  exact ⟨b, off, rfl, Nat.lt_of_lt_of_le h1 hs, fun i x j u hx hu => by
    have q := hc i x j u hx hu
    rw [World.cell?_of_block (hb b off rfl hp)]
    exact q⟩
end
theorem ShR.nil (P : Nat → Prop) (w : World) : ShR P [] none 0 0 none 0 0 w := ⟨RdX.nil, RdX.nil, Nat.le_refl _, Nat.zero_le _, Nat.le_refl _, Nat.zero_le _, fun _ _ e => (by cases e), fun _ _ e => (by cases e)⟩
/-- each object is named by its text's sum; no text is empty or too long -/
def LI (L : List Ob) : Prop := ∀ x ∈ L, x.1 = nmS x.2 ∧ x.2.size ≠ 0 ∧ x.2.size ≤ 65536
/-- no two unlike texts, or such of which the first is none -/
def CI (c0 c1 : ByteArray) : Prop := (c0 = ⟨#[]⟩ ∧ c1 = ⟨#[]⟩) ∨ c0.size ≠ 0
def RetRP (P : Nat → Prop) (L : List Ob) (c0 c1 s : ByteArray) (z : Int) (w : World) (e : Ending) (w' : World) : Prop :=
  ∃ ta tn tc sa sn sc, e = .returned (.tuple #[rsv ta tn tc sa sn sc c0 c1, .string s, .int .i64 z]) ∧ ShR P L ta tn tc sa sn sc w' ∧ Below w.heap.size w w'
theorem results_cttS {fn : Func} {p t u : Tmp} {ty : TypeId} (h : fn.results = #[.cell p ty, .tmp t, .tmp u]) (tmps : Array Value) (w : World) (g : Nat) (cs : Array Value)
    (hp : tmps.getD p undef = .pointer (some ⟨g, 0, none⟩)) (hr : (loadVar ty ⟨g, 0, none⟩).run Tryd.prog w = .ok (.agg cs) w) :
    (results fn tmps).run Tryd.prog w = .ok (.tuple #[.agg cs, tmps.getD t undef, tmps.getD u undef]) w := by
  have hp' : tmps[p]?.getD undef = .pointer (some ⟨g, 0, none⟩) := by simpa using hp
  simp [results, h, hp', asAddr, hr]
theorem info_rs : (Tryd.prog.info? 28).map (·.size) = some 4 := by kernel_rfl
theorem sne_facts {s : ByteArray} (hs : s.size ≠ 0) : (s.toList == []) = false ∧ s.toList.isEmpty = false ∧ (s == (⟨#[]⟩ : ByteArray)) = false ∧ (s != (⟨#[]⟩ : ByteArray)) = true := by
  have q : ∃ a l, s.data.toList = a :: l := by
    cases q : s.data.toList with
    | nil => exact absurd (by show s.data.size = 0; rw [← Array.length_toList, q]; rfl) hs
    | cons a l => exact ⟨a, l, rfl⟩
  obtain ⟨a, l, q⟩ := q
  have h3 : (s == (⟨#[]⟩ : ByteArray)) = false := by
    cases q3 : (s == (⟨#[]⟩ : ByteArray)) with
    | false => rfl
    | true => rw [ba_beq q3] at hs; exact absurd rfl hs
  exact ⟨by rw [Lib.toList_data, q]; rfl, by rw [Lib.toList_data, q]; rfl, h3, by simp [bne, h3]⟩
theorem beq_ne {a b : ByteArray} (h : a ≠ b) : (a == b) = false ∧ (a.toList == b.toList) = false := by
  constructor
  · cases q : (a == b) with
    | false => rfl
    | true => exact absurd (ba_beq q) h
  · cases q : (a.toList == b.toList) with
    | false => rfl
    | true => exact absurd (toListEq (by simpa using q)) h
theorem beq_same (a : ByteArray) : (a == a) = true ∧ (a.toList == a.toList) = true := ⟨by show (a.data == a.data) = true; simp, by simp⟩
theorem met_ofS {a b : ByteArray} (h : a.size ≠ 0) : metO a b = true := by unfold metO; rw [(sne_facts h).2.2.1]; rfl
theorem get_at {L : List Ob} {s : ByteArray} {j : Nat} {x : Ob} (hx : L[j]? = some x) (he : x.1 = s) (hn : ∀ y ∈ L.take j, y.1 ≠ s) : getO L s = some x.2 := by
  obtain ⟨hj, rfl⟩ := List.getElem?_eq_some_iff.1 hx
  unfold getO
  rw [show (L.find? fun x => x.1.toList == s.toList) = some L[j] from by
    rw [List.find?_eq_some_iff_getElem]
    refine ⟨by rw [he]; simp, j, hj, rfl, fun i hi => ?_⟩
    have := hn L[i] (List.mem_take_iff_getElem.2 ⟨i, by omega, rfl⟩)
    rw [(beq_ne this).2]; rfl]
  rfl
theorem get_end {L : List Ob} {s : ByteArray} (hn : ∀ y ∈ L, y.1 ≠ s) : getO L s = none := by
  unfold getO
  rw [Option.map_eq_none_iff, List.find?_eq_none]
  intro x hx
  rw [(beq_ne (hn x hx)).2]
  simp
theorem OwX.kkD {α : Type} {f : α → List Value} {s : Nat} {T : TypeId} {w W : World} {B g : Nat} {v : Value} {l : List α} {cs : Array Value} {T' : TypeId} {fr : Nat × Nat} (h : OwX f s T w B v l) (k : KK [g] w W) (hg : w.heap[g]? = some (.cells cs T' fr)) (hT : T ≠ T') : OwX f s T W B v l := by
  rcases h with ⟨h1, h | ⟨b, cap, cur, h2, h3, h4, h5⟩⟩
  · exact ⟨h1, .inl h⟩
  · exact ⟨h1, .inr ⟨b, cap, cur, h2, h3, k.blk h4 (fun e => by
      have e1 : b = g := by simpa using e
      subst e1
      rw [hg] at h4
      cases h4
      exact hT rfl), h5⟩⟩
theorem OwX.oth {α : Type} {f : α → List Value} {s : Nat} {T : TypeId} {w W : World} {B g : Nat} {v : Value} {l : List α} {cs : Array Value} {T' : TypeId} {fr : Nat × Nat} (h : OwX f s T w B v l) (ho : ∀ k, k ≠ g → W.heap[k]? = w.heap[k]?) (hg : w.heap[g]? = some (.cells cs T' fr)) (hT : T ≠ T') : OwX f s T W B v l := by
  rcases h with ⟨h1, h | ⟨b, cap, cur, h2, h3, h4, h5⟩⟩
  · exact ⟨h1, .inl h⟩
  · exact ⟨h1, .inr ⟨b, cap, cur, h2, h3, (ho b (fun e => by
      subst e
      rw [hg] at h4
      cases h4
      exact hT rfl)).trans h4, h5⟩⟩
theorem OwX.rdL {w : World} {B n c : Nat} {A : Option Addr} {l : List ByteArray} (h : OwX stC 1 9 w B (.slice A n c) l) : RdX stC 1 w A n l ∧ n ≤ c ∧ c ≤ maxLen ∧ ∀ b o, A = some ⟨b, o, none⟩ → B ≤ b := by
  obtain ⟨A', c', e, h1, h2, h3⟩ := h.rd stC_len
  injection e with e1 e2 e3
  subst e1 e2 e3
  refine ⟨h1, h2, h3, fun b o e => ?_⟩
  subst e
  exact (World.ownsRow.lt h _ rfl).1
set_option maxRecDepth 100000 in
set_option maxHeartbeats 4000000 in
theorem rsput_any (P : Nat → Prop) (L : List Ob) (c0 c1 t : ByteArray) (ta : Option Addr) (tn tc : Nat) (sa : Option Addr) (sn sc : Nat) (w : World) (h : ShR P L ta tn tc sa sn sc w) (hL : LI L) (hC : CI c0 c1) (hl : L.length ≤ 100000) (hP : ∀ b, w.heap.size ≤ b → P b) :
    Calls Tryd.prog 14 #[rsv ta tn tc sa sn sc c0 c1, .string t] w (RetRP P (putL L t) (putA L c0 c1 t) (putB L c0 c1 t) (putN L t) (putE L t) w) := by
  obtain rfl := h.tn_eq
  obtain rfl := h.sn_eq
  have HH := Lib.hid h
  have HLI := Lib.hid hL
  have HCI := Lib.hid hC
  have HP := Lib.hid hP
  have HTM := Lib.hid (And.intro h.tm h.sm)
  have HLL := Lib.hid hl
  have htI : (L.length : Int) ≤ 9223372036854775807 := by omega
  clear h hL hC hP
  by_cases h0 : t.size = 0
  · have HPB := Lib.hid (put_bad (L := L) (x := 2) (.inl ⟨h0, rfl⟩) c0 c1)
    obtain rfl : t = ⟨#[]⟩ := ByteArray.ext (Array.eq_empty_of_size_eq_zero h0)
    clear h0
    have HB1 := Lib.hid (Below.refl w.heap.size w)
    have HF2 := Lib.hid (blk_new w (.cells #[.slice ta L.length tc, .slice sa L.length sc, .string c0, .string c1] 28 (0, 0)))
    have HB3 := Lib.hid (HB1.out.alloc HB1.out.size (.cells #[.slice ta L.length tc, .slice sa L.length sc, .string c0, .string c1] 28 (0, 0)))
    clear HB1
    have HF4 := Lib.hid (blk_alloc HF2.out (.cells #[.slice none 0 0, .slice none 0 0, .string ⟨#[]⟩, .string ⟨#[]⟩] 28 (0, 0)))
    clear HF2
    have HF5 : Hid (((w.alloc (.cells #[.slice ta L.length tc, .slice sa L.length sc, .string c0, .string c1] 28 (0, 0))).alloc (.cells #[.slice none 0 0, .slice none 0 0, .string ⟨#[]⟩, .string ⟨#[]⟩] 28 (0, 0))).heap[w.heap.size + 1]? = some (.cells #[.slice none 0 0, .slice none 0 0, .string ⟨#[]⟩, .string ⟨#[]⟩] 28 (0, 0))) := Lib.hid (blk_newN (W := (w.alloc (.cells #[.slice ta L.length tc, .slice sa L.length sc, .string c0, .string c1] 28 (0, 0)))) (o := (.cells #[.slice none 0 0, .slice none 0 0, .string ⟨#[]⟩, .string ⟨#[]⟩] 28 (0, 0))) (by simp))
    have HB6 := Lib.hid (HB3.out.alloc (by have := HB3.out.size; simp at this ⊢ <;> omega) (.cells #[.slice none 0 0, .slice none 0 0, .string ⟨#[]⟩, .string ⟨#[]⟩] 28 (0, 0)))
    clear HB3
    obtain ⟨v, hv⟩ : ∃ v, v = ((w.alloc (.cells #[.slice ta L.length tc, .slice sa L.length sc, .string c0, .string c1] 28 (0, 0))).alloc (.cells #[.slice none 0 0, .slice none 0 0, .string ⟨#[]⟩, .string ⟨#[]⟩] 28 (0, 0))) := ⟨_, rfl⟩
    have HVv := Lib.hid hv
    rw [← hv] at HF4 HF5 HB6
    clear hv
    go_enter Tryd.func14, Tryd.ntmps14
    go_upto_region 1 with (fail)
    rw [← HVv.out]
    go_upto_region 2 with (fail)
    go_wp2_with (first
      | refine wpList_store_rowY rfl 28 (.tmp 4) (.tmp 11) rfl (w.heap.size + 1) #[.slice ta L.length tc, .slice sa L.length sc, .string c0, .string c1] rfl rfl 28 _ HF5.out (info_rs) rfl (by simp [Value.oneCell']) w.heap.size w HB6.out (by omega) ?_
      | refine wpList_load_row rfl 28 (.tmp 2) rfl (w.heap.size) rfl 28 #[.slice ta L.length tc, .slice sa L.length sc, .string c0, .string c1] (0, 0) _ HF4.out Tryd.underlying28 rfl (info_rs) ?_)
    intro w1 hbk hoth hbel _
    have HF7 := Lib.hid (blk_oth HF4.out hoth.out (by omega))
    have HF8 := Lib.hid hbk.out
    have HB9 := Lib.hid hbel.out
    clear hbk hoth hbel HB6 HF4 HF5
    go_wp2_with fail
    refine bodyPost_ret (results_cttS rfl _ _ (w.heap.size + 1) #[.slice ta L.length tc, .slice sa L.length sc, .string c0, .string c1] rfl (run_loadVar_row _ (w.heap.size + 1) 28 28 _ (0, 0) _ HF8.out Tryd.underlying28 rfl (by kernel_rfl))) rfl ?_
    obtain ⟨p1, p2, p3, p4, p5⟩ := HPB.out
    unfold RetRP
    rw [p1, p2, p3, p4, p5]
    exact ⟨ta, L.length, tc, sa, L.length, sc, rfl, HH.out.below HB9.out, HB9.out⟩
  obtain ⟨z1, z2, z3, z4⟩ := sne_facts h0
  by_cases h1 : 65536 < t.size
  · have HPB := Lib.hid (put_bad (L := L) (x := 5) (.inr ⟨h0, h1, rfl⟩) c0 c1)
    have d1 : decide ((65536 : Int) < (t.size : Int)) = true := decide_eq_true (by omega)
    have d2 : decide (65536 < t.size) = true := decide_eq_true h1
    clear h0 h1
    have HB1 := Lib.hid (Below.refl w.heap.size w)
    have HF2 := Lib.hid (blk_new w (.cells #[.slice ta L.length tc, .slice sa L.length sc, .string c0, .string c1] 28 (0, 0)))
    have HB3 := Lib.hid (HB1.out.alloc HB1.out.size (.cells #[.slice ta L.length tc, .slice sa L.length sc, .string c0, .string c1] 28 (0, 0)))
    clear HB1
    have HF4 := Lib.hid (blk_alloc HF2.out (.cells #[.slice none 0 0, .slice none 0 0, .string ⟨#[]⟩, .string ⟨#[]⟩] 28 (0, 0)))
    clear HF2
    have HF5 : Hid (((w.alloc (.cells #[.slice ta L.length tc, .slice sa L.length sc, .string c0, .string c1] 28 (0, 0))).alloc (.cells #[.slice none 0 0, .slice none 0 0, .string ⟨#[]⟩, .string ⟨#[]⟩] 28 (0, 0))).heap[w.heap.size + 1]? = some (.cells #[.slice none 0 0, .slice none 0 0, .string ⟨#[]⟩, .string ⟨#[]⟩] 28 (0, 0))) := Lib.hid (blk_newN (W := (w.alloc (.cells #[.slice ta L.length tc, .slice sa L.length sc, .string c0, .string c1] 28 (0, 0)))) (o := (.cells #[.slice none 0 0, .slice none 0 0, .string ⟨#[]⟩, .string ⟨#[]⟩] 28 (0, 0))) (by simp))
    have HB6 := Lib.hid (HB3.out.alloc (by have := HB3.out.size; simp at this ⊢ <;> omega) (.cells #[.slice none 0 0, .slice none 0 0, .string ⟨#[]⟩, .string ⟨#[]⟩] 28 (0, 0)))
    clear HB3
    obtain ⟨v, hv⟩ : ∃ v, v = ((w.alloc (.cells #[.slice ta L.length tc, .slice sa L.length sc, .string c0, .string c1] 28 (0, 0))).alloc (.cells #[.slice none 0 0, .slice none 0 0, .string ⟨#[]⟩, .string ⟨#[]⟩] 28 (0, 0))) := ⟨_, rfl⟩
    have HVv := Lib.hid hv
    rw [← hv] at HF4 HF5 HB6
    clear hv
    go_enter Tryd.func14, Tryd.ntmps14
    go_upto_region 1 with (fail)
    rw [← HVv.out]
    go_upto_region 4 with (fail)
    go_wp2_with (first
      | refine wpList_store_rowY rfl 28 (.tmp 4) (.tmp 15) rfl (w.heap.size + 1) #[.slice ta L.length tc, .slice sa L.length sc, .string c0, .string c1] rfl rfl 28 _ HF5.out (info_rs) rfl (by simp [Value.oneCell']) w.heap.size w HB6.out (by omega) ?_
      | refine wpList_load_row rfl 28 (.tmp 2) rfl (w.heap.size) rfl 28 #[.slice ta L.length tc, .slice sa L.length sc, .string c0, .string c1] (0, 0) _ HF4.out Tryd.underlying28 rfl (info_rs) ?_)
    intro w1 hbk hoth hbel _
    have HF7 := Lib.hid (blk_oth HF4.out hoth.out (by omega))
    have HF8 := Lib.hid hbk.out
    have HB9 := Lib.hid hbel.out
    clear hbk hoth hbel HB6 HF4 HF5
    go_wp2_with fail
    refine bodyPost_ret (results_cttS rfl _ _ (w.heap.size + 1) #[.slice ta L.length tc, .slice sa L.length sc, .string c0, .string c1] rfl (run_loadVar_row _ (w.heap.size + 1) 28 28 _ (0, 0) _ HF8.out Tryd.underlying28 rfl (by kernel_rfl))) rfl ?_
    obtain ⟨p1, p2, p3, p4, p5⟩ := HPB.out
    unfold RetRP
    rw [p1, p2, p3, p4, p5]
    exact ⟨ta, L.length, tc, sa, L.length, sc, rfl, HH.out.below HB9.out, HB9.out⟩
  have d1 : decide ((65536 : Int) < (t.size : Int)) = false := decide_eq_false (by omega)
  have d2 : decide (65536 < t.size) = false := decide_eq_false h1
  have HU := Lib.hid (fun W : World => show Calls Tryd.prog 23 #[.string t] W fun e w' => e = .returned (.string (nmS t)) ∧ Below W.heap.size W w' from rsum_any t W (by omega))
  have HPN := Lib.hid (fun hg => put_none (L := L) (t := t) h0 h1 hg c0 c1)
  have HPS := Lib.hid (fun hg => put_same (L := L) (t := t) h0 h1 hg c0 c1)
  have HPC := Lib.hid (fun (u : ByteArray) hg hu => put_clash (L := L) (t := t) (u := u) h0 h1 hg hu c0 c1)
  have HT0 := Lib.hid (And.intro h0 h1)
  obtain ⟨N, hN⟩ : ∃ N, N = nmS t := ⟨_, rfl⟩
  have HN := Lib.hid hN
  rw [← hN] at HU HPN HPS HPC
  clear h0 h1 hN
  have HB1 := Lib.hid (Below.refl w.heap.size w)
  have HF2 := Lib.hid (blk_new w (.cells #[.slice ta L.length tc, .slice sa L.length sc, .string c0, .string c1] 28 (0, 0)))
  have HB3 := Lib.hid (HB1.out.alloc HB1.out.size (.cells #[.slice ta L.length tc, .slice sa L.length sc, .string c0, .string c1] 28 (0, 0)))
  clear HB1
  have HF4 := Lib.hid (blk_alloc HF2.out (.cells #[.slice none 0 0, .slice none 0 0, .string ⟨#[]⟩, .string ⟨#[]⟩] 28 (0, 0)))
  clear HF2
  have HF5 : Hid (((w.alloc (.cells #[.slice ta L.length tc, .slice sa L.length sc, .string c0, .string c1] 28 (0, 0))).alloc (.cells #[.slice none 0 0, .slice none 0 0, .string ⟨#[]⟩, .string ⟨#[]⟩] 28 (0, 0))).heap[w.heap.size + 1]? = some (.cells #[.slice none 0 0, .slice none 0 0, .string ⟨#[]⟩, .string ⟨#[]⟩] 28 (0, 0))) := Lib.hid (blk_newN (W := (w.alloc (.cells #[.slice ta L.length tc, .slice sa L.length sc, .string c0, .string c1] 28 (0, 0)))) (o := (.cells #[.slice none 0 0, .slice none 0 0, .string ⟨#[]⟩, .string ⟨#[]⟩] 28 (0, 0))) (by simp))
  have HB6 := Lib.hid (HB3.out.alloc (by have := HB3.out.size; simp at this ⊢ <;> omega) (.cells #[.slice none 0 0, .slice none 0 0, .string ⟨#[]⟩, .string ⟨#[]⟩] 28 (0, 0)))
  clear HB3
  obtain ⟨v, hv⟩ : ∃ v, v = ((w.alloc (.cells #[.slice ta L.length tc, .slice sa L.length sc, .string c0, .string c1] 28 (0, 0))).alloc (.cells #[.slice none 0 0, .slice none 0 0, .string ⟨#[]⟩, .string ⟨#[]⟩] 28 (0, 0))) := ⟨_, rfl⟩
  have HVv := Lib.hid hv
  rw [← hv] at HF4 HF5 HB6
  clear hv
  go_enter Tryd.func14, Tryd.ntmps14
  go_upto_region 1 with (fail)
  rw [← HVv.out]
  go_upto_region 5 with (fail)
  go_wp2_with fail
  refine (HU.out _).mono ?_
  rintro e w1 ⟨rfl, hb1⟩
  have HF7 := Lib.hid (blk_below HF4.out hb1)
  have HF8 := Lib.hid (blk_below HF5.out hb1)
  have HB9 := Lib.hid (HB6.out.trans (hb1.mono HB6.out.size))
  clear hb1 HB6 HF4 HF5
  have hc10 : w1.cell? ⟨w.heap.size, 0, none⟩ = some (.slice ta L.length tc) := by rw [cell_of_row _ _ _ _ _ _ HF7.out]; rfl
  have hc11 : w1.cell? ⟨w.heap.size, 1, none⟩ = some (.slice sa L.length sc) := by rw [cell_of_row _ _ _ _ _ _ HF7.out]; rfl
  have hc12 : w1.cell? ⟨w.heap.size, 2, none⟩ = some (.string c0) := by rw [cell_of_row _ _ _ _ _ _ HF7.out]; rfl
  have hHB := HB9.out.size
  go_upto_region 6 with (fail)
  go_wp2_with fail
  go_loop [8] (fun i => ∃ j : Nat, i = .int .i64 (j : Int) ∧ j ≤ L.length ∧ ∀ y ∈ L.take j, y.1 ≠ N) (fun i => L.length - (intOf i).toNat)
  case atStart => exact ⟨0, rfl, Nat.zero_le _, by simp⟩
  case round =>
    obtain ⟨j, rfl, hj, hne⟩ := hrel
    have HNE := Lib.hid hne
    clear hne
    by_cases hlt : j < L.length
    · skip
      have hd1 : decide ((j : Int) < (L.length : Int)) = true := decide_eq_true (by omega)
      have hd2 : decide (j < L.length) = true := decide_eq_true hlt
      have hi0 : (0 : Int) ≤ (j : Int) := by omega
      have hs1 : IntKind.i64.wrap ((j : Int) + 1) = (j : Int) + 1 := IntWalk.i64_in _ (by omega)
      obtain ⟨x, hx⟩ : ∃ x, L[j]? = some x := ⟨_, List.getElem?_eq_getElem hlt⟩
      have HX := Lib.hid hx
      have HXM := Lib.hid (HLI.out x (List.mem_of_getElem? hx))
      obtain ⟨bT, oT, eT, _, hcT⟩ := (HH.out.below HB9.out).t.2 (by omega)
      have gT : w1.cell? ⟨bT, oT + j, none⟩ = some (.string x.2) := by have q := hcT j x.2 0 (.string x.2) (by rw [List.getElem?_map, hx]; rfl) rfl; simpa using q
      subst eT
      clear hcT
      obtain ⟨bS, oS, eS, _, hcS⟩ := (HH.out.below HB9.out).s.2 (by omega)
      have gS : w1.cell? ⟨bS, oS + j, none⟩ = some (.string x.1) := by have q := hcS j x.1 0 (.string x.1) (by rw [List.getElem?_map, hx]; rfl) rfl; simpa using q
      subst eS
      clear hcS
      clear hx
      obtain ⟨s, u⟩ := x
      by_cases hs : s = N
      · skip
        subst hs
        have HG := Lib.hid (get_at HX.out rfl HNE.out)
        obtain ⟨r1, r2⟩ := beq_same s
        by_cases hu : u = t
        · skip
          subst hu
          obtain ⟨q1, q2⟩ := beq_same u
          have HPX := Lib.hid (HPS.out HG.out)
          go_upto_region 10 with (fail)
          go_wp2_with (first
            | refine wpList_store_rowY rfl 28 (.tmp 4) (.tmp 32) rfl (w.heap.size + 1) #[.slice (some ⟨bT, oT, none⟩) L.length tc, .slice (some ⟨bS, oS, none⟩) L.length sc, .string c0, .string c1] rfl rfl 28 _ HF8.out (info_rs) rfl (by simp [Value.oneCell']) w.heap.size w HB9.out (by omega) ?_
            | refine wpList_load_row rfl 28 (.tmp 2) rfl (w.heap.size) rfl 28 #[.slice (some ⟨bT, oT, none⟩) L.length tc, .slice (some ⟨bS, oS, none⟩) L.length sc, .string c0, .string c1] (0, 0) _ HF7.out Tryd.underlying28 rfl (info_rs) ?_)
          intro w2 hbk hoth hbel _
          clear hc10 hc11 hc12 hHB
          have HF13 := Lib.hid (blk_oth HF7.out hoth.out (by omega))
          have HF14 := Lib.hid hbk.out
          have HB15 := Lib.hid hbel.out
          clear hbk hoth hbel HB9 HF7 HF8
          go_wp2_with fail
          refine bodyPost_ret (results_cttS rfl _ _ (w.heap.size + 1) #[.slice (some ⟨bT, oT, none⟩) L.length tc, .slice (some ⟨bS, oS, none⟩) L.length sc, .string c0, .string c1] rfl (run_loadVar_row _ (w.heap.size + 1) 28 28 _ (0, 0) _ HF14.out Tryd.underlying28 rfl (by kernel_rfl))) rfl ?_
          obtain ⟨p1, p2, p3, p4, p5⟩ := HPX.out
          unfold RetRP
          rw [p1, p2, p3, p4, p5]
          exact ⟨some ⟨bT, oT, none⟩, L.length, tc, some ⟨bS, oS, none⟩, L.length, sc, rfl, HH.out.below HB15.out, HB15.out⟩
        · skip
          obtain ⟨q1, q2⟩ := beq_ne hu
          have HPX := Lib.hid (HPC.out u HG.out hu)
          clear hu
          rcases HCI.out with ⟨e0, e1⟩ | e0
          · skip
            subst e0 e1
            clear hc10 hc11 hc12 hHB
            have hc13 : w1.cell? ⟨w.heap.size, 0, none⟩ = some (.slice (some ⟨bT, oT, none⟩) L.length tc) := by rw [cell_of_row _ _ _ _ _ _ HF7.out]; rfl
            have hc14 : w1.cell? ⟨w.heap.size, 1, none⟩ = some (.slice (some ⟨bS, oS, none⟩) L.length sc) := by rw [cell_of_row _ _ _ _ _ _ HF7.out]; rfl
            have hc15 : w1.cell? ⟨w.heap.size, 2, none⟩ = some (.string ⟨#[]⟩) := by rw [cell_of_row _ _ _ _ _ _ HF7.out]; rfl
            have hc16 : w1.cell? ⟨w.heap.size, 3, none⟩ = some (.string ⟨#[]⟩) := by rw [cell_of_row _ _ _ _ _ _ HF7.out]; rfl
            have hz17 : w1.frozen? ⟨w.heap.size, 2, none⟩ = false := frozen_of_row _ _ _ _ _ HF7.out
            have hz18 : w1.frozen? ⟨w.heap.size, 3, none⟩ = false := frozen_of_row _ _ _ _ _ HF7.out
            go_upto_region 15 with (fail)
            clear hc13 hc14 hc15 hc16 hz17 hz18
            have HKK19 := Lib.hid (((KK.refl [w.heap.size] w1).set (b := w.heap.size) (by simp) 2 (.string u)).set (b := w.heap.size) (by simp) 3 (.string t))
            have HF20 := Lib.hid (show ((w1.setCell ⟨w.heap.size, 2, none⟩ (.string u)).setCell ⟨w.heap.size, 3, none⟩ (.string t)).heap[w.heap.size]? = some (.cells #[.slice (some ⟨bT, oT, none⟩) L.length tc, .slice (some ⟨bS, oS, none⟩) L.length sc, .string u, .string t] 28 (0, 0)) by have q := heap_setCell_at (i := 3) (u := .string t) (heap_setCell_at (i := 2) (u := .string u) (HF7.out)); exact q)
            have HF21 := Lib.hid (HKK19.out.blk HF8.out (by simp <;> omega))
            have HB22 := Lib.hid (HKK19.out.below HB9.out (fun b hb => by obtain rfl : b = w.heap.size := (by simpa using hb); omega) HB9.out.size)
            clear HB9 HF7 HF8
            generalize ((w1.setCell ⟨w.heap.size, 2, none⟩ (.string u)).setCell ⟨w.heap.size, 3, none⟩ (.string t)) = w2 at *
            go_wp2_with (first
              | refine wpList_store_rowY rfl 28 (.tmp 4) (.tmp 52) rfl (w.heap.size + 1) #[.slice (some ⟨bT, oT, none⟩) L.length tc, .slice (some ⟨bS, oS, none⟩) L.length sc, .string u, .string t] rfl rfl 28 _ HF21.out (info_rs) rfl (by simp [Value.oneCell']) w.heap.size w HB22.out (by omega) ?_
              | refine wpList_load_row rfl 28 (.tmp 2) rfl (w.heap.size) rfl 28 #[.slice (some ⟨bT, oT, none⟩) L.length tc, .slice (some ⟨bS, oS, none⟩) L.length sc, .string u, .string t] (0, 0) _ HF20.out Tryd.underlying28 rfl (info_rs) ?_)
            intro w3 hbk hoth hbel _
            have HF23 := Lib.hid (blk_oth HF20.out hoth.out (by omega))
            have HF24 := Lib.hid hbk.out
            have HB25 := Lib.hid hbel.out
            clear hbk hoth hbel HB22 HF20 HF21
            go_wp2_with fail
            refine bodyPost_ret (results_cttS rfl _ _ (w.heap.size + 1) #[.slice (some ⟨bT, oT, none⟩) L.length tc, .slice (some ⟨bS, oS, none⟩) L.length sc, .string u, .string t] rfl (run_loadVar_row _ (w.heap.size + 1) 28 28 _ (0, 0) _ HF24.out Tryd.underlying28 rfl (by kernel_rfl))) rfl ?_
            obtain ⟨p1, p2, p3, p4, p5⟩ := HPX.out
            unfold RetRP
            rw [p1, p2, p3, p4, p5]
            exact ⟨some ⟨bT, oT, none⟩, L.length, tc, some ⟨bS, oS, none⟩, L.length, sc, rfl, HH.out.below HB25.out, HB25.out⟩
          · skip
            obtain ⟨y1, y2, y3, y4⟩ := sne_facts e0
            have hmt := met_ofS (b := c1) e0
            have HPX := Lib.hid (show putE L t = 15 ∧ putN L t = ⟨#[]⟩ ∧ putL L t = L ∧ putA L c0 c1 t = c0 ∧ putB L c0 c1 t = c1 by obtain ⟨p1, p2, p3, p4, p5⟩ := HPX.out; exact ⟨p1, p2, p3, by rw [p4]; unfold mtA; rw [if_pos hmt], by rw [p5]; unfold mtB; rw [if_pos hmt]⟩)
            clear hmt e0
            go_upto_region 15 with (fail)
            go_wp2_with (first
              | refine wpList_store_rowY rfl 28 (.tmp 4) (.tmp 52) rfl (w.heap.size + 1) #[.slice (some ⟨bT, oT, none⟩) L.length tc, .slice (some ⟨bS, oS, none⟩) L.length sc, .string c0, .string c1] rfl rfl 28 _ HF8.out (info_rs) rfl (by simp [Value.oneCell']) w.heap.size w HB9.out (by omega) ?_
              | refine wpList_load_row rfl 28 (.tmp 2) rfl (w.heap.size) rfl 28 #[.slice (some ⟨bT, oT, none⟩) L.length tc, .slice (some ⟨bS, oS, none⟩) L.length sc, .string c0, .string c1] (0, 0) _ HF7.out Tryd.underlying28 rfl (info_rs) ?_)
            intro w2 hbk hoth hbel _
            clear hc10 hc11 hc12 hHB
            have HF13 := Lib.hid (blk_oth HF7.out hoth.out (by omega))
            have HF14 := Lib.hid hbk.out
            have HB15 := Lib.hid hbel.out
            clear hbk hoth hbel HB9 HF7 HF8
            go_wp2_with fail
            refine bodyPost_ret (results_cttS rfl _ _ (w.heap.size + 1) #[.slice (some ⟨bT, oT, none⟩) L.length tc, .slice (some ⟨bS, oS, none⟩) L.length sc, .string c0, .string c1] rfl (run_loadVar_row _ (w.heap.size + 1) 28 28 _ (0, 0) _ HF14.out Tryd.underlying28 rfl (by kernel_rfl))) rfl ?_
            obtain ⟨p1, p2, p3, p4, p5⟩ := HPX.out
            unfold RetRP
            rw [p1, p2, p3, p4, p5]
            exact ⟨some ⟨bT, oT, none⟩, L.length, tc, some ⟨bS, oS, none⟩, L.length, sc, rfl, HH.out.below HB15.out, HB15.out⟩
      · skip
        have hu : u ≠ t := fun e => hs ((show s = nmS u from HXM.out.1).trans (by rw [HN.out, e]))
        obtain ⟨q1, q2⟩ := beq_ne hu
        obtain ⟨r1, r2⟩ := beq_ne hs
        have HNE2 := Lib.hid (show ∀ y ∈ L.take (j + 1), y.1 ≠ N from fun y hy => by
          obtain ⟨hj2, hx2⟩ := List.getElem?_eq_some_iff.1 HX.out
          rw [List.take_succ_eq_append_getElem hj2, hx2] at hy
          rcases List.mem_append.1 hy with q | q
          · exact HNE.out y q
          · obtain rfl : y = (s, u) := by simpa using q
            exact hs)
        clear hu hs
        go_wp2_with fail
        go_round
        case rel => exact ⟨j + 1, by go_num, by omega, HNE2.out⟩
        case measure => simp [intOf] <;> omega
    · skip
      obtain rfl : j = L.length := by omega
      have hd1 : decide ((L.length : Int) < (L.length : Int)) = false := decide_eq_false (by omega)
      have hd2 : decide (L.length < L.length) = false := decide_eq_false (by omega)
      have HPX := Lib.hid (HPN.out (get_end (fun y hy => HNE.out y (by rw [List.take_of_length_le (Nat.le_refl _)]; exact hy))))
      have HHW := Lib.hid (HH.out.below HB9.out)
      go_upto_region 16 with (fail)
      have y0 : (w1.alloc (.cells #[] 9 (0, 0))).cell? ⟨w.heap.size, 0, none⟩ = some (.slice ta L.length tc) := (cell_of_row _ _ 0 _ _ _ (blk_alloc HF7.out _)).trans rfl
      go_wp2_with (at_builtin; refine wpList_appXs rfl (.tmp 53) (.tmp 55) 22 9 _ 16 rfl Tryd.underlying22 info_stA rfl (by omega) (by omega) stC_len stC_one w1.heap.size w1 ((Below.refl _ w1).alloc (Nat.le_refl _) _) (by simp) _ [] rfl (OwX.zero (blk_new w1 _) (Nat.le_refl _) (Nat.zero_le _) rfl) ta L.length tc (L.map (·.2)) rfl ((HHW.out.t).alloc _) (by simp; exact Nat.le_trans HLL.out (by decide)) ?_)
      intro V5 w50 HO5 HB5z HZ5 HG5
      clear y0
      go_wp2_with (at_builtin; refine wpList_appX rfl (.tmp 56) (.tmp 58) 22 9 _ 16 rfl Tryd.underlying22 info_stA rfl (by omega) (by omega) stC_len stC_one w1.heap.size w1 (HB5z.out.alloc HZ5.out _) (Nat.le_trans HZ5.out (by simp)) V5 ([] ++ L.map (·.2)) rfl (HO5.out.alloc _) w50.heap.size 1 t #[.string t] 9 (0, 0) rfl (heap_alloc_new w50 _) rfl (by simp; omega) ?_)
      intro V6 w60 HO6 HB6z HZ6 HG6
      clear HO5 HB5z HZ5 HG5 HG6 HZ6
      clear hc10 hc11 hc12 hHB
      have HF13 := Lib.hid (blk_below HF7.out HB6z.out)
      have HF14 := Lib.hid (blk_below HF8.out HB6z.out)
      have HO6m := Lib.hid (HO6.out.mono (B' := w.heap.size) HB9.out.size)
      have HB15 := Lib.hid (HB9.out.trans (HB6z.out.mono HB9.out.size))
      clear HO6 HB6z HB9 HF7 HF8
      obtain ⟨A6, n6, c6, rfl⟩ := HO6m.out.sl3
      have hc16 : w60.cell? ⟨w.heap.size, 0, none⟩ = some (.slice ta L.length tc) := by rw [cell_of_row _ _ _ _ _ _ HF13.out]; rfl
      have hc17 : w60.cell? ⟨w.heap.size, 1, none⟩ = some (.slice sa L.length sc) := by rw [cell_of_row _ _ _ _ _ _ HF13.out]; rfl
      have hz18 : w60.frozen? ⟨w.heap.size, 0, none⟩ = false := frozen_of_row _ _ _ _ _ HF13.out
      go_upto_region 17 with (fail)
      clear hc16 hc17 hz18
      have HKK19 := Lib.hid ((KK.refl [w.heap.size] w60).set (b := w.heap.size) (by simp) 0 (.slice A6 n6 c6))
      have HF20 := Lib.hid (show (w60.setCell ⟨w.heap.size, 0, none⟩ (.slice A6 n6 c6)).heap[w.heap.size]? = some (.cells #[.slice A6 n6 c6, .slice sa L.length sc, .string c0, .string c1] 28 (0, 0)) by have q := heap_setCell_at (i := 0) (u := .slice A6 n6 c6) (HF13.out); exact q)
      have HF21 := Lib.hid (HKK19.out.blk HF14.out (by simp <;> omega))
      have HO6m22 := Lib.hid (HO6m.out.kkD HKK19.out HF13.out (by decide))
      have HB23 := Lib.hid (HKK19.out.below HB15.out (fun b hb => by obtain rfl : b = w.heap.size := (by simpa using hb); omega) HB15.out.size)
      clear HB15 HF13 HF14
      generalize (w60.setCell ⟨w.heap.size, 0, none⟩ (.slice A6 n6 c6)) = w2 at *
      have HHX := Lib.hid (HH.out.below HB23.out)
      have hc24 : w2.cell? ⟨w.heap.size, 1, none⟩ = some (.slice sa L.length sc) := by rw [cell_of_row _ _ _ _ _ _ HF20.out]; rfl
      go_upto_region 17 with (fail)
      have y0 : (w2.alloc (.cells #[] 9 (0, 0))).cell? ⟨w.heap.size, 1, none⟩ = some (.slice sa L.length sc) := (cell_of_row _ _ 1 _ _ _ (blk_alloc HF20.out _)).trans rfl
      go_wp2_with (at_builtin; refine wpList_appXs rfl (.tmp 61) (.tmp 63) 22 9 _ 16 rfl Tryd.underlying22 info_stA rfl (by omega) (by omega) stC_len stC_one w2.heap.size w2 ((Below.refl _ w2).alloc (Nat.le_refl _) _) (by simp) _ [] rfl (OwX.zero (blk_new w2 _) (Nat.le_refl _) (Nat.zero_le _) rfl) sa L.length sc (L.map (·.1)) rfl ((HHX.out.s).alloc _) (by simp; exact Nat.le_trans HLL.out (by decide)) ?_)
      intro V7 w70 HO7 HB7z HZ7 HG7
      clear y0
      go_wp2_with (at_builtin; refine wpList_appX rfl (.tmp 64) (.tmp 66) 22 9 _ 16 rfl Tryd.underlying22 info_stA rfl (by omega) (by omega) stC_len stC_one w2.heap.size w2 (HB7z.out.alloc HZ7.out _) (Nat.le_trans HZ7.out (by simp)) V7 ([] ++ L.map (·.1)) rfl (HO7.out.alloc _) w70.heap.size 1 N #[.string N] 9 (0, 0) rfl (heap_alloc_new w70 _) rfl (by simp; omega) ?_)
      intro V8 w80 HO8 HB8z HZ8 HG8
      clear HO7 HB7z HZ7 HG7 HG8 HZ8
      clear hc24
      have HF25 := Lib.hid (blk_below HF20.out HB8z.out)
      have HF26 := Lib.hid (blk_below HF21.out HB8z.out)
      have HO6m27 := Lib.hid (HO6m22.out.kept HB8z.out)
      have HO8m := Lib.hid (HO8.out.mono (B' := w.heap.size) HB23.out.size)
      have HB28 := Lib.hid (HB23.out.trans (HB8z.out.mono HB23.out.size))
      clear HO8 HB8z HB23 HF20 HF21
      obtain ⟨A8, n8, c8, rfl⟩ := HO8m.out.sl3
      have hc29 : w80.cell? ⟨w.heap.size, 0, none⟩ = some (.slice A6 n6 c6) := by rw [cell_of_row _ _ _ _ _ _ HF25.out]; rfl
      have hc30 : w80.cell? ⟨w.heap.size, 1, none⟩ = some (.slice sa L.length sc) := by rw [cell_of_row _ _ _ _ _ _ HF25.out]; rfl
      have hz31 : w80.frozen? ⟨w.heap.size, 1, none⟩ = false := frozen_of_row _ _ _ _ _ HF25.out
      go_upto_region 18 with (fail)
      clear hc29 hc30 hz31
      have HKK32 := Lib.hid ((KK.refl [w.heap.size] w80).set (b := w.heap.size) (by simp) 1 (.slice A8 n8 c8))
      have HF33 := Lib.hid (show (w80.setCell ⟨w.heap.size, 1, none⟩ (.slice A8 n8 c8)).heap[w.heap.size]? = some (.cells #[.slice A6 n6 c6, .slice A8 n8 c8, .string c0, .string c1] 28 (0, 0)) by have q := heap_setCell_at (i := 1) (u := .slice A8 n8 c8) (HF25.out); exact q)
      have HF34 := Lib.hid (HKK32.out.blk HF26.out (by simp <;> omega))
      have HO6m35 := Lib.hid (HO6m27.out.kkD HKK32.out HF25.out (by decide))
      have HO8m36 := Lib.hid (HO8m.out.kkD HKK32.out HF25.out (by decide))
      have HB37 := Lib.hid (HKK32.out.below HB28.out (fun b hb => by obtain rfl : b = w.heap.size := (by simpa using hb); omega) HB28.out.size)
      clear HB28 HF25 HF26
      generalize (w80.setCell ⟨w.heap.size, 1, none⟩ (.slice A8 n8 c8)) = w3 at *
      go_wp2_with (first
        | refine wpList_store_rowY rfl 28 (.tmp 4) (.tmp 69) rfl (w.heap.size + 1) #[.slice A6 n6 c6, .slice A8 n8 c8, .string c0, .string c1] rfl rfl 28 _ HF34.out (info_rs) rfl (by simp [Value.oneCell']) w.heap.size w HB37.out (by omega) ?_
        | refine wpList_load_row rfl 28 (.tmp 2) rfl (w.heap.size) rfl 28 #[.slice A6 n6 c6, .slice A8 n8 c8, .string c0, .string c1] (0, 0) _ HF33.out Tryd.underlying28 rfl (info_rs) ?_)
      intro w4 hbk hoth hbel _
      have HO6m38 := Lib.hid (HO6m35.out.oth hoth.out HF34.out (by decide))
      have HO8m39 := Lib.hid (HO8m36.out.oth hoth.out HF34.out (by decide))
      have HF40 := Lib.hid (blk_oth HF33.out hoth.out (by omega))
      have HF41 := Lib.hid hbk.out
      have HB42 := Lib.hid hbel.out
      clear hbk hoth hbel HB37 HF33 HF34
      go_wp2_with fail
      have HR1 := HO6m38.out.rdL
      have HR2 := HO8m39.out.rdL
      refine bodyPost_ret (results_cttS rfl _ _ (w.heap.size + 1) #[.slice A6 n6 c6, .slice A8 n8 c8, .string c0, .string c1] rfl (run_loadVar_row _ (w.heap.size + 1) 28 28 _ (0, 0) _ HF41.out Tryd.underlying28 rfl (by kernel_rfl))) rfl ?_
      obtain ⟨p1, p2, p3, p4, p5⟩ := HPX.out
      unfold RetRP
      rw [p1, p2, p3, p4, p5]
      exact ⟨A6, n6, c6, A8, n8, c8, rfl, ⟨by rw [List.map_append]; simpa using HR1.1, by rw [List.map_append]; simpa using HR2.1, HR1.2.1, HR1.2.2.1, HR2.2.1, HR2.2.2.1, fun b o e _ => HP.out b (HR1.2.2.2 b o e), fun b o e _ => HP.out b (HR2.2.2.2 b o e)⟩, HB42.out⟩
end Go.Proofs.YtiflieaemgamkaaDoor
