/- Labels and properties turned, both sides. Conditions: labels and properties that rise, few of them. -/
import Derived.Test.YtjnichiblljmjaaOpa
import Derived.Test.YtjnichiblljmjaaPm
import Derived.Test.YtjnichiblljmjaaNp
import Derived.IntWalk
import Derived.Deep.DeepCutAuto
import Derived.Test.YtjnichiblljmjaaPx
import Derived.Lib.AppendZerosOnto
import Derived.Laws.OwnMore
import Derived.Deep.RegionLaw
import Derived.Test.YtjnichiblljmjaaElu
import Derived.Test.YtjnichiblljmjaaAa
namespace Go.Proofs.Ytjnichiblljmjaa
open Go.RowKit Vi

def keysP (ps : List Pr) : List ByteArray := ps.map (·.1)
theorem keysP_len (ps : List Pr) : (keysP ps).length = ps.length := by unfold keysP; simp
theorem keysP_at (ps : List Pr) (k : Nat) (h : k < ps.length) : (keysP ps)[k]'(by rw [keysP_len]; exact h) = ps[k].1 := by unfold keysP; simp
def ltP (x : ByteArray) (p : Pr) : Bool := Op.bytesLess p.1.toList x.toList
def gtP (x : ByteArray) (p : Pr) : Bool := Op.bytesLess x.toList p.1.toList
def setL (ps : List Pr) (p : Pr) : List Pr := ps.filter (ltP p.1) ++ [p] ++ ps.filter (gtP p.1)
theorem prE_row : ∀ (p : ByteArray) (ps : List Pr), prE p ps = 0 → rowE p (keysP ps) = 0
  | _, [], _ => rfl
  | p, x :: r, h => by
    unfold prE at h
    split at h
    · cases h
    · next h1 =>
      split at h
      · cases h
      · next h2 =>
        have hn : nm x.1 = true := okP_nm (by simpa using h1)
        show rowE p (x.1 :: keysP r) = 0
        rw [rowE_go p x.1 _ hn (by simpa using h2)]
        exact prE_row _ r h
theorem prE_rise {ps : List Pr} (h : prE ⟨#[]⟩ ps = 0) : Rise (keysP ps) := (row0_ok _ (prE_row _ ps h)).2
theorem filt_cut {α : Type} (p : α → Bool) (l : List α) (K : Nat) (h1 : ∀ t (h : t < l.length), t < K → p l[t] = true) (h2 : ∀ t (h : t < l.length), K ≤ t → p l[t] = false) : l.filter p = l.take K := by
  have e : l.filter p = (l.take K ++ l.drop K).filter p := by rw [List.take_append_drop]
  rw [e, List.filter_append, List.filter_eq_self.2, List.filter_eq_nil_iff.2, List.append_nil]
  · intro a ha
    obtain ⟨i, hi, rfl⟩ := List.getElem_of_mem ha
    rw [List.getElem_drop]
    rw [List.length_drop] at hi
    rw [h2 (K + i) (by omega) (by omega)]; simp
  · intro a ha
    obtain ⟨i, hi, rfl⟩ := List.getElem_of_mem ha
    rw [List.getElem_take]
    rw [List.length_take] at hi
    exact h1 i (by omega) (by omega)
theorem filt_cut2 {α : Type} (p : α → Bool) (l : List α) (K : Nat) (h1 : ∀ t (h : t < l.length), t < K → p l[t] = false) (h2 : ∀ t (h : t < l.length), K ≤ t → p l[t] = true) : l.filter p = l.drop K := by
  have e : l.filter p = (l.take K ++ l.drop K).filter p := by rw [List.take_append_drop]
  rw [e, List.filter_append, List.filter_eq_nil_iff.2, List.filter_eq_self.2, List.nil_append]
  · intro a ha
    obtain ⟨i, hi, rfl⟩ := List.getElem_of_mem ha
    rw [List.getElem_drop]
    rw [List.length_drop] at hi
    exact h2 (K + i) (by omega) (by omega)
  · intro a ha
    obtain ⟨i, hi, rfl⟩ := List.getElem_of_mem ha
    rw [List.getElem_take]
    rw [List.length_take] at hi
    rw [h1 i (by omega) (by omega)]; simp
/-- where a key stands, or would stand -/
def lesP (ps : List Pr) (x : ByteArray) : Nat := lessN (keysP ps) x
def inP (ps : List Pr) (x : ByteArray) : Bool := inB (keysP ps) x
theorem lesP_le (ps : List Pr) (x : ByteArray) : lesP ps x ≤ ps.length := by
  have := lessN_le (keysP ps) x
  rw [keysP_len] at this
  exact this
theorem lt_take {ps : List Pr} {x : ByteArray} (hr : Rise (keysP ps)) : ps.filter (ltP x) = ps.take (lesP ps x) := by
  obtain ⟨_, h1, h2⟩ := cut_of (keysP ps) x hr
  refine filt_cut _ _ _ (fun t h ht => ?_) (fun t h ht => ?_)
  · have := h1 t (by rw [keysP_len]; exact h) ht
    rw [keysP_at ps t h] at this; exact this
  · have := h2 t (by rw [keysP_len]; exact h) ht
    rw [keysP_at ps t h] at this; exact this
theorem in_at {ps : List Pr} {x : ByteArray} (hr : Rise (keysP ps)) (h : inP ps x = true) : ∃ hk : lesP ps x < ps.length, ps[lesP ps x].1 = x := by
  have h1 := in_met (x := x) hr
  have h2 : metB (keysP ps) x (lessN (keysP ps) x) = true := by rw [h1]; exact h
  obtain ⟨hk, he⟩ := met_at h2
  have hk' : lesP ps x < ps.length := by rw [keysP_len] at hk; exact hk
  exact ⟨hk', by rw [← keysP_at ps _ hk']; exact he⟩
theorem in_idx {ps : List Pr} {x : ByteArray} (hr : Rise (keysP ps)) (i : Nat) (hi : i < ps.length) (he : ps[i].1 = x) : i = lesP ps x ∧ inP ps x = true := by
  have hi' : i < (keysP ps).length := by rw [keysP_len]; exact hi
  have he' : (keysP ps)[i] = x := by rw [keysP_at ps i hi]; exact he
  exact ⟨cut_idx hr i hi' he', mem_in.2 (by rw [← he']; exact List.getElem_mem hi')⟩
theorem gt_drop {ps : List Pr} {x : ByteArray} (hr : Rise (keysP ps)) : ps.filter (gtP x) = ps.drop (if inP ps x = true then lesP ps x + 1 else lesP ps x) := by
  obtain ⟨_, h1, h2⟩ := cut_of (keysP ps) x hr
  have key : ∀ t (h : t < ps.length), (t < lesP ps x → ltP x ps[t] = true) ∧ (lesP ps x ≤ t → ltP x ps[t] = false) := fun t h => by
    have a1 := h1 t (by rw [keysP_len]; exact h)
    have a2 := h2 t (by rw [keysP_len]; exact h)
    rw [keysP_at ps t h] at a1 a2
    exact ⟨a1, a2⟩
  have no : ∀ p : Pr, ltP x p = true → gtP x p = false := fun p hp => by
    cases hg : gtP x p with
    | false => rfl
    | true =>
      have := bl_trans _ _ _ hp hg
      rw [bl_irrefl] at this
      cases this
  refine filt_cut2 _ _ _ (fun t h ht => ?_) (fun t h ht => ?_)
  · by_cases hlt : t < lesP ps x
    · exact no _ ((key t h).1 hlt)
    · split at ht
      · next hin =>
        obtain ⟨hk, he⟩ := in_at hr hin
        have e : t = lesP ps x := by omega
        subst e
        show Op.bytesLess x.toList ps[lesP ps x].1.toList = false
        rw [he]; exact bl_irrefl _
      · omega
  · cases hg : gtP x ps[t] with
    | true => rfl
    | false =>
      exfalso
      have hl := (key t h).2 (by split at ht <;> omega)
      have e : ps[t].1.toList = x.toList := bl_total _ _ hl hg
      have e2 : ps[t].1 = x := ba_ext e
      obtain ⟨e3, e4⟩ := in_idx hr t h e2
      rw [if_pos e4] at ht
      omega
theorem setL_at {ps : List Pr} {p : Pr} (hr : Rise (keysP ps)) : setL ps p = (ps.take (lesP ps p.1) ++ [p]) ++ ps.drop (if inP ps p.1 = true then lesP ps p.1 + 1 else lesP ps p.1) := by
  unfold setL
  rw [lt_take hr, gt_drop hr]
theorem cmpS_less {s x : ByteArray} (h : Op.bytesLess s.toList x.toList = true) : cmpS s x = -1 := by unfold cmpS; rw [if_pos h]
theorem cmpS_not {s x : ByteArray} (h : Op.bytesLess s.toList x.toList = false) : 0 ≤ cmpS s x := by
  unfold cmpS
  rw [if_neg (by rw [h]; simp)]
  split <;> omega
theorem cmpS_eq {s x : ByteArray} : (cmpS s x == 0) = (s.toList == x.toList) := by
  unfold cmpS
  cases h1 : Op.bytesLess s.toList x.toList with
  | true =>
    rw [if_pos rfl]
    symm
    rw [beq_eq_false_iff_ne.2]
    · rfl
    · intro e; rw [e, bl_irrefl] at h1; cases h1
  | false =>
    rw [if_neg (by simp)]
    cases h2 : Op.bytesLess x.toList s.toList with
    | true =>
      rw [if_pos rfl]
      symm
      rw [beq_eq_false_iff_ne.2]
      · rfl
      · intro e; rw [e, bl_irrefl] at h2; cases h2
    | false =>
      rw [if_neg (by simp), bl_total _ _ h1 h2]
      simp
set_option maxRecDepth 100000 in
set_option maxHeartbeats 1000000 in
theorem find1_any (s : ByteArray) (a d : Int) (t x : ByteArray) (w : World) :
    Calls Try.prog 181 #[.agg #[.string s, .int .i64 a, .int .i64 d, .string t], .string x] w fun e w' => e = .returned (.int .i64 (cmpS s x)) ∧ Below w.heap.size w w' := by
  have HB1 := Lib.hid (Below.refl w.heap.size w)
  go_enter Try.func181, Try.ntmps181
  have HF2 := Lib.hid (blk_new w (.cells #[.string s, .int .i64 a, .int .i64 d, .string t] 139 (0, 0)))
  have HB3 := Lib.hid (HB1.out.alloc HB1.out.size (.cells #[.string s, .int .i64 a, .int .i64 d, .string t] 139 (0, 0)))
  clear HB1
  have hc4 : (w.alloc (.cells #[.string s, .int .i64 a, .int .i64 d, .string t] 139 (0, 0))).cell? ⟨w.heap.size, 0, none⟩ = some (.string s) := by rw [cell_of_row _ _ _ _ _ _ HF2.out]; rfl
  have hc5 : (w.alloc (.cells #[.string s, .int .i64 a, .int .i64 d, .string t] 139 (0, 0))).cell? ⟨w.heap.size, 1, none⟩ = some (.int .i64 a) := by rw [cell_of_row _ _ _ _ _ _ HF2.out]; rfl
  have hc6 : (w.alloc (.cells #[.string s, .int .i64 a, .int .i64 d, .string t] 139 (0, 0))).cell? ⟨w.heap.size, 2, none⟩ = some (.int .i64 d) := by rw [cell_of_row _ _ _ _ _ _ HF2.out]; rfl
  have hc7 : (w.alloc (.cells #[.string s, .int .i64 a, .int .i64 d, .string t] 139 (0, 0))).cell? ⟨w.heap.size, 3, none⟩ = some (.string t) := by rw [cell_of_row _ _ _ _ _ _ HF2.out]; rfl
  go_wp2_with fail
  refine (cmpS_any s x (w.alloc (.cells #[.string s, .int .i64 a, .int .i64 d, .string t] 139 (0, 0)))).mono ?_
  rintro e w' ⟨rfl, rfl⟩
  go_wp2_with fail
  go_ret
  exact ⟨rfl, HB3.out⟩
set_option maxHeartbeats 4000000 in
set_option maxRecDepth 100000 in
theorem bsf_any (A : Option Addr) (n c : Nat) (ps : List Pr) (x : ByteArray) (K : Nat) (w : World) (h : RdX prC 4 w A n ps) (hn : n ≤ 1000000) (hK : Cut (keysP ps) x K) :
    Calls Try.prog 180 #[.slice A n c, .string x, .func (.func 181) #[] #[]] w fun e w' => e = .returned (.tuple #[.int .i64 (K : Int), .bool (metB (keysP ps) x K)]) ∧ Below w.heap.size w w' := by
  have H := Lib.hid h
  have HL := Lib.hid h.1
  obtain ⟨hk0, h1, h2⟩ := hK
  rw [keysP_len, h.1] at hk0
  have H1 := Lib.hid h1
  have H2 := Lib.hid h2
  clear h h1 h2
  go_enter Try.func180, Try.ntmps180
  go_wp2
  go_loopw [9, 10, 11] (fun i j _ wr => ∃ (lo hi : Nat), i = .int .i64 (lo : Int) ∧ j = .int .i64 (hi : Int) ∧ lo ≤ K ∧ K ≤ hi ∧ hi ≤ n ∧ Below w.heap.size w wr) (fun i j _ _ => (intOf j - intOf i).toNat)
  case atStart => exact ⟨0, n, rfl, rfl, by omega, hk0, Nat.le_refl _, Below.refl _ _⟩
  case round =>
    obtain ⟨lo, hi, rfl, rfl, hlo, hhi, hln, hb⟩ := hrel
    have HB := Lib.hid hb
    clear hb
    by_cases hlt : (lo : Int) < hi
    · obtain ⟨m, hm⟩ : ∃ m, m = (lo + hi) / 2 := ⟨_, rfl⟩
      have hml : lo ≤ m := by omega
      have hmh : m < hi := by omega
      have hmn : m < n := by omega
      have hme : ((lo : Int) + hi) / 2 = (m : Int) := by omega
      obtain ⟨b, off, hl, rfl, hbb, _⟩ := (H.out.below HB.out).at hmn
      have hms : m < (keysP ps).length := by rw [keysP_len]; exact hl
      have HKA := Lib.hid (keysP_at ps m hl)
      obtain ⟨y, hy⟩ : ∃ y, ps[m] = y := ⟨_, rfl⟩
      have HX := Lib.hid (show ps[m]? = some y by rw [List.getElem?_eq_getElem hl, hy])
      rw [hy] at HKA
      obtain ⟨s, a, d, t⟩ := y
      have hi0 : (0 : Int) ≤ (m : Int) := by omega
      have hi1 : (m : Int) < (n : Int) := by omega
      clear hm hy
      by_cases hmk : m < K
      · have HV := Lib.hid (cmpS_less (show Op.bytesLess s.toList x.toList = true by have := H1.out m hms hmk; rw [HKA.out] at this; exact this))
        have HF := Lib.hid (fun W : World => find1_any s a d t x W)
        rw [HV.out] at HF
        have hc101 : wr.cell? ⟨b, off + m * 4, none⟩ = some (.string s) := (H.out.below HB.out).cellAt HX.out hmn 0 _ rfl
        have hc102 : wr.cell? ⟨b, off + m * 4 + 1, none⟩ = some (.int .i64 a) := (H.out.below HB.out).cellAt HX.out hmn 1 _ rfl
        have hc103 : wr.cell? ⟨b, off + m * 4 + 2, none⟩ = some (.int .i64 d) := (H.out.below HB.out).cellAt HX.out hmn 2 _ rfl
        have hc104 : wr.cell? ⟨b, off + m * 4 + 3, none⟩ = some (.string t) := (H.out.below HB.out).cellAt HX.out hmn 3 _ rfl
        go_wp2_with fail
        clear hc101 hc102 hc103 hc104
        refine (HF.out wr).mono ?_
        rintro e w11 ⟨rfl, hb11⟩
        have HB105 := Lib.hid (HB.out.trans (hb11.mono HB.out.size))
        clear hb11 HB 
        go_wp2_with fail
        go_roundw
        case rel => exact ⟨m + 1, hi, by go_num, rfl, by omega, hhi, hln, HB105.out⟩
        case measure => simp [intOf] <;> omega
      · have hv := cmpS_not (show Op.bytesLess s.toList x.toList = false by have := H2.out m hms (by omega); rw [HKA.out] at this; exact this)
        have HF := Lib.hid (fun W : World => find1_any s a d t x W)
        generalize cmpS s x = z at hv HF
        have hz : decide (z < 0) = false := decide_eq_false (by omega)
        have hc101 : wr.cell? ⟨b, off + m * 4, none⟩ = some (.string s) := (H.out.below HB.out).cellAt HX.out hmn 0 _ rfl
        have hc102 : wr.cell? ⟨b, off + m * 4 + 1, none⟩ = some (.int .i64 a) := (H.out.below HB.out).cellAt HX.out hmn 1 _ rfl
        have hc103 : wr.cell? ⟨b, off + m * 4 + 2, none⟩ = some (.int .i64 d) := (H.out.below HB.out).cellAt HX.out hmn 2 _ rfl
        have hc104 : wr.cell? ⟨b, off + m * 4 + 3, none⟩ = some (.string t) := (H.out.below HB.out).cellAt HX.out hmn 3 _ rfl
        go_wp2_with fail
        clear hc101 hc102 hc103 hc104
        refine (HF.out wr).mono ?_
        rintro e w11 ⟨rfl, hb11⟩
        have HB105 := Lib.hid (HB.out.trans (hb11.mono HB.out.size))
        clear hb11 HB 
        go_wp2_with fail
        go_roundw
        case rel => exact ⟨lo, m, rfl, rfl, hlo, by omega, by omega, HB105.out⟩
        case measure => simp [intOf] <;> omega
    · obtain rfl : lo = K := by omega
      obtain rfl : hi = lo := by omega
      clear H1 H2
      by_cases hin : hi < n
      · have hd1 : decide ((hi : Int) < (n : Int)) = true := decide_eq_true (by omega)
        obtain ⟨b, off, hl, rfl, hbb, _⟩ := (H.out.below HB.out).at hin
        have hms : hi < (keysP ps).length := by rw [keysP_len]; exact hl
        have HG := Lib.hid (show metB (keysP ps) x hi = (ps[hi].1.toList == x.toList) by unfold metB; rw [decide_eq_true hms, Bool.true_and, List.getD_eq_getElem?_getD, List.getElem?_eq_getElem hms, ← keysP_at ps hi hl]; rfl)
        obtain ⟨y, hy⟩ : ∃ y, ps[hi] = y := ⟨_, rfl⟩
        have HX := Lib.hid (show ps[hi]? = some y by rw [List.getElem?_eq_getElem hl, hy])
        rw [hy] at HG
        obtain ⟨s, a, d, t⟩ := y
        have hi0 : (0 : Int) ≤ (hi : Int) := by omega
        have HF := Lib.hid (fun W : World => find1_any s a d t x W)
        have HE := Lib.hid (cmpS_eq (s := s) (x := x))
        generalize cmpS s x = z at HF HE
        have HM := Lib.hid (show metB (keysP ps) x hi = (z == 0) by rw [HE.out, HG.out])
        clear hlt hy HG HE
        cases hzm : (z == 0)
        · have HR := Lib.hid (HM.out.trans hzm)
          have hc101 : wr.cell? ⟨b, off + hi * 4, none⟩ = some (.string s) := (H.out.below HB.out).cellAt HX.out hin 0 _ rfl
          have hc102 : wr.cell? ⟨b, off + hi * 4 + 1, none⟩ = some (.int .i64 a) := (H.out.below HB.out).cellAt HX.out hin 1 _ rfl
          have hc103 : wr.cell? ⟨b, off + hi * 4 + 2, none⟩ = some (.int .i64 d) := (H.out.below HB.out).cellAt HX.out hin 2 _ rfl
          have hc104 : wr.cell? ⟨b, off + hi * 4 + 3, none⟩ = some (.string t) := (H.out.below HB.out).cellAt HX.out hin 3 _ rfl
          go_wp2_with fail
          clear hc101 hc102 hc103 hc104
          refine (HF.out wr).mono ?_
          rintro e w11 ⟨rfl, hb11⟩
          have HB105 := Lib.hid (HB.out.trans (hb11.mono HB.out.size))
          clear hb11 HB 
          go_wp2_with fail
          go_ret2
          exact ⟨by first | (rw [HR.out]; done) | (rw [HR.out]; rfl), HB105.out⟩
        · have HR := Lib.hid (HM.out.trans hzm)
          have hc101 : wr.cell? ⟨b, off + hi * 4, none⟩ = some (.string s) := (H.out.below HB.out).cellAt HX.out hin 0 _ rfl
          have hc102 : wr.cell? ⟨b, off + hi * 4 + 1, none⟩ = some (.int .i64 a) := (H.out.below HB.out).cellAt HX.out hin 1 _ rfl
          have hc103 : wr.cell? ⟨b, off + hi * 4 + 2, none⟩ = some (.int .i64 d) := (H.out.below HB.out).cellAt HX.out hin 2 _ rfl
          have hc104 : wr.cell? ⟨b, off + hi * 4 + 3, none⟩ = some (.string t) := (H.out.below HB.out).cellAt HX.out hin 3 _ rfl
          go_wp2_with fail
          clear hc101 hc102 hc103 hc104
          refine (HF.out wr).mono ?_
          rintro e w11 ⟨rfl, hb11⟩
          have HB105 := Lib.hid (HB.out.trans (hb11.mono HB.out.size))
          clear hb11 HB 
          go_wp2_with fail
          go_ret2
          exact ⟨by first | (rw [HR.out]; done) | (rw [HR.out]; rfl), HB105.out⟩
      · have hd : decide ((hi : Int) < (n : Int)) = false := decide_eq_false (by omega)
        have HR := Lib.hid (show metB (keysP ps) x hi = false by unfold metB; rw [decide_eq_false (by rw [keysP_len, HL.out]; omega), Bool.false_and])
        go_wp2
        go_ret2
        exact ⟨by first | (rw [HR.out]; done) | (rw [HR.out]; rfl), HB.out⟩
set_option maxRecDepth 100000 in
theorem efind_any (A : Option Addr) (n c : Nat) (ps : List Pr) (x : ByteArray) (w : World) (h : RdX prC 4 w A n ps) (hn : n ≤ 1000000) (hr : Rise (keysP ps)) :
    Calls Try.prog 146 #[.slice A n c, .string x] w fun e w' => e = .returned (.tuple #[.int .i64 (lesP ps x : Int), .bool (inP ps x)]) ∧ Below w.heap.size w w' := by
  have HF := Lib.hid (bsf_any A n c ps x (lesP ps x) w h hn (cut_of (keysP ps) x hr))
  have HI := Lib.hid (show metB (keysP ps) x (lesP ps x) = inP ps x from in_met (x := x) hr)
  rw [HI.out] at HF
  generalize lesP ps x = K at HF ⊢
  generalize inP ps x = m at HF ⊢
  clear h HI
  go_enter Try.func146, Try.ntmps146
  go_wp2_with fail
  refine HF.out.mono ?_
  rintro e w1 ⟨rfl, hb⟩
  have HB := Lib.hid hb
  clear hb
  go_wp2_with fail
  go_ret2
  exact ⟨rfl, HB.out⟩
end Go.Proofs.Ytjnichiblljmjaa

namespace Go.Proofs.Ytjnichiblljmjaa
open Go.RowKit Vi

theorem info_prB : (Try.prog.info? 139).map (fun i => (i.zero, i.size, i.bytes)) = some (some (.agg #[.string ⟨#[]⟩, .int .i64 0, .int .i64 0, .string ⟨#[]⟩]), 4, 48) := by kernel_rfl
def RetP0 (w : World) (L : List Pr) (e : Ending) (w' : World) : Prop := ∃ v, e = .returned v ∧ OwX prC 4 139 w' w.heap.size v L ∧ Below w.heap.size w w'
def RetP (w : World) (L : List Pr) (z : Int) (e : Ending) (w' : World) : Prop := ∃ v, e = .returned (.tuple #[v, .int .i64 z]) ∧ OwX prC 4 139 w' w.heap.size v L ∧ Below w.heap.size w w'
set_option maxRecDepth 100000 in
set_option maxHeartbeats 1600000 in
theorem pgrow_any (n : Nat) (w : World) (hn : n ≤ 300000) :
    Calls Try.prog 182 #[.slice none 0 0, .int .i64 (n : Int)] w (RetP0 w []) := by
  rcases Nat.eq_zero_or_pos n with rfl | hp
  · go_enter Try.func182, Try.ntmps182
    go_wp2
    go_ret
    exact ⟨_, rfl, OwX.nil w, Below.refl _ _⟩
  · obtain ⟨i0, hi, hz0, hz1, hz2⟩ := info_parts info_prB
    have hrz := fun ty => Lib.run_append_nil_zeros (P := Try.prog) w 43 3 ty 139 i0 (.agg #[.string ⟨#[]⟩, .int .i64 0, .int .i64 0, .string ⟨#[]⟩]) .i64 .i64 Try.underlying43 Try.underlying3 hi hz0 n hp (by omega) (by omega) (by rw [hz2]; omega)
    have hGn : n ≤ grownCap w n 0 139 := grownCap_ge w _ _ _
    have hGm : grownCap w n 0 139 ≤ maxLen := grownCap_le_maxLen w n 0 139 (by unfold maxLen; omega)
    obtain ⟨G, hG⟩ : ∃ G, G = grownCap w n 0 139 := ⟨_, rfl⟩
    rw [← hG] at hGn hGm
    simp only [← hG] at hrz
    clear hG
    have hGm2 := hGm
    unfold maxLen at hGm2
    have h4 : (n : Int) > 0 := by omega
    have h1 : ¬ ((n : Int) < 0) := by omega
    have HRZ := Lib.hid hrz
    clear hrz hi hz0 hz1 hz2
    go_enter Try.func182, Try.ntmps182
    go_wp2_with (at_builtin; refine Lib.wpList_append_run _ rfl _ _ _ _ rfl _ _ rfl rfl _ _ (HRZ.out _) ?_)
    all_goals go_ret
    all_goals exact ⟨_, rfl, OwX.zero (heap_alloc_new w.drew _) (Nat.le_refl _) hGm (by simp [size_zeroCells]; omega), ((Below.refl _ w).drew).alloc (Nat.le_refl _) _⟩
theorem newX_one (w : World) (o : Obj) : (w.alloc o).drew.heap[w.heap.size]? = some o := (MapKept.heap_alloc w o).1
theorem belX_one (w : World) (o : Obj) : Below w.heap.size w (w.alloc o).drew := ((Below.refl _ w).alloc (Nat.le_refl _) o).drew
theorem sizX_one (w : World) (o : Obj) : w.heap.size < (w.alloc o).drew.heap.size := by show _ < (w.heap.push o).size; simp
/-- a slice of properties that came in -/
structure SlP where
  a : Option Addr
  n : Nat
  c : Nat
  l : List Pr
def slC (x : SlP) : List Value := [.slice x.a x.n x.c]
def totP (xs : List SlP) : Nat := (xs.map (·.n)).sum
theorem totP_take (xs : List SlP) (k : Nat) (h : k < xs.length) : totP (xs.take (k + 1)) = totP (xs.take k) + xs[k].n := by
  rw [List.take_succ_eq_append_getElem h]; unfold totP; simp only [List.map_append, List.sum_append, List.map_cons, List.map_nil, List.sum_cons, List.sum_nil]; omega
theorem totP_le (xs : List SlP) (k : Nat) : totP (xs.take k) ≤ totP xs := by
  have : totP xs = totP (xs.take k) + totP (xs.drop k) := by
    unfold totP
    rw [← List.sum_append, ← List.map_append, List.take_append_drop]
  omega
theorem cat_take (xs : List SlP) (k : Nat) (h : k < xs.length) : (xs.take (k + 1)).flatMap (·.l) = (xs.take k).flatMap (·.l) ++ xs[k].l := by
  rw [List.take_succ_eq_append_getElem h, List.flatMap_append]; simp only [List.flatMap_cons, List.flatMap_nil, List.append_nil]
theorem cat_len (w : World) (xs : List SlP) (h : ∀ x ∈ xs, RdX prC 4 w x.a x.n x.l) : (xs.flatMap (·.l)).length = totP xs := by
  induction xs with
  | nil => rfl
  | cons x r ih =>
    rw [List.flatMap_cons, List.length_append, ih (fun y hy => h y (List.mem_cons_of_mem _ hy)), (h x (by simp)).1]
    unfold totP; simp
set_option maxRecDepth 100000 in
set_option maxHeartbeats 2000000 in
theorem pconcat_any (b off m cp : Nat) (xs : List SlP) (w : World) (h : RdX slC 1 w (some ⟨b, off, none⟩) m xs) (hx : ∀ x ∈ xs, RdX prC 4 w x.a x.n x.l) (hm : m ≤ 100) (ht : totP xs ≤ 100000) :
    Calls Try.prog 147 #[.slice (some ⟨b, off, none⟩) m cp] w (RetP0 w (xs.flatMap (·.l))) := by
  have H := Lib.hid h
  have HX := Lib.hid hx
  have L := Lib.hid h.1
  have HTT := Lib.hid (fun k => totP_le xs k)
  clear h hx
  go_enter Try.func147, Try.ntmps147
  go_wp2
  go_loop [3, 5, 11] (fun v _ i => ∃ (k t : Nat), i = .int .i64 (k : Int) ∧ v = .int .i64 (t : Int) ∧ k ≤ m ∧ t = totP (xs.take k)) (fun _ _ i => m - (intOf i).toNat)
  case atStart => exact ⟨0, 0, rfl, rfl, Nat.zero_le _, rfl⟩
  case round =>
    obtain ⟨k, t, rfl, rfl, hk, htk⟩ := hrel
    have HTK := Lib.hid htk
    have ht1 : t ≤ 100000 := by have := HTT.out k; rw [htk]; omega
    clear htk
    by_cases hlt : k < m
    · have hd1 : decide ((k : Int) < (m : Int)) = true := decide_eq_true (by omega)
      have hl : k < xs.length := by rw [L.out]; exact hlt
      have HA := Lib.hid (totP_take xs k hl)
      have hle := HTT.out (k + 1)
      rw [HA.out, ← HTK.out] at hle
      obtain ⟨x, hx⟩ : ∃ x, xs[k] = x := ⟨_, rfl⟩
      have HXK := Lib.hid (show xs[k]? = some x by rw [List.getElem?_eq_getElem hl, hx])
      rw [hx] at HA hle
      obtain ⟨xa, xn, xc, xl⟩ := x
      have a0 : w.cell? ⟨b, off + k, none⟩ = some (.slice xa xn xc) := by have h := H.out.cellAt HXK.out hlt 0 _ rfl; rw [Nat.add_zero, Nat.mul_one] at h; exact h
      have hxn : t + xn ≤ 100000 := Nat.le_trans hle ht
      have HA : Hid (totP (xs.take (k + 1)) = totP (xs.take k) + xn) := HA
      have HR := Lib.hid (show t + xn = totP (xs.take (k + 1)) by rw [HA.out, HTK.out])
      have hi0 : (0 : Int) ≤ (k : Int) := by omega
      have hneg : decide ((t : Int) + (xn : Int) < 0) = false := decide_eq_false (by omega)
      clear hx hle
      go_wp2_with fail
      go_round
      case rel => exact ⟨k + 1, t + xn, by go_num, by go_num, by omega, HR.out⟩
      case measure => simp [intOf] <;> omega
    · have hd1 : decide ((k : Int) < (m : Int)) = false := decide_eq_false (by omega)
      go_wp2_with fail
      refine (pgrow_any t w (by omega)).mono ?_
      rintro e w1 ⟨v1, rfl, ho1, hb1⟩
      have HO1 := Lib.hid ho1
      have HB1 := Lib.hid hb1
      have hv1 := ho1.one
      clear ho1 hb1 hd1
      go_wp2_with fail
      go_loopw [6, 8, 27] (fun vv _ i wr => ∃ (j : Nat) (v : Value), v = vv ∧ i = .int .i64 (j : Int) ∧ j ≤ m ∧ OwX prC 4 139 wr w.heap.size v ((xs.take j).flatMap (·.l)) ∧ Below w.heap.size w wr) (fun _ _ i _ => m - (intOf i).toNat)
      case atStart => exact ⟨0, _, rfl, rfl, Nat.zero_le _, HO1.out, HB1.out⟩
      case round =>
        obtain ⟨j, v, rfl, rfl, hj, ho, hb⟩ := hrel
        have HO := Lib.hid ho
        have HB := Lib.hid hb
        have hv := ho.one
        clear ho hb
        by_cases hlt2 : j < m
        · have hd1 : decide ((j : Int) < (m : Int)) = true := decide_eq_true (by omega)
          have hl : j < xs.length := by rw [L.out]; exact hlt2
          have HCT := Lib.hid (cat_take xs j hl)
          have HRJ := Lib.hid (HX.out _ (List.getElem_mem hl))
          have HTJ := Lib.hid (totP_take xs j hl)
          have hle := HTT.out (j + 1)
          rw [HTJ.out] at hle
          have HLJ := Lib.hid (cat_len w (xs.take j) (fun y hy => HX.out y (List.mem_of_mem_take hy)))
          obtain ⟨x, hx⟩ : ∃ x, xs[j] = x := ⟨_, rfl⟩
          have HXK := Lib.hid (show xs[j]? = some x by rw [List.getElem?_eq_getElem hl, hx])
          rw [hx] at HCT HRJ hle
          obtain ⟨xa, xn, xc, xl⟩ := x
          have a0 : wr.cell? ⟨b, off + j, none⟩ = some (.slice xa xn xc) := by have h := (H.out.below HB.out).cellAt HXK.out hlt2 0 _ rfl; rw [Nat.add_zero, Nat.mul_one] at h; exact h
          have HRJ : Hid (RdX prC 4 w xa xn xl) := HRJ
          have HCT : Hid ((xs.take (j + 1)).flatMap (·.l) = (xs.take j).flatMap (·.l) ++ xl) := HCT
          have hle : totP (xs.take j) + xn ≤ totP xs := hle
          have hi0 : (0 : Int) ≤ (j : Int) := by omega
          clear hx
          go_wp2_with (at_builtin; refine wpList_appXs rfl _ _ 43 139 _ 48 rfl Try.underlying43 info_prB rfl (by omega) (by omega) prC_len prC_one w.heap.size w HB.out HB.out.size v _ rfl HO.out xa xn xc xl rfl (HRJ.out.below HB.out) (by rw [HLJ.out]; omega) ?_)
          intro v2 w2 HO2 HB2 HZ2 HG2
          have hv2 := HO2.out.one
          go_wp2_with fail
          go_roundw
          case rel => exact ⟨j + 1, v2, rfl, by go_num, by omega, by rw [HCT.out]; exact HO2.out, HB2.out⟩
          case measure => simp [intOf] <;> omega
        · have hd1 : decide ((j : Int) < (m : Int)) = false := decide_eq_false (by omega)
          have HE := Lib.hid (show xs.take j = xs from List.take_of_length_le (by rw [L.out]; omega))
          rw [HE.out] at HO
          go_wp2_with fail
          go_ret
          exact ⟨v, rfl, HO.out, HB.out⟩
theorem elem_pp : Try.prog.elem 43 = 139 := by kernel_rfl
theorem size_of_pr (W : World) : (sizeOf 139).run Try.prog W = .ok 4 W := by
  obtain ⟨i0, hi, _, hz1, _⟩ := info_parts info_prB
  simp [sizeOf, typeInfo, hi, hz1]
theorem und_pp : Try.prog.underlying 43 = some (.slice (Try.prog.elem 43)) := by rw [elem_pp]; exact Try.underlying43
theorem pslice_to (a : Option Addr) (n c k : Nat) (hk : k ≤ c) (W : World) : (Instr.slice 43 (.slice a n c) none (some (.int .i64 (k : Int))) none).run Try.prog W = .ok (.slice a k c) W := by
  rw [run_slice_h W _ a n c und_pp .i64 k (by omega) (by omega), elem_pp, size_of_pr]
  simp [Result.andThen, sliced, Addr.add]
theorem pslice_from (a : Option Addr) (n c k : Nat) (z : Int) (hz : z = k) (hk : k ≤ n) (W : World) : (Instr.slice 43 (.slice a n c) (some (.int .i64 z)) none none).run Try.prog W = .ok (.slice (cutX 4 a c k) (n - k) (c - k)) W := by
  subst hz
  rw [run_slice_l W _ a n c und_pp .i64 k (by omega) (by omega), elem_pp, size_of_pr]
  simp [Result.andThen, sliced, cutX]
def getV (ps : List Pr) (x : ByteArray) : Int × Int × ByteArray := if inP ps x = true then (ps.getD (lesP ps x) (⟨#[]⟩, 0, 0, ⟨#[]⟩)).2 else (0, 0, ⟨#[]⟩)
def setE (ps : List Pr) (p : Pr) : Int := if okP p = false then 2 else if inP ps p.1 = false ∧ 8 ≤ ps.length then 5 else 0
def setV (ps : List Pr) (p : Pr) : List Pr := if setE ps p = 0 then setL ps p else []
def usE (ps : List Pr) (x : ByteArray) : Int := if inP ps x = true then 0 else 9
def usV (ps : List Pr) (x : ByteArray) : List Pr := if inP ps x = true then ps.take (lesP ps x) ++ ps.drop (lesP ps x + 1) else []
theorem getV_at {ps : List Pr} {x s t : ByteArray} {a d : Int} (h : inP ps x = true) (hk : lesP ps x < ps.length) (he : ps[lesP ps x] = (s, a, d, t)) : getV ps x = (a, d, t) := by
  unfold getV
  rw [if_pos h, List.getD_eq_getElem?_getD, List.getElem?_eq_getElem hk, he]; rfl
set_option maxRecDepth 100000 in
set_option maxHeartbeats 4000000 in
theorem eunset_any (A : Option Addr) (n c : Nat) (ps : List Pr) (x : ByteArray) (w : World) (h : RdX prC 4 w A n ps) (hn : n ≤ 8) (hc : n ≤ c) (hr : Rise (keysP ps)) :
    Calls Try.prog 99 #[.slice A n c, .string x] w (RetP w (usV ps x) (usE ps x)) := by
  have H := Lib.hid h
  have HF := Lib.hid (fun (W : World) (q : RdX prC 4 W A n ps) => efind_any A n c ps x W q (by omega) hr)
  have HL := Lib.hid (in_at (x := x) hr)
  have L := Lib.hid h.1
  clear h
  cases hin : inP ps x with
  | false =>
    have HV := Lib.hid (show usE ps x = 9 ∧ usV ps x = [] by unfold usE usV; rw [if_neg (by rw [hin]; simp), if_neg (by rw [hin]; simp)]; exact ⟨rfl, rfl⟩)
    rw [hin] at HF
    clear hin HL
    have HB1 := Lib.hid (Below.refl w.heap.size w)
    go_enter Try.func99, Try.ntmps99
    go_wp2_with fail
    refine (HF.out w (H.out.below HB1.out)).mono ?_
    rintro e w1 ⟨rfl, hb1⟩
    have HB2 := Lib.hid (HB1.out.trans (hb1.mono HB1.out.size))
    clear hb1 HB1 
    go_wp2_with fail
    go_ret2
    exact ⟨_, by first | (rw [HV.out.1]; done) | (rw [HV.out.1]; rfl), by rw [HV.out.2]; exact OwX.nil _, HB2.out⟩
  | true =>
    obtain ⟨hk, he⟩ := HL.out hin
    obtain ⟨K, hK⟩ : ∃ K, K = lesP ps x := ⟨_, rfl⟩
    have HV := Lib.hid (show usE ps x = 0 ∧ usV ps x = ps.take K ++ ps.drop (K + 1) by unfold usE usV; rw [if_pos hin, if_pos hin, hK]; exact ⟨rfl, rfl⟩)
    have hkn : K < n := by rw [hK, ← L.out]; exact hk
    have hi0 : (0 : Int) ≤ (K : Int) := by omega
    have hi1 : (K : Int) < (n : Int) := by omega
    rw [hin, ← hK] at HF
    clear hin HL he hk hK
    have HB1 := Lib.hid (Below.refl w.heap.size w)
    go_enter Try.func99, Try.ntmps99
    go_wp2_with fail
    refine (HF.out w (H.out.below HB1.out)).mono ?_
    rintro e w1 ⟨rfl, hb1⟩
    have HB2 := Lib.hid (HB1.out.trans (hb1.mono HB1.out.size))
    clear hb1 HB1 
    have s1 := fun W => pslice_to A n c K (by omega) W
    have s2 := fun W => pslice_from A n c (K + 1) ((K : Int) + 1) (by omega) (by omega) W
    have hw1 : IntKind.i64.wrap ((K : Int) + 1) = (K : Int) + 1 := IntWalk.i64_in _ (by omega)
    have HD1 := Lib.hid (H.out.take K (by omega))
    have HD2 := Lib.hid (H.out.drop (c := c) (K + 1) (by omega) hc)
    generalize cutX 4 A c (K + 1) = A2 at s2 HD2
    go_upto_region 4 with (fail)
    have HRL := Lib.hid (fun (W : World) (hB : Below w1.heap.size w1 W) => show ∀ y ∈ ([⟨A, K, c, ps.take K⟩, ⟨A2, n - (K + 1), c - (K + 1), ps.drop (K + 1)⟩] : List SlP), RdX prC 4 W y.a y.n y.l from fun y hy => by
      have HBN := HB2.out.trans (hB.mono HB2.out.size)
      rcases List.mem_cons.1 hy with e | hy
      · subst e; exact HD1.out.below HBN
      · have e : y = ⟨A2, n - (K + 1), c - (K + 1), ps.drop (K + 1)⟩ := by simpa using hy
        subst e; exact HD2.out.below HBN)
    go_region_with (go_at_call 147; refine (pconcat_any (w1.heap.size) 0 2 2 [⟨A, K, c, ps.take K⟩, ⟨A2, n - (K + 1), c - (K + 1), ps.drop (K + 1)⟩] _ (rd_blk (f := slC) (s := 1) (fun _ => rfl) [⟨A, K, c, ps.take K⟩, ⟨A2, n - (K + 1), c - (K + 1), ps.drop (K + 1)⟩] (newX_one _ _) rfl) (HRL.out _ (belX_one _ _)) (by omega) (by simp [totP]; omega)).mono ?_; rintro e w2 ⟨v2, rfl, ho2, hb2⟩)
    have HO2 := Lib.hid ho2
    have HBZ := Lib.hid (HB2.out.trans (((belX_one _ _).trans (hb2.mono (Nat.le_of_lt (sizX_one _ _)))).mono HB2.out.size))
    have hv2 := ho2.one
    clear ho2 hb2 s1 s2 hw1
    go_wp2_with fail
    go_ret2
    refine ⟨v2, by first | (rw [HV.out.1]; done) | (rw [HV.out.1]; rfl), ?_, HBZ.out⟩
    rw [HV.out.2]
    have k := HO2.out
    simp only [List.flatMap_cons, List.flatMap_nil, List.append_nil] at k
    exact k.mono (Nat.le_trans HB2.out.size (Nat.le_of_lt (sizX_one _ _)))
theorem setE_bad {ps : List Pr} {p : Pr} (h : okP p = false) : setE ps p = 2 ∧ setV ps p = [] := by
  have e : setE ps p = 2 := by unfold setE; rw [if_pos h]
  exact ⟨e, by unfold setV; rw [e]; rfl⟩
theorem setE_full {ps : List Pr} {p : Pr} (h : okP p = true) (h1 : inP ps p.1 = false) (h2 : 8 ≤ ps.length) : setE ps p = 5 ∧ setV ps p = [] := by
  have e : setE ps p = 5 := by unfold setE; rw [if_neg (by rw [h]; simp), if_pos ⟨h1, h2⟩]
  exact ⟨e, by unfold setV; rw [e]; rfl⟩
theorem setE_ok {ps : List Pr} {p : Pr} (h : okP p = true) (h1 : ¬ (inP ps p.1 = false ∧ 8 ≤ ps.length)) : setE ps p = 0 ∧ setV ps p = setL ps p := by
  have e : setE ps p = 0 := by unfold setE; rw [if_neg (by rw [h]; simp), if_neg h1]
  exact ⟨e, by unfold setV; rw [if_pos e]⟩
theorem newX_two (w : World) (o p : Obj) : ((w.alloc o).alloc p).drew.heap[w.heap.size]? = some o ∧ ((w.alloc o).alloc p).drew.heap[w.heap.size + 1]? = some p :=
  ⟨blk_alloc (blk_new w o) p, blk_newN (W := w.alloc o) (by simp)⟩
theorem belX_two (w : World) (o p : Obj) : Below w.heap.size w ((w.alloc o).alloc p).drew := (((Below.refl _ w).alloc (Nat.le_refl _) o).alloc (by simp) p).drew
theorem sizX_two (w : World) (o p : Obj) : w.heap.size ≤ ((w.alloc o).alloc p).drew.heap.size := (belX_two w o p).size
set_option maxRecDepth 100000 in
set_option maxHeartbeats 8000000 in
theorem eset_any (A : Option Addr) (n c : Nat) (ps : List Pr) (s : ByteArray) (a d : Int) (t : ByteArray) (w : World) (h : RdX prC 4 w A n ps) (hn : n ≤ 8) (hc : n ≤ c) (hr : Rise (keysP ps)) (hs : s.size ≤ maxLen) :
    Calls Try.prog 98 #[.slice A n c, .string s, .agg #[.int .i64 a, .int .i64 d, .string t]] w (RetP w (setV ps (s, a, d, t)) (setE ps (s, a, d, t))) := by
  have H := Lib.hid h
  have HF := Lib.hid (fun (W : World) (q : RdX prC 4 W A n ps) => efind_any A n c ps s W q (by omega) hr)
  have HST := Lib.hid (fun W : World => stand_any s a d t W hs)
  have HL := Lib.hid (in_at (x := s) hr)
  have L := Lib.hid h.1
  have HLE := Lib.hid (lesP_le ps s)
  have HSA := Lib.hid (setL_at (p := (s, a, d, t)) hr)
  clear h
  cases ho : okP (s, a, d, t) with
  | false =>
    have HV := Lib.hid (setE_bad (ps := ps) ho)
    rw [ho] at HST
    clear ho
    have HB1 := Lib.hid (Below.refl w.heap.size w)
    go_enter Try.func98, Try.ntmps98
    have HF2 := Lib.hid (blk_new w (.cells #[.int .i64 a, .int .i64 d, .string t] 83 (0, 0)))
    have HB3 := Lib.hid (HB1.out.alloc HB1.out.size (.cells #[.int .i64 a, .int .i64 d, .string t] 83 (0, 0)))
    clear HB1
    have HF4 := Lib.hid (blk_alloc HF2.out (.cells #[.string s, .int .i64 a, .int .i64 d, .string t] 139 (0, 0)))
    clear HF2
    have HF5 : Hid (((w.alloc (.cells #[.int .i64 a, .int .i64 d, .string t] 83 (0, 0))).alloc (.cells #[.string s, .int .i64 a, .int .i64 d, .string t] 139 (0, 0))).heap[w.heap.size + 1]? = some (.cells #[.string s, .int .i64 a, .int .i64 d, .string t] 139 (0, 0))) := Lib.hid (blk_newN (W := (w.alloc (.cells #[.int .i64 a, .int .i64 d, .string t] 83 (0, 0)))) (o := (.cells #[.string s, .int .i64 a, .int .i64 d, .string t] 139 (0, 0))) (by simp))
    have HB6 := Lib.hid (HB3.out.alloc (by have := HB3.out.size; simp at this ⊢ <;> omega) (.cells #[.string s, .int .i64 a, .int .i64 d, .string t] 139 (0, 0)))
    clear HB3
    have hc7 : ((w.alloc (.cells #[.int .i64 a, .int .i64 d, .string t] 83 (0, 0))).alloc (.cells #[.string s, .int .i64 a, .int .i64 d, .string t] 139 (0, 0))).cell? ⟨w.heap.size, 0, none⟩ = some (.int .i64 a) := by rw [cell_of_row _ _ _ _ _ _ HF4.out]; rfl
    have hc8 : ((w.alloc (.cells #[.int .i64 a, .int .i64 d, .string t] 83 (0, 0))).alloc (.cells #[.string s, .int .i64 a, .int .i64 d, .string t] 139 (0, 0))).cell? ⟨w.heap.size, 1, none⟩ = some (.int .i64 d) := by rw [cell_of_row _ _ _ _ _ _ HF4.out]; rfl
    have hc9 : ((w.alloc (.cells #[.int .i64 a, .int .i64 d, .string t] 83 (0, 0))).alloc (.cells #[.string s, .int .i64 a, .int .i64 d, .string t] 139 (0, 0))).cell? ⟨w.heap.size, 2, none⟩ = some (.string t) := by rw [cell_of_row _ _ _ _ _ _ HF4.out]; rfl
    have hc10 : ((w.alloc (.cells #[.int .i64 a, .int .i64 d, .string t] 83 (0, 0))).alloc (.cells #[.string s, .int .i64 a, .int .i64 d, .string t] 139 (0, 0))).cell? ⟨w.heap.size + 1, 0, none⟩ = some (.string s) := by rw [cell_of_row _ _ _ _ _ _ HF5.out]; rfl
    have hc11 : ((w.alloc (.cells #[.int .i64 a, .int .i64 d, .string t] 83 (0, 0))).alloc (.cells #[.string s, .int .i64 a, .int .i64 d, .string t] 139 (0, 0))).cell? ⟨w.heap.size + 1, 1, none⟩ = some (.int .i64 a) := by rw [cell_of_row _ _ _ _ _ _ HF5.out]; rfl
    have hc12 : ((w.alloc (.cells #[.int .i64 a, .int .i64 d, .string t] 83 (0, 0))).alloc (.cells #[.string s, .int .i64 a, .int .i64 d, .string t] 139 (0, 0))).cell? ⟨w.heap.size + 1, 2, none⟩ = some (.int .i64 d) := by rw [cell_of_row _ _ _ _ _ _ HF5.out]; rfl
    have hc13 : ((w.alloc (.cells #[.int .i64 a, .int .i64 d, .string t] 83 (0, 0))).alloc (.cells #[.string s, .int .i64 a, .int .i64 d, .string t] 139 (0, 0))).cell? ⟨w.heap.size + 1, 3, none⟩ = some (.string t) := by rw [cell_of_row _ _ _ _ _ _ HF5.out]; rfl
    go_wp2_with fail
    clear hc7 hc8 hc9 hc10 hc11 hc12 hc13
    refine (HST.out ((w.alloc (.cells #[.int .i64 a, .int .i64 d, .string t] 83 (0, 0))).alloc (.cells #[.string s, .int .i64 a, .int .i64 d, .string t] 139 (0, 0)))).mono ?_
    rintro e w1 ⟨rfl, hb1⟩
    have HF14 := Lib.hid (blk_below HF4.out hb1)
    have HF15 := Lib.hid (blk_below HF5.out hb1)
    have HB16 := Lib.hid (HB6.out.trans (hb1.mono HB6.out.size))
    clear hb1 HB6 HF4 HF5
    go_wp2_with fail
    go_ret2
    exact ⟨_, by first | (rw [HV.out.1]; done) | (rw [HV.out.1]; rfl), by rw [HV.out.2]; exact OwX.nil _, HB16.out⟩
  | true =>
    rw [ho] at HST
    have HOK := Lib.hid ho
    clear ho
    cases hin : inP ps s with
    | false =>
      rw [hin] at HF
      by_cases h8 : 8 ≤ n
      · have d8 : decide ((8 : Int) ≤ (n : Int)) = true := decide_eq_true (by omega)
        have HV := Lib.hid (setE_full (ps := ps) HOK.out hin (by rw [L.out]; exact h8))
        clear hin HL h8
        have HB1 := Lib.hid (Below.refl w.heap.size w)
        go_enter Try.func98, Try.ntmps98
        have HF2 := Lib.hid (blk_new w (.cells #[.int .i64 a, .int .i64 d, .string t] 83 (0, 0)))
        have HB3 := Lib.hid (HB1.out.alloc HB1.out.size (.cells #[.int .i64 a, .int .i64 d, .string t] 83 (0, 0)))
        clear HB1
        have HF4 := Lib.hid (blk_alloc HF2.out (.cells #[.string s, .int .i64 a, .int .i64 d, .string t] 139 (0, 0)))
        clear HF2
        have HF5 : Hid (((w.alloc (.cells #[.int .i64 a, .int .i64 d, .string t] 83 (0, 0))).alloc (.cells #[.string s, .int .i64 a, .int .i64 d, .string t] 139 (0, 0))).heap[w.heap.size + 1]? = some (.cells #[.string s, .int .i64 a, .int .i64 d, .string t] 139 (0, 0))) := Lib.hid (blk_newN (W := (w.alloc (.cells #[.int .i64 a, .int .i64 d, .string t] 83 (0, 0)))) (o := (.cells #[.string s, .int .i64 a, .int .i64 d, .string t] 139 (0, 0))) (by simp))
        have HB6 := Lib.hid (HB3.out.alloc (by have := HB3.out.size; simp at this ⊢ <;> omega) (.cells #[.string s, .int .i64 a, .int .i64 d, .string t] 139 (0, 0)))
        clear HB3
        have hc7 : ((w.alloc (.cells #[.int .i64 a, .int .i64 d, .string t] 83 (0, 0))).alloc (.cells #[.string s, .int .i64 a, .int .i64 d, .string t] 139 (0, 0))).cell? ⟨w.heap.size, 0, none⟩ = some (.int .i64 a) := by rw [cell_of_row _ _ _ _ _ _ HF4.out]; rfl
        have hc8 : ((w.alloc (.cells #[.int .i64 a, .int .i64 d, .string t] 83 (0, 0))).alloc (.cells #[.string s, .int .i64 a, .int .i64 d, .string t] 139 (0, 0))).cell? ⟨w.heap.size, 1, none⟩ = some (.int .i64 d) := by rw [cell_of_row _ _ _ _ _ _ HF4.out]; rfl
        have hc9 : ((w.alloc (.cells #[.int .i64 a, .int .i64 d, .string t] 83 (0, 0))).alloc (.cells #[.string s, .int .i64 a, .int .i64 d, .string t] 139 (0, 0))).cell? ⟨w.heap.size, 2, none⟩ = some (.string t) := by rw [cell_of_row _ _ _ _ _ _ HF4.out]; rfl
        have hc10 : ((w.alloc (.cells #[.int .i64 a, .int .i64 d, .string t] 83 (0, 0))).alloc (.cells #[.string s, .int .i64 a, .int .i64 d, .string t] 139 (0, 0))).cell? ⟨w.heap.size + 1, 0, none⟩ = some (.string s) := by rw [cell_of_row _ _ _ _ _ _ HF5.out]; rfl
        have hc11 : ((w.alloc (.cells #[.int .i64 a, .int .i64 d, .string t] 83 (0, 0))).alloc (.cells #[.string s, .int .i64 a, .int .i64 d, .string t] 139 (0, 0))).cell? ⟨w.heap.size + 1, 1, none⟩ = some (.int .i64 a) := by rw [cell_of_row _ _ _ _ _ _ HF5.out]; rfl
        have hc12 : ((w.alloc (.cells #[.int .i64 a, .int .i64 d, .string t] 83 (0, 0))).alloc (.cells #[.string s, .int .i64 a, .int .i64 d, .string t] 139 (0, 0))).cell? ⟨w.heap.size + 1, 2, none⟩ = some (.int .i64 d) := by rw [cell_of_row _ _ _ _ _ _ HF5.out]; rfl
        have hc13 : ((w.alloc (.cells #[.int .i64 a, .int .i64 d, .string t] 83 (0, 0))).alloc (.cells #[.string s, .int .i64 a, .int .i64 d, .string t] 139 (0, 0))).cell? ⟨w.heap.size + 1, 3, none⟩ = some (.string t) := by rw [cell_of_row _ _ _ _ _ _ HF5.out]; rfl
        go_wp2_with fail
        clear hc7 hc8 hc9 hc10 hc11 hc12 hc13
        refine (HST.out ((w.alloc (.cells #[.int .i64 a, .int .i64 d, .string t] 83 (0, 0))).alloc (.cells #[.string s, .int .i64 a, .int .i64 d, .string t] 139 (0, 0)))).mono ?_
        rintro e w1 ⟨rfl, hb1⟩
        have HF14 := Lib.hid (blk_below HF4.out hb1)
        have HF15 := Lib.hid (blk_below HF5.out hb1)
        have HB16 := Lib.hid (HB6.out.trans (hb1.mono HB6.out.size))
        clear hb1 HB6 HF4 HF5
        go_wp2_with fail
        refine (HF.out w1 (H.out.below HB16.out)).mono ?_
        rintro e w2 ⟨rfl, hb2⟩
        have HF17 := Lib.hid (blk_below HF14.out hb2)
        have HF18 := Lib.hid (blk_below HF15.out hb2)
        have HB19 := Lib.hid (HB16.out.trans (hb2.mono HB16.out.size))
        clear hb2 HB16 HF14 HF15
        go_wp2_with fail
        go_ret2
        exact ⟨_, by first | (rw [HV.out.1]; done) | (rw [HV.out.1]; rfl), by rw [HV.out.2]; exact OwX.nil _, HB19.out⟩
      · have d8 : decide ((8 : Int) ≤ (n : Int)) = false := decide_eq_false (by omega)
        have HV := Lib.hid (setE_ok (ps := ps) HOK.out (show ¬ (inP ps (s, a, d, t).1 = false ∧ 8 ≤ ps.length) from fun q => h8 (by rw [← L.out]; exact q.2)))
        obtain ⟨K, hK⟩ : ∃ K, K = lesP ps s := ⟨_, rfl⟩
        have hkn : K ≤ n := by rw [hK, ← L.out]; exact HLE.out
        have HSE := Lib.hid (show setL ps (s, a, d, t) = (ps.take K ++ [(s, a, d, t)]) ++ ps.drop K by
          have q := HSA.out
          rw [show (if inP ps (s, a, d, t).1 = true then lesP ps (s, a, d, t).1 + 1 else lesP ps (s, a, d, t).1) = lesP ps s from if_neg (by rw [show inP ps (s, a, d, t).1 = false from hin]; simp)] at q
          rw [hK]; exact q)
        have hi0 : (0 : Int) ≤ (K : Int) := by omega
        have hi1 : (K : Int) ≤ (n : Int) := by omega
        rw [← hK] at HF
        clear hin HL h8 hK
        have HB1 := Lib.hid (Below.refl w.heap.size w)
        go_enter Try.func98, Try.ntmps98
        have HF2 := Lib.hid (blk_new w (.cells #[.int .i64 a, .int .i64 d, .string t] 83 (0, 0)))
        have HB3 := Lib.hid (HB1.out.alloc HB1.out.size (.cells #[.int .i64 a, .int .i64 d, .string t] 83 (0, 0)))
        clear HB1
        have HF4 := Lib.hid (blk_alloc HF2.out (.cells #[.string s, .int .i64 a, .int .i64 d, .string t] 139 (0, 0)))
        clear HF2
        have HF5 : Hid (((w.alloc (.cells #[.int .i64 a, .int .i64 d, .string t] 83 (0, 0))).alloc (.cells #[.string s, .int .i64 a, .int .i64 d, .string t] 139 (0, 0))).heap[w.heap.size + 1]? = some (.cells #[.string s, .int .i64 a, .int .i64 d, .string t] 139 (0, 0))) := Lib.hid (blk_newN (W := (w.alloc (.cells #[.int .i64 a, .int .i64 d, .string t] 83 (0, 0)))) (o := (.cells #[.string s, .int .i64 a, .int .i64 d, .string t] 139 (0, 0))) (by simp))
        have HB6 := Lib.hid (HB3.out.alloc (by have := HB3.out.size; simp at this ⊢ <;> omega) (.cells #[.string s, .int .i64 a, .int .i64 d, .string t] 139 (0, 0)))
        clear HB3
        have hc7 : ((w.alloc (.cells #[.int .i64 a, .int .i64 d, .string t] 83 (0, 0))).alloc (.cells #[.string s, .int .i64 a, .int .i64 d, .string t] 139 (0, 0))).cell? ⟨w.heap.size, 0, none⟩ = some (.int .i64 a) := by rw [cell_of_row _ _ _ _ _ _ HF4.out]; rfl
        have hc8 : ((w.alloc (.cells #[.int .i64 a, .int .i64 d, .string t] 83 (0, 0))).alloc (.cells #[.string s, .int .i64 a, .int .i64 d, .string t] 139 (0, 0))).cell? ⟨w.heap.size, 1, none⟩ = some (.int .i64 d) := by rw [cell_of_row _ _ _ _ _ _ HF4.out]; rfl
        have hc9 : ((w.alloc (.cells #[.int .i64 a, .int .i64 d, .string t] 83 (0, 0))).alloc (.cells #[.string s, .int .i64 a, .int .i64 d, .string t] 139 (0, 0))).cell? ⟨w.heap.size, 2, none⟩ = some (.string t) := by rw [cell_of_row _ _ _ _ _ _ HF4.out]; rfl
        have hc10 : ((w.alloc (.cells #[.int .i64 a, .int .i64 d, .string t] 83 (0, 0))).alloc (.cells #[.string s, .int .i64 a, .int .i64 d, .string t] 139 (0, 0))).cell? ⟨w.heap.size + 1, 0, none⟩ = some (.string s) := by rw [cell_of_row _ _ _ _ _ _ HF5.out]; rfl
        have hc11 : ((w.alloc (.cells #[.int .i64 a, .int .i64 d, .string t] 83 (0, 0))).alloc (.cells #[.string s, .int .i64 a, .int .i64 d, .string t] 139 (0, 0))).cell? ⟨w.heap.size + 1, 1, none⟩ = some (.int .i64 a) := by rw [cell_of_row _ _ _ _ _ _ HF5.out]; rfl
        have hc12 : ((w.alloc (.cells #[.int .i64 a, .int .i64 d, .string t] 83 (0, 0))).alloc (.cells #[.string s, .int .i64 a, .int .i64 d, .string t] 139 (0, 0))).cell? ⟨w.heap.size + 1, 2, none⟩ = some (.int .i64 d) := by rw [cell_of_row _ _ _ _ _ _ HF5.out]; rfl
        have hc13 : ((w.alloc (.cells #[.int .i64 a, .int .i64 d, .string t] 83 (0, 0))).alloc (.cells #[.string s, .int .i64 a, .int .i64 d, .string t] 139 (0, 0))).cell? ⟨w.heap.size + 1, 3, none⟩ = some (.string t) := by rw [cell_of_row _ _ _ _ _ _ HF5.out]; rfl
        go_wp2_with fail
        clear hc7 hc8 hc9 hc10 hc11 hc12 hc13
        refine (HST.out ((w.alloc (.cells #[.int .i64 a, .int .i64 d, .string t] 83 (0, 0))).alloc (.cells #[.string s, .int .i64 a, .int .i64 d, .string t] 139 (0, 0)))).mono ?_
        rintro e w1 ⟨rfl, hb1⟩
        have HF14 := Lib.hid (blk_below HF4.out hb1)
        have HF15 := Lib.hid (blk_below HF5.out hb1)
        have HB16 := Lib.hid (HB6.out.trans (hb1.mono HB6.out.size))
        clear hb1 HB6 HF4 HF5
        go_wp2_with fail
        refine (HF.out w1 (H.out.below HB16.out)).mono ?_
        rintro e w2 ⟨rfl, hb2⟩
        have HF17 := Lib.hid (blk_below HF14.out hb2)
        have HF18 := Lib.hid (blk_below HF15.out hb2)
        have HB19 := Lib.hid (HB16.out.trans (hb2.mono HB16.out.size))
        clear hb2 HB16 HF14 HF15
        have hk20 : w.heap.size < w2.heap.size := lt_of_block HF17.out
        have hk21 : w.heap.size + 1 < w2.heap.size := lt_of_block HF18.out
        have hc22 : w2.cell? ⟨w.heap.size + 1, 0, none⟩ = some (.string s) := by rw [cell_of_row _ _ _ _ _ _ HF18.out]; rfl
        have hc23 : w2.cell? ⟨w.heap.size + 1, 1, none⟩ = some (.int .i64 a) := by rw [cell_of_row _ _ _ _ _ _ HF18.out]; rfl
        have hc24 : w2.cell? ⟨w.heap.size + 1, 2, none⟩ = some (.int .i64 d) := by rw [cell_of_row _ _ _ _ _ _ HF18.out]; rfl
        have hc25 : w2.cell? ⟨w.heap.size + 1, 3, none⟩ = some (.string t) := by rw [cell_of_row _ _ _ _ _ _ HF18.out]; rfl
        have s1 := fun W => pslice_to A n c K (by omega) W
        have s2 := fun W => pslice_from A n c K (K : Int) (by omega) (by omega) W
        have hw1 : IntKind.i64.wrap ((K : Int) + 1) = (K : Int) + 1 := IntWalk.i64_in _ (by omega)
        have HD1 := Lib.hid (H.out.take K (by omega))
        have HD2 := Lib.hid (H.out.drop (c := c) K (by omega) hc)
        generalize cutX 4 A c K = A2 at s2 HD2
        go_upto_region 10 with (fail)
        have HRL := Lib.hid (fun (W : World) (hB : Below w2.heap.size w2 W) (hp : W.heap[w2.heap.size]? = some (.cells #[.string s, .int .i64 a, .int .i64 d, .string t] 139 (0, 0))) => show ∀ y ∈ ([⟨A, K, c, ps.take K⟩, ⟨some ⟨w2.heap.size, 0, none⟩, 1, 1, [(s, a, d, t)]⟩, ⟨A2, n - K, c - K, ps.drop K⟩] : List SlP), RdX prC 4 W y.a y.n y.l from fun y hy => by
          have HBN := HB19.out.trans (hB.mono HB19.out.size)
          rcases List.mem_cons.1 hy with e | hy
          · subst e; exact HD1.out.below HBN
          rcases List.mem_cons.1 hy with e | hy
          · subst e; exact rd_blk (f := prC) (s := 4) (fun _ => rfl) [(s, a, d, t)] hp rfl
          · have e : y = ⟨A2, n - K, c - K, ps.drop K⟩ := by simpa using hy
            subst e; exact HD2.out.below HBN)
        go_region_with (go_at_call 147; refine (pconcat_any (w2.heap.size + 1) 0 3 3 [⟨A, K, c, ps.take K⟩, ⟨some ⟨w2.heap.size, 0, none⟩, 1, 1, [(s, a, d, t)]⟩, ⟨A2, n - K, c - K, ps.drop K⟩] _ (rd_blk (f := slC) (s := 1) (fun _ => rfl) [⟨A, K, c, ps.take K⟩, ⟨some ⟨w2.heap.size, 0, none⟩, 1, 1, [(s, a, d, t)]⟩, ⟨A2, n - K, c - K, ps.drop K⟩] (newX_two _ _ _).2 rfl) (HRL.out _ (belX_two _ _ _) (newX_two _ _ _).1) (by omega) (by simp [totP]; omega)).mono ?_; rintro e w5 ⟨v2, rfl, ho2, hb2⟩)
        have HO2 := Lib.hid ho2
        have HBZ := Lib.hid (HB19.out.trans (((belX_two _ _ _).trans (hb2.mono (sizX_two _ _ _))).mono HB19.out.size))
        have hv2 := ho2.one
        clear ho2 hb2 s1 s2 hw1
        go_wp2_with fail
        go_ret2
        refine ⟨v2, by first | (rw [HV.out.1]; done) | (rw [HV.out.1]; rfl), ?_, HBZ.out⟩
        rw [HV.out.2]
        have k := HO2.out
        simp only [List.flatMap_cons, List.flatMap_nil, List.append_nil] at k
        rw [HSE.out, List.append_assoc]
        exact k.mono (Nat.le_trans HB19.out.size (sizX_two _ _ _))
    | true =>
      obtain ⟨hk, hkx⟩ := HL.out hin
      obtain ⟨K, hK⟩ : ∃ K, K = lesP ps s := ⟨_, rfl⟩
      have hkn : K < n := by rw [hK, ← L.out]; exact hk
      have HV := Lib.hid (setE_ok (ps := ps) HOK.out (show ¬ (inP ps (s, a, d, t).1 = false ∧ 8 ≤ ps.length) from fun q => by rw [show inP ps (s, a, d, t).1 = true from hin] at q; cases q.1))
      have HSE := Lib.hid (show setL ps (s, a, d, t) = (ps.take K ++ [(s, a, d, t)]) ++ ps.drop (K + 1) by
        have q := HSA.out
        rw [show (if inP ps (s, a, d, t).1 = true then lesP ps (s, a, d, t).1 + 1 else lesP ps (s, a, d, t).1) = lesP ps s + 1 from if_pos hin] at q
        rw [hK]; exact q)
      have hi0 : (0 : Int) ≤ (K : Int) := by omega
      have hi1 : (K : Int) < (n : Int) := by omega
      rw [hin, ← hK] at HF
      clear hin HL hkx hk hK
      have HB1 := Lib.hid (Below.refl w.heap.size w)
      go_enter Try.func98, Try.ntmps98
      have HF2 := Lib.hid (blk_new w (.cells #[.int .i64 a, .int .i64 d, .string t] 83 (0, 0)))
      have HB3 := Lib.hid (HB1.out.alloc HB1.out.size (.cells #[.int .i64 a, .int .i64 d, .string t] 83 (0, 0)))
      clear HB1
      have HF4 := Lib.hid (blk_alloc HF2.out (.cells #[.string s, .int .i64 a, .int .i64 d, .string t] 139 (0, 0)))
      clear HF2
      have HF5 : Hid (((w.alloc (.cells #[.int .i64 a, .int .i64 d, .string t] 83 (0, 0))).alloc (.cells #[.string s, .int .i64 a, .int .i64 d, .string t] 139 (0, 0))).heap[w.heap.size + 1]? = some (.cells #[.string s, .int .i64 a, .int .i64 d, .string t] 139 (0, 0))) := Lib.hid (blk_newN (W := (w.alloc (.cells #[.int .i64 a, .int .i64 d, .string t] 83 (0, 0)))) (o := (.cells #[.string s, .int .i64 a, .int .i64 d, .string t] 139 (0, 0))) (by simp))
      have HB6 := Lib.hid (HB3.out.alloc (by have := HB3.out.size; simp at this ⊢ <;> omega) (.cells #[.string s, .int .i64 a, .int .i64 d, .string t] 139 (0, 0)))
      clear HB3
      have hc7 : ((w.alloc (.cells #[.int .i64 a, .int .i64 d, .string t] 83 (0, 0))).alloc (.cells #[.string s, .int .i64 a, .int .i64 d, .string t] 139 (0, 0))).cell? ⟨w.heap.size, 0, none⟩ = some (.int .i64 a) := by rw [cell_of_row _ _ _ _ _ _ HF4.out]; rfl
      have hc8 : ((w.alloc (.cells #[.int .i64 a, .int .i64 d, .string t] 83 (0, 0))).alloc (.cells #[.string s, .int .i64 a, .int .i64 d, .string t] 139 (0, 0))).cell? ⟨w.heap.size, 1, none⟩ = some (.int .i64 d) := by rw [cell_of_row _ _ _ _ _ _ HF4.out]; rfl
      have hc9 : ((w.alloc (.cells #[.int .i64 a, .int .i64 d, .string t] 83 (0, 0))).alloc (.cells #[.string s, .int .i64 a, .int .i64 d, .string t] 139 (0, 0))).cell? ⟨w.heap.size, 2, none⟩ = some (.string t) := by rw [cell_of_row _ _ _ _ _ _ HF4.out]; rfl
      have hc10 : ((w.alloc (.cells #[.int .i64 a, .int .i64 d, .string t] 83 (0, 0))).alloc (.cells #[.string s, .int .i64 a, .int .i64 d, .string t] 139 (0, 0))).cell? ⟨w.heap.size + 1, 0, none⟩ = some (.string s) := by rw [cell_of_row _ _ _ _ _ _ HF5.out]; rfl
      have hc11 : ((w.alloc (.cells #[.int .i64 a, .int .i64 d, .string t] 83 (0, 0))).alloc (.cells #[.string s, .int .i64 a, .int .i64 d, .string t] 139 (0, 0))).cell? ⟨w.heap.size + 1, 1, none⟩ = some (.int .i64 a) := by rw [cell_of_row _ _ _ _ _ _ HF5.out]; rfl
      have hc12 : ((w.alloc (.cells #[.int .i64 a, .int .i64 d, .string t] 83 (0, 0))).alloc (.cells #[.string s, .int .i64 a, .int .i64 d, .string t] 139 (0, 0))).cell? ⟨w.heap.size + 1, 2, none⟩ = some (.int .i64 d) := by rw [cell_of_row _ _ _ _ _ _ HF5.out]; rfl
      have hc13 : ((w.alloc (.cells #[.int .i64 a, .int .i64 d, .string t] 83 (0, 0))).alloc (.cells #[.string s, .int .i64 a, .int .i64 d, .string t] 139 (0, 0))).cell? ⟨w.heap.size + 1, 3, none⟩ = some (.string t) := by rw [cell_of_row _ _ _ _ _ _ HF5.out]; rfl
      go_wp2_with fail
      clear hc7 hc8 hc9 hc10 hc11 hc12 hc13
      refine (HST.out ((w.alloc (.cells #[.int .i64 a, .int .i64 d, .string t] 83 (0, 0))).alloc (.cells #[.string s, .int .i64 a, .int .i64 d, .string t] 139 (0, 0)))).mono ?_
      rintro e w1 ⟨rfl, hb1⟩
      have HF14 := Lib.hid (blk_below HF4.out hb1)
      have HF15 := Lib.hid (blk_below HF5.out hb1)
      have HB16 := Lib.hid (HB6.out.trans (hb1.mono HB6.out.size))
      clear hb1 HB6 HF4 HF5
      go_wp2_with fail
      refine (HF.out w1 (H.out.below HB16.out)).mono ?_
      rintro e w2 ⟨rfl, hb2⟩
      have HF17 := Lib.hid (blk_below HF14.out hb2)
      have HF18 := Lib.hid (blk_below HF15.out hb2)
      have HB19 := Lib.hid (HB16.out.trans (hb2.mono HB16.out.size))
      clear hb2 HB16 HF14 HF15
      have hk20 : w.heap.size < w2.heap.size := lt_of_block HF17.out
      have hk21 : w.heap.size + 1 < w2.heap.size := lt_of_block HF18.out
      have hc22 : w2.cell? ⟨w.heap.size + 1, 0, none⟩ = some (.string s) := by rw [cell_of_row _ _ _ _ _ _ HF18.out]; rfl
      have hc23 : w2.cell? ⟨w.heap.size + 1, 1, none⟩ = some (.int .i64 a) := by rw [cell_of_row _ _ _ _ _ _ HF18.out]; rfl
      have hc24 : w2.cell? ⟨w.heap.size + 1, 2, none⟩ = some (.int .i64 d) := by rw [cell_of_row _ _ _ _ _ _ HF18.out]; rfl
      have hc25 : w2.cell? ⟨w.heap.size + 1, 3, none⟩ = some (.string t) := by rw [cell_of_row _ _ _ _ _ _ HF18.out]; rfl
      have s1 := fun W => pslice_to A n c K (by omega) W
      have s2 := fun W => pslice_from A n c (K + 1) ((K : Int) + 1) (by omega) (by omega) W
      have hw1 : IntKind.i64.wrap ((K : Int) + 1) = (K : Int) + 1 := IntWalk.i64_in _ (by omega)
      have HD1 := Lib.hid (H.out.take K (by omega))
      have HD2 := Lib.hid (H.out.drop (c := c) (K + 1) (by omega) hc)
      generalize cutX 4 A c (K + 1) = A2 at s2 HD2
      go_upto_region 10 with (fail)
      have HRL := Lib.hid (fun (W : World) (hB : Below w2.heap.size w2 W) (hp : W.heap[w2.heap.size]? = some (.cells #[.string s, .int .i64 a, .int .i64 d, .string t] 139 (0, 0))) => show ∀ y ∈ ([⟨A, K, c, ps.take K⟩, ⟨some ⟨w2.heap.size, 0, none⟩, 1, 1, [(s, a, d, t)]⟩, ⟨A2, n - (K + 1), c - (K + 1), ps.drop (K + 1)⟩] : List SlP), RdX prC 4 W y.a y.n y.l from fun y hy => by
        have HBN := HB19.out.trans (hB.mono HB19.out.size)
        rcases List.mem_cons.1 hy with e | hy
        · subst e; exact HD1.out.below HBN
        rcases List.mem_cons.1 hy with e | hy
        · subst e; exact rd_blk (f := prC) (s := 4) (fun _ => rfl) [(s, a, d, t)] hp rfl
        · have e : y = ⟨A2, n - (K + 1), c - (K + 1), ps.drop (K + 1)⟩ := by simpa using hy
          subst e; exact HD2.out.below HBN)
      go_region_with (go_at_call 147; refine (pconcat_any (w2.heap.size + 1) 0 3 3 [⟨A, K, c, ps.take K⟩, ⟨some ⟨w2.heap.size, 0, none⟩, 1, 1, [(s, a, d, t)]⟩, ⟨A2, n - (K + 1), c - (K + 1), ps.drop (K + 1)⟩] _ (rd_blk (f := slC) (s := 1) (fun _ => rfl) [⟨A, K, c, ps.take K⟩, ⟨some ⟨w2.heap.size, 0, none⟩, 1, 1, [(s, a, d, t)]⟩, ⟨A2, n - (K + 1), c - (K + 1), ps.drop (K + 1)⟩] (newX_two _ _ _).2 rfl) (HRL.out _ (belX_two _ _ _) (newX_two _ _ _).1) (by omega) (by simp [totP]; omega)).mono ?_; rintro e w5 ⟨v2, rfl, ho2, hb2⟩)
      have HO2 := Lib.hid ho2
      have HBZ := Lib.hid (HB19.out.trans (((belX_two _ _ _).trans (hb2.mono (sizX_two _ _ _))).mono HB19.out.size))
      have hv2 := ho2.one
      clear ho2 hb2 s1 s2 hw1
      go_wp2_with fail
      go_ret2
      refine ⟨v2, by first | (rw [HV.out.1]; done) | (rw [HV.out.1]; rfl), ?_, HBZ.out⟩
      rw [HV.out.2]
      have k := HO2.out
      simp only [List.flatMap_cons, List.flatMap_nil, List.append_nil] at k
      rw [HSE.out, List.append_assoc]
      exact k.mono (Nat.le_trans HB19.out.size (sizX_two _ _ _))
end Go.Proofs.Ytjnichiblljmjaa

namespace Go.Proofs.Ytjnichiblljmjaa
open Go.RowKit Vi

def atV (ps : List Pr) (x : ByteArray) : Int := if inP ps x = true then (lesP ps x : Int) else -1
set_option maxRecDepth 100000 in
set_option maxHeartbeats 1000000 in
theorem rat_any (A : Option Addr) (n c : Nat) (ps : List Pr) (x : ByteArray) (w : World) (h : RdX prC 4 w A n ps) (hn : n ≤ 1000000) (hr : Rise (keysP ps)) :
    Calls Try.prog 151 #[.slice A n c, .string x] w fun e w' => e = .returned (.int .i64 (atV ps x)) ∧ w = w' := by
  have H := Lib.hid h
  have L := Lib.hid h.1
  have HR := Lib.hid hr
  clear h hr
  go_enter Try.func151, Try.ntmps151
  go_wp2_with fail
  go_loop [5] (fun i => ∃ k : Nat, i = .int .i64 (k : Int) ∧ k ≤ n ∧ (∀ t (h : t < ps.length), t < k → ps[t].1 ≠ x)) (fun i => n - (intOf i).toNat)
  case atStart => exact ⟨0, rfl, Nat.zero_le _, fun t _ h => by omega⟩
  case round =>
    obtain ⟨k, rfl, hk, hno⟩ := hrel
    have HN := Lib.hid hno
    clear hno
    by_cases hlt : k < n
    · have hd1 : decide ((k : Int) < (n : Int)) = true := decide_eq_true (by omega)
      obtain ⟨b, off, hl, rfl, hbb, _⟩ := H.out.at hlt
      obtain ⟨y, hy⟩ : ∃ y, ps[k] = y := ⟨_, rfl⟩
      have HX := Lib.hid (show ps[k]? = some y by rw [List.getElem?_eq_getElem hl, hy])
      have HY := Lib.hid hy
      obtain ⟨s, a, d, t⟩ := y
      have a0 : w.cell? ⟨b, off + k * 4, none⟩ = some (.string s) := H.out.cellAt HX.out hlt 0 _ rfl
      have hi0 : (0 : Int) ≤ (k : Int) := by omega
      clear hy
      by_cases he : s = x
      · have hq : (s.toList == x.toList) = true := by rw [he]; simp
        have HV := Lib.hid (show (k : Int) = atV ps x by
          obtain ⟨e1, e2⟩ := in_idx (x := x) HR.out k hl (by rw [HY.out]; exact he)
          unfold atV
          rw [if_pos e2, e1])
        clear he
        go_wp2_with fail
        go_ret
        exact ⟨retI HV.out, rfl⟩
      · have hq : (s.toList == x.toList) = false := by
          rw [beq_eq_false_iff_ne]
          exact fun e => he (ba_ext e)
        have HN2 := Lib.hid (show ∀ t (h : t < ps.length), t < k + 1 → ps[t].1 ≠ x from fun t h ht => by
          by_cases e : t = k
          · subst e; rw [HY.out]; exact he
          · exact HN.out t h (by omega))
        clear he
        go_wp2_with fail
        go_round
        case rel => exact ⟨k + 1, by go_num, by omega, HN2.out⟩
        case measure => simp [intOf] <;> omega
    · have hd1 : decide ((k : Int) < (n : Int)) = false := decide_eq_false (by omega)
      have HV := Lib.hid (show (-1 : Int) = atV ps x by
        unfold atV
        rw [if_neg]
        intro hin
        obtain ⟨hk2, he⟩ := in_at HR.out hin
        exact HN.out _ hk2 (by have := L.out; omega) he)
      go_wp2_with fail
      go_ret
      exact ⟨retI HV.out, rfl⟩
set_option maxRecDepth 100000 in
set_option maxHeartbeats 4000000 in
theorem runset_any (A : Option Addr) (n c : Nat) (ps : List Pr) (x : ByteArray) (w : World) (h : RdX prC 4 w A n ps) (hn : n ≤ 8) (hc : n ≤ c) (hr : Rise (keysP ps)) :
    Calls Try.prog 103 #[.slice A n c, .string x] w (RetP w (usV ps x) (usE ps x)) := by
  have H := Lib.hid h
  have HF := Lib.hid (fun (W : World) (q : RdX prC 4 W A n ps) => rat_any A n c ps x W q (by omega) hr)
  have HL := Lib.hid (in_at (x := x) hr)
  have L := Lib.hid h.1
  clear h
  cases hin : inP ps x with
  | false =>
    have HV := Lib.hid (show usE ps x = 9 ∧ usV ps x = [] by unfold usE usV; rw [if_neg (by rw [hin]; simp), if_neg (by rw [hin]; simp)]; exact ⟨rfl, rfl⟩)
    have HA := Lib.hid (show atV ps x = -1 by unfold atV; rw [if_neg (by rw [hin]; simp)])
    rw [HA.out] at HF
    clear hin HL
    have HB1 := Lib.hid (Below.refl w.heap.size w)
    go_enter Try.func103, Try.ntmps103
    go_wp2_with fail
    refine (HF.out w H.out).mono ?_
    rintro e w' ⟨rfl, rfl⟩
    go_wp2_with fail
    go_ret2
    exact ⟨_, by first | (rw [HV.out.1]; done) | (rw [HV.out.1]; rfl), by rw [HV.out.2]; exact OwX.nil _, HB1.out⟩
  | true =>
    obtain ⟨hk, hkx⟩ := HL.out hin
    obtain ⟨K, hK⟩ : ∃ K, K = lesP ps x := ⟨_, rfl⟩
    have HV := Lib.hid (show usE ps x = 0 ∧ usV ps x = ps.take K ++ ps.drop (K + 1) by unfold usE usV; rw [if_pos hin, if_pos hin, hK]; exact ⟨rfl, rfl⟩)
    have hkn : K < n := by rw [hK, ← L.out]; exact hk
    have hi0 : (0 : Int) ≤ (K : Int) := by omega
    have hi1 : (K : Int) < (n : Int) := by omega
    have hneg : decide ((K : Int) < 0) = false := decide_eq_false (by omega)
    have HA := Lib.hid (show atV ps x = (K : Int) by unfold atV; rw [if_pos hin, hK])
    rw [HA.out] at HF
    clear hin HL hkx hk hK
    have HB1 := Lib.hid (Below.refl w.heap.size w)
    go_enter Try.func103, Try.ntmps103
    go_wp2_with fail
    refine (HF.out w H.out).mono ?_
    rintro e w' ⟨rfl, rfl⟩
    have s1 := fun W => pslice_to A n c K (by omega) W
    have s2 := fun W => pslice_from A n c (K + 1) ((K : Int) + 1) (by omega) (by omega) W
    have hw1 : IntKind.i64.wrap ((K : Int) + 1) = (K : Int) + 1 := IntWalk.i64_in _ (by omega)
    have HD1 := Lib.hid (H.out.take K (by omega))
    have HD2 := Lib.hid (H.out.drop (c := c) (K + 1) (by omega) hc)
    have HLT := Lib.hid (HD1.out.1)
    generalize cutX 4 A c (K + 1) = A2 at s2 HD2
    go_upto_region 4 with (fail)
    go_region_law (first
      | ((refine step_appXs ?_ (.tmp 12) (.tmp 15) 43 139 _ 48 ?_ Try.underlying43 info_prB rfl (by omega) (by omega) prC_len prC_one w.heap.size w ?_ ?_ (.slice (some ⟨w.heap.size, 0, none⟩) 0 0) [] ?_ (OwX.zero (cs := #[]) (newX_one _ _) (Nat.le_refl _) (Nat.zero_le _) rfl) A K c (ps.take K) ?_ (HD1.out.below (belX_one _ _)) ?_ ?_; (rfl); (rfl); (exact belX_one _ _); (exact Nat.le_of_lt (sizX_one _ _)); (rfl); (rfl); (simp; omega); intro v1 w1 HO1 HB1 HZ1 HG1))
      | ((refine step_appXs ?_ (.tmp 16) (.tmp 20) 43 139 _ 48 ?_ Try.underlying43 info_prB rfl (by omega) (by omega) prC_len prC_one w.heap.size w HB1.out HZ1.out v1 ([] ++ ps.take K) ?_ HO1.out A2 (n - (K + 1)) (c - (K + 1)) (ps.drop (K + 1)) ?_ (HD2.out.below HB1.out) ?_ ?_; (rfl); (rfl); (rfl); (rfl); (rw [List.nil_append, HLT.out]; omega); intro v2 w2 HO2 HB2 HZ2 HG2)))
    have hv2 := HO2.out.one
    clear s1 s2 hw1
    go_wp2_with fail
    go_ret2
    refine ⟨v2, by first | (rw [HV.out.1]; done) | (rw [HV.out.1]; rfl), ?_, HB2.out⟩
    rw [HV.out.2]
    have k := HO2.out
    rw [List.nil_append] at k
    exact k
theorem filt_take {α : Type} (p : α → Bool) (l : List α) (k : Nat) (h : k < l.length) : (l.take (k + 1)).filter p = (l.take k).filter p ++ (if p l[k] = true then [l[k]] else []) := by
  rw [List.take_succ_eq_append_getElem h, List.filter_append]
  congr 1
  cases hp : p l[k] <;> simp [hp]
theorem gt_no {s p : ByteArray} (h : leS s p = true) : Op.bytesLess p.toList s.toList = false := by
  cases e : Op.bytesLess p.toList s.toList with
  | false => rfl
  | true => rw [no_le e] at h; cases h
theorem filt_len {α : Type} (p : α → Bool) (l : List α) (k : Nat) : ((l.take k).filter p).length ≤ k := by
  have h1 := List.length_filter_le p (l.take k)
  rw [List.length_take] at h1
  omega
set_option maxRecDepth 100000 in
set_option maxHeartbeats 8000000 in
theorem rset_any (A : Option Addr) (n c : Nat) (ps : List Pr) (s : ByteArray) (a d : Int) (t : ByteArray) (w : World) (h : RdX prC 4 w A n ps) (hn : n ≤ 8) (hr : Rise (keysP ps)) (hs : s.size ≤ maxLen) :
    Calls Try.prog 102 #[.slice A n c, .string s, .agg #[.int .i64 a, .int .i64 d, .string t]] w (RetP w (setV ps (s, a, d, t)) (setE ps (s, a, d, t))) := by
  have H := Lib.hid h
  have HF := Lib.hid (fun (W : World) (q : RdX prC 4 W A n ps) => rat_any A n c ps s W q (by omega) hr)
  have HC := Lib.hid (fun W : World => refIs_any s W hs)
  have HD := Lib.hid (fun W : World => vis_any a d t W)
  have L := Lib.hid h.1
  clear h
  cases hn1 : nm s with
  | false =>
    have HV := Lib.hid (setE_bad (ps := ps) (p := (s, a, d, t)) (by unfold okP; rw [show nm (s, a, d, t).1 = false from hn1]; rfl))
    rw [hn1] at HC
    clear hn1
    have HB1 := Lib.hid (Below.refl w.heap.size w)
    go_enter Try.func102, Try.ntmps102
    have HF2 := Lib.hid (blk_new w (.cells #[.int .i64 a, .int .i64 d, .string t] 83 (0, 0)))
    have HB3 := Lib.hid (HB1.out.alloc HB1.out.size (.cells #[.int .i64 a, .int .i64 d, .string t] 83 (0, 0)))
    clear HB1
    have hc4 : (w.alloc (.cells #[.int .i64 a, .int .i64 d, .string t] 83 (0, 0))).cell? ⟨w.heap.size, 0, none⟩ = some (.int .i64 a) := by rw [cell_of_row _ _ _ _ _ _ HF2.out]; rfl
    have hc5 : (w.alloc (.cells #[.int .i64 a, .int .i64 d, .string t] 83 (0, 0))).cell? ⟨w.heap.size, 1, none⟩ = some (.int .i64 d) := by rw [cell_of_row _ _ _ _ _ _ HF2.out]; rfl
    have hc6 : (w.alloc (.cells #[.int .i64 a, .int .i64 d, .string t] 83 (0, 0))).cell? ⟨w.heap.size, 2, none⟩ = some (.string t) := by rw [cell_of_row _ _ _ _ _ _ HF2.out]; rfl
    go_wp2_with fail
    refine (HC.out (w.alloc (.cells #[.int .i64 a, .int .i64 d, .string t] 83 (0, 0)))).mono ?_
    rintro e w' ⟨rfl, rfl⟩
    go_wp2_with fail
    go_ret2
    exact ⟨_, by first | (rw [HV.out.1]; done) | (rw [HV.out.1]; rfl), by rw [HV.out.2]; exact OwX.nil _, HB3.out⟩
  | true =>
    have HNM := Lib.hid hn1
    rw [hn1] at HC
    clear hn1
    cases hv : vok a d t with
    | false =>
      have HV := Lib.hid (setE_bad (ps := ps) (p := (s, a, d, t)) (by unfold okP; rw [show vok (s, a, d, t).2.1 (s, a, d, t).2.2.1 (s, a, d, t).2.2.2 = false from hv]; simp))
      rw [hv] at HD
      clear hv
      have HB1 := Lib.hid (Below.refl w.heap.size w)
      go_enter Try.func102, Try.ntmps102
      have HF2 := Lib.hid (blk_new w (.cells #[.int .i64 a, .int .i64 d, .string t] 83 (0, 0)))
      have HB3 := Lib.hid (HB1.out.alloc HB1.out.size (.cells #[.int .i64 a, .int .i64 d, .string t] 83 (0, 0)))
      clear HB1
      have hc4 : (w.alloc (.cells #[.int .i64 a, .int .i64 d, .string t] 83 (0, 0))).cell? ⟨w.heap.size, 0, none⟩ = some (.int .i64 a) := by rw [cell_of_row _ _ _ _ _ _ HF2.out]; rfl
      have hc5 : (w.alloc (.cells #[.int .i64 a, .int .i64 d, .string t] 83 (0, 0))).cell? ⟨w.heap.size, 1, none⟩ = some (.int .i64 d) := by rw [cell_of_row _ _ _ _ _ _ HF2.out]; rfl
      have hc6 : (w.alloc (.cells #[.int .i64 a, .int .i64 d, .string t] 83 (0, 0))).cell? ⟨w.heap.size, 2, none⟩ = some (.string t) := by rw [cell_of_row _ _ _ _ _ _ HF2.out]; rfl
      go_wp2_with fail
      refine (HC.out (w.alloc (.cells #[.int .i64 a, .int .i64 d, .string t] 83 (0, 0)))).mono ?_
      rintro e w' ⟨rfl, rfl⟩
      go_wp2_with fail
      clear hc4 hc5 hc6
      refine (HD.out (w.alloc (.cells #[.int .i64 a, .int .i64 d, .string t] 83 (0, 0)))).mono ?_
      rintro e w1 ⟨rfl, hb1⟩
      have HF7 := Lib.hid (blk_below HF2.out hb1)
      have HB8 := Lib.hid (HB3.out.trans (hb1.mono HB3.out.size))
      clear hb1 HB3 HF2
      go_wp2_with fail
      go_ret2
      exact ⟨_, by first | (rw [HV.out.1]; done) | (rw [HV.out.1]; rfl), by rw [HV.out.2]; exact OwX.nil _, HB8.out⟩
    | true =>
      have HOK := Lib.hid (show okP (s, a, d, t) = true by unfold okP; rw [show vok (s, a, d, t).2.1 (s, a, d, t).2.2.1 (s, a, d, t).2.2.2 = true from hv, show nm (s, a, d, t).1 = true from HNM.out]; rfl)
      rw [hv] at HD
      clear hv
      by_cases hfull : inP ps s = false ∧ 8 ≤ ps.length
      · have HV := Lib.hid (setE_full (ps := ps) (p := (s, a, d, t)) HOK.out hfull.1 hfull.2)
        have HA := Lib.hid (show atV ps s = -1 by unfold atV; rw [if_neg (by rw [hfull.1]; simp)])
        rw [HA.out] at HF
        have d8 : decide ((8 : Int) ≤ (n : Int)) = true := decide_eq_true (by have := hfull.2; rw [L.out] at this; omega)
        clear hfull
        have HB1 := Lib.hid (Below.refl w.heap.size w)
        go_enter Try.func102, Try.ntmps102
        have HF2 := Lib.hid (blk_new w (.cells #[.int .i64 a, .int .i64 d, .string t] 83 (0, 0)))
        have HB3 := Lib.hid (HB1.out.alloc HB1.out.size (.cells #[.int .i64 a, .int .i64 d, .string t] 83 (0, 0)))
        clear HB1
        have hc4 : (w.alloc (.cells #[.int .i64 a, .int .i64 d, .string t] 83 (0, 0))).cell? ⟨w.heap.size, 0, none⟩ = some (.int .i64 a) := by rw [cell_of_row _ _ _ _ _ _ HF2.out]; rfl
        have hc5 : (w.alloc (.cells #[.int .i64 a, .int .i64 d, .string t] 83 (0, 0))).cell? ⟨w.heap.size, 1, none⟩ = some (.int .i64 d) := by rw [cell_of_row _ _ _ _ _ _ HF2.out]; rfl
        have hc6 : (w.alloc (.cells #[.int .i64 a, .int .i64 d, .string t] 83 (0, 0))).cell? ⟨w.heap.size, 2, none⟩ = some (.string t) := by rw [cell_of_row _ _ _ _ _ _ HF2.out]; rfl
        go_wp2_with fail
        refine (HC.out (w.alloc (.cells #[.int .i64 a, .int .i64 d, .string t] 83 (0, 0)))).mono ?_
        rintro e w' ⟨rfl, rfl⟩
        go_wp2_with fail
        clear hc4 hc5 hc6
        refine (HD.out (w.alloc (.cells #[.int .i64 a, .int .i64 d, .string t] 83 (0, 0)))).mono ?_
        rintro e w1 ⟨rfl, hb1⟩
        have HF7 := Lib.hid (blk_below HF2.out hb1)
        have HB8 := Lib.hid (HB3.out.trans (hb1.mono HB3.out.size))
        clear hb1 HB3 HF2
        go_wp2_with fail
        refine (HF.out w1 (H.out.below HB8.out)).mono ?_
        rintro e w' ⟨rfl, rfl⟩
        go_wp2_with fail
        go_ret2
        exact ⟨_, by first | (rw [HV.out.1]; done) | (rw [HV.out.1]; rfl), by rw [HV.out.2]; exact OwX.nil _, HB8.out⟩
      have HV := Lib.hid (setE_ok (ps := ps) (p := (s, a, d, t)) HOK.out hfull)
      have hway : (decide (atV ps s < 0) = false) ∨ (decide (atV ps s < 0) = true ∧ decide ((8 : Int) ≤ (n : Int)) = false) := by
        cases hin : inP ps s with
        | true => exact Or.inl (decide_eq_false (by unfold atV; rw [if_pos hin]; omega))
        | false =>
          refine Or.inr ⟨decide_eq_true (by unfold atV; rw [if_neg (by rw [hin]; simp)]; omega), decide_eq_false ?_⟩
          intro h8
          exact hfull ⟨hin, by rw [L.out]; omega⟩
      generalize atV ps s = z at HF hway
      clear hfull
      rcases hway with hw1 | ⟨hw1, hw2⟩
      · have HB1 := Lib.hid (Below.refl w.heap.size w)
        go_enter Try.func102, Try.ntmps102
        have HF2 := Lib.hid (blk_new w (.cells #[.int .i64 a, .int .i64 d, .string t] 83 (0, 0)))
        have HB3 := Lib.hid (HB1.out.alloc HB1.out.size (.cells #[.int .i64 a, .int .i64 d, .string t] 83 (0, 0)))
        clear HB1
        have hc4 : (w.alloc (.cells #[.int .i64 a, .int .i64 d, .string t] 83 (0, 0))).cell? ⟨w.heap.size, 0, none⟩ = some (.int .i64 a) := by rw [cell_of_row _ _ _ _ _ _ HF2.out]; rfl
        have hc5 : (w.alloc (.cells #[.int .i64 a, .int .i64 d, .string t] 83 (0, 0))).cell? ⟨w.heap.size, 1, none⟩ = some (.int .i64 d) := by rw [cell_of_row _ _ _ _ _ _ HF2.out]; rfl
        have hc6 : (w.alloc (.cells #[.int .i64 a, .int .i64 d, .string t] 83 (0, 0))).cell? ⟨w.heap.size, 2, none⟩ = some (.string t) := by rw [cell_of_row _ _ _ _ _ _ HF2.out]; rfl
        go_wp2_with fail
        refine (HC.out (w.alloc (.cells #[.int .i64 a, .int .i64 d, .string t] 83 (0, 0)))).mono ?_
        rintro e w' ⟨rfl, rfl⟩
        go_wp2_with fail
        clear hc4 hc5 hc6
        refine (HD.out (w.alloc (.cells #[.int .i64 a, .int .i64 d, .string t] 83 (0, 0)))).mono ?_
        rintro e w1 ⟨rfl, hb1⟩
        have HF7 := Lib.hid (blk_below HF2.out hb1)
        have HB8 := Lib.hid (HB3.out.trans (hb1.mono HB3.out.size))
        clear hb1 HB3 HF2
        go_wp2_with fail
        refine (HF.out w1 (H.out.below HB8.out)).mono ?_
        rintro e w' ⟨rfl, rfl⟩
        go_wp2_with fail
        go_loopw [8, 9] (fun vv i wr => ∃ (k : Nat) (v : Value) (M : List Pr), v = vv ∧ i = .int .i64 (k : Int) ∧ k ≤ n ∧ M = (ps.take k).filter (ltP s) ∧ OwX prC 4 139 wr (w.heap.size + 1) v M ∧ wr.heap[w.heap.size]? = some (.cells #[.int .i64 a, .int .i64 d, .string t] 83 (0, 0)) ∧ Below w.heap.size w wr) (fun _ i _ => n - (intOf i).toNat)
        case atStart => exact ⟨0, _, [], rfl, rfl, Nat.zero_le _, rfl, OwX.nil _, HF7.out, HB8.out⟩
        case round =>
          obtain ⟨k, v, M, rfl, rfl, hk, hM, how, hbx, hb⟩ := hrel
          have HM := Lib.hid hM
          clear hM
          have HO := Lib.hid how
          have HBX := Lib.hid hbx
          have HB := Lib.hid hb
          have hv := how.one
          have hCw := lt_of_block hbx
          clear how hbx hb
          by_cases hlt : k < n
          · have hd1 : decide ((k : Int) < (n : Int)) = true := decide_eq_true (by omega)
            obtain ⟨b, off, hl, rfl, hbb, _⟩ := (H.out.below HB.out).at hlt
            have HFT := Lib.hid (filt_take (ltP s) ps k hl)
            have hfl := filt_len (ltP s) ps k
            obtain ⟨y, hy⟩ : ∃ y, ps[k] = y := ⟨_, rfl⟩
            have HX := Lib.hid (show ps[k]? = some y by rw [List.getElem?_eq_getElem hl, hy])
            rw [hy] at HFT
            obtain ⟨s2, a2, d2, t2⟩ := y
            have hi0 : (0 : Int) ≤ (k : Int) := by omega
            clear hy
            cases hq : Op.bytesLess s2.toList s.toList with
            | true =>
              have HR := Lib.hid (show M ++ [(s2, a2, d2, t2)] = (ps.take (k + 1)).filter (ltP s) by rw [HFT.out, if_pos (show ltP s (s2, a2, d2, t2) = true from hq), HM.out])
              have hML : M.length ≤ 17 := by rw [HM.out]; omega
              have hc101 : wr.cell? ⟨b, off + k * 4, none⟩ = some (.string s2) := (H.out.below HB.out).cellAt HX.out hlt 0 _ rfl
              have hc102 : wr.cell? ⟨b, off + k * 4 + 1, none⟩ = some (.int .i64 a2) := (H.out.below HB.out).cellAt HX.out hlt 1 _ rfl
              have hc103 : wr.cell? ⟨b, off + k * 4 + 2, none⟩ = some (.int .i64 d2) := (H.out.below HB.out).cellAt HX.out hlt 2 _ rfl
              have hc104 : wr.cell? ⟨b, off + k * 4 + 3, none⟩ = some (.string t2) := (H.out.below HB.out).cellAt HX.out hlt 3 _ rfl
              have hz1 : w.heap.size + 1 ≤ wr.heap.size := by omega
              have HRa := Lib.hid (Below.refl (w.heap.size + 1) wr)
              go_wp2_with (at_builtin; refine wpList_appX rfl (.tmp 41) (.tmp 46) 43 139 _ 48 rfl Try.underlying43 info_prB rfl (by omega) (by omega) prC_len prC_one (w.heap.size + 1) wr (HRa.out.alloc hz1 _) (by simp; omega) v _ rfl (HO.out.alloc _) wr.heap.size 1 (s2, a2, d2, t2) #[.string s2, .int .i64 a2, .int .i64 d2, .string t2] 139 (0, 0) rfl (heap_alloc_new wr _) rfl (by omega) ?_)
              intro v7 w7 HO7 HB7 HZ7 HG7
              clear hc101 hc102 hc103 hc104
              have HX7 := Lib.hid ((HB7.out.block (w.heap.size) (by omega)).trans HBX.out)
              have HL7 := Lib.hid (HB.out.trans (HB7.out.mono (by omega)))
              have hv7 := HO7.out.one
              go_wp2_with fail
              go_roundw
              case rel => exact ⟨k + 1, v7, _, rfl, by go_num, by omega, HR.out, HO7.out, HX7.out, HL7.out⟩
              case measure => simp [intOf] <;> omega
            | false =>
              have HR := Lib.hid (show M = (ps.take (k + 1)).filter (ltP s) by rw [HFT.out, if_neg (by rw [show ltP s (s2, a2, d2, t2) = false from hq]; simp), List.append_nil, HM.out])
              have hc101 : wr.cell? ⟨b, off + k * 4, none⟩ = some (.string s2) := (H.out.below HB.out).cellAt HX.out hlt 0 _ rfl
              go_wp2_with fail
              go_roundw
              case rel => exact ⟨k + 1, v, M, rfl, by go_num, by omega, HR.out, HO.out, HBX.out, HB.out⟩
              case measure => simp [intOf] <;> omega
          · have hd1 : decide ((k : Int) < (n : Int)) = false := decide_eq_false (by omega)
            have HE := Lib.hid (show ps.take k = ps from List.take_of_length_le (by rw [L.out]; omega))
            have HM1 := Lib.hid (show M = ps.filter (ltP s) by rw [HM.out, HE.out])
            have HFL := Lib.hid (show (ps.filter (ltP s)).length ≤ 8 by have := List.length_filter_le (ltP s) ps; have := L.out; omega)
            have hz1 : w.heap.size + 1 ≤ wr.heap.size := by omega
            have HRa := Lib.hid (Below.refl (w.heap.size + 1) wr)
            have hc101 : wr.cell? ⟨w.heap.size, 0, none⟩ = some (.int .i64 a) := by rw [cell_of_row _ _ _ _ _ _ HBX.out]; rfl
            have hc102 : wr.cell? ⟨w.heap.size, 1, none⟩ = some (.int .i64 d) := by rw [cell_of_row _ _ _ _ _ _ HBX.out]; rfl
            have hc103 : wr.cell? ⟨w.heap.size, 2, none⟩ = some (.string t) := by rw [cell_of_row _ _ _ _ _ _ HBX.out]; rfl
            go_wp2_with (at_builtin; refine wpList_appX rfl (.tmp 48) (.tmp 52) 43 139 _ 48 rfl Try.underlying43 info_prB rfl (by omega) (by omega) prC_len prC_one (w.heap.size + 1) wr (HRa.out.alloc hz1 _) (by simp; omega) v _ rfl (HO.out.alloc _) wr.heap.size 1 (s, a, d, t) #[.string s, .int .i64 a, .int .i64 d, .string t] 139 (0, 0) rfl (heap_alloc_new wr _) rfl (by rw [HM1.out]; have := HFL.out; omega) ?_)
            intro v7 w7 HO7 HB7 HZ7 HG7
            clear hc101 hc102 hc103
            have HX7 := Lib.hid ((HB7.out.block (w.heap.size) (by omega)).trans HBX.out)
            have HL7 := Lib.hid (HB.out.trans (HB7.out.mono (by omega)))
            have hv7 := HO7.out.one
            clear hd1
            go_wp2_with fail
            go_loopw [8, 10] (fun vv i wr => ∃ (j : Nat) (v : Value) (M : List Pr), v = vv ∧ i = .int .i64 (j : Int) ∧ j ≤ n ∧ M = (ps.filter (ltP s) ++ [(s, a, d, t)]) ++ (ps.take j).filter (gtP s) ∧ OwX prC 4 139 wr (w.heap.size + 1) v M ∧ wr.heap[w.heap.size]? = some (.cells #[.int .i64 a, .int .i64 d, .string t] 83 (0, 0)) ∧ Below w.heap.size w wr) (fun _ i _ => n - (intOf i).toNat)
            case atStart => exact ⟨0, v7, _, rfl, rfl, Nat.zero_le _, by rw [List.take_zero, List.filter_nil, List.append_nil, HM1.out], HO7.out, HX7.out, HL7.out⟩
            case round =>
              obtain ⟨j, v, M, rfl, rfl, hj, hM, how, hbx, hb⟩ := hrel
              have HM := Lib.hid hM
              clear hM
              have HO2 := Lib.hid how
              have HBX2 := Lib.hid hbx
              have HB2 := Lib.hid hb
              have hv := how.one
              have hCw2 := lt_of_block hbx
              clear how hbx hb
              by_cases hlt2 : j < n
              · have hd1 : decide ((j : Int) < (n : Int)) = true := decide_eq_true (by omega)
                obtain ⟨b, off, hl, rfl, hbb, _⟩ := (H.out.below HB2.out).at hlt2
                have HFT := Lib.hid (filt_take (gtP s) ps j hl)
                have hfl := filt_len (gtP s) ps j
                obtain ⟨y, hy⟩ : ∃ y, ps[j] = y := ⟨_, rfl⟩
                have HX := Lib.hid (show ps[j]? = some y by rw [List.getElem?_eq_getElem hl, hy])
                rw [hy] at HFT
                obtain ⟨s2, a2, d2, t2⟩ := y
                have hi0 : (0 : Int) ≤ (j : Int) := by omega
                clear hy
                rcases leS_cases s2 s with ⟨g1, hg⟩ | ⟨g1, g2, hg⟩ | ⟨g1, g2, hg⟩
                · have HR := Lib.hid (show M = (ps.filter (ltP s) ++ [(s, a, d, t)]) ++ (ps.take (j + 1)).filter (gtP s) by rw [HFT.out, if_neg (by rw [show gtP s (s2, a2, d2, t2) = false from gt_no hg]; simp), List.append_nil, HM.out])
                  have hc101 : wr.cell? ⟨b, off + j * 4, none⟩ = some (.string s2) := (H.out.below HB2.out).cellAt HX.out hlt2 0 _ rfl
                  go_wp2_with fail
                  go_roundw
                  case rel => exact ⟨j + 1, v, M, rfl, by go_num, by omega, HR.out, HO2.out, HBX2.out, HB2.out⟩
                  case measure => simp [intOf] <;> omega
                · have HR := Lib.hid (show M = (ps.filter (ltP s) ++ [(s, a, d, t)]) ++ (ps.take (j + 1)).filter (gtP s) by rw [HFT.out, if_neg (by rw [show gtP s (s2, a2, d2, t2) = false from gt_no hg]; simp), List.append_nil, HM.out])
                  have hc101 : wr.cell? ⟨b, off + j * 4, none⟩ = some (.string s2) := (H.out.below HB2.out).cellAt HX.out hlt2 0 _ rfl
                  go_wp2_with fail
                  go_roundw
                  case rel => exact ⟨j + 1, v, M, rfl, by go_num, by omega, HR.out, HO2.out, HBX2.out, HB2.out⟩
                  case measure => simp [intOf] <;> omega
                · have HR := Lib.hid (show M ++ [(s2, a2, d2, t2)] = (ps.filter (ltP s) ++ [(s, a, d, t)]) ++ (ps.take (j + 1)).filter (gtP s) by rw [HFT.out, if_pos (show gtP s (s2, a2, d2, t2) = true from le_no hg), ← List.append_assoc, HM.out])
                  have hML : M.length ≤ 17 := by rw [HM.out]; rw [List.length_append, List.length_append]; have := HFL.out; simp; omega
                  have hc101 : wr.cell? ⟨b, off + j * 4, none⟩ = some (.string s2) := (H.out.below HB2.out).cellAt HX.out hlt2 0 _ rfl
                  have hc102 : wr.cell? ⟨b, off + j * 4 + 1, none⟩ = some (.int .i64 a2) := (H.out.below HB2.out).cellAt HX.out hlt2 1 _ rfl
                  have hc103 : wr.cell? ⟨b, off + j * 4 + 2, none⟩ = some (.int .i64 d2) := (H.out.below HB2.out).cellAt HX.out hlt2 2 _ rfl
                  have hc104 : wr.cell? ⟨b, off + j * 4 + 3, none⟩ = some (.string t2) := (H.out.below HB2.out).cellAt HX.out hlt2 3 _ rfl
                  have hz1 : w.heap.size + 1 ≤ wr.heap.size := by omega
                  have HRa := Lib.hid (Below.refl (w.heap.size + 1) wr)
                  go_wp2_with (at_builtin; refine wpList_appX rfl (.tmp 67) (.tmp 72) 43 139 _ 48 rfl Try.underlying43 info_prB rfl (by omega) (by omega) prC_len prC_one (w.heap.size + 1) wr (HRa.out.alloc hz1 _) (by simp; omega) v _ rfl (HO2.out.alloc _) wr.heap.size 1 (s2, a2, d2, t2) #[.string s2, .int .i64 a2, .int .i64 d2, .string t2] 139 (0, 0) rfl (heap_alloc_new wr _) rfl (by omega) ?_)
                  intro v7 w7 HO7 HB7 HZ7 HG7
                  clear hc101 hc102 hc103 hc104
                  have HX7 := Lib.hid ((HB7.out.block (w.heap.size) (by omega)).trans HBX2.out)
                  have HL7 := Lib.hid (HB2.out.trans (HB7.out.mono (by omega)))
                  have hv7 := HO7.out.one
                  go_wp2_with fail
                  go_roundw
                  case rel => exact ⟨j + 1, v7, _, rfl, by go_num, by omega, HR.out, HO7.out, HX7.out, HL7.out⟩
                  case measure => simp [intOf] <;> omega
              · have hd1 : decide ((j : Int) < (n : Int)) = false := decide_eq_false (by omega)
                have HE2 := Lib.hid (show ps.take j = ps from List.take_of_length_le (by rw [L.out]; omega))
                go_wp2_with fail
                go_ret2
                exact ⟨v, by first | (rw [HV.out.1]; done) | (rw [HV.out.1]; rfl), by rw [HV.out.2]; have k := HO2.out.mono (B' := w.heap.size) (by omega); rw [HM.out, HE2.out] at k; exact k, HB2.out⟩
      · have HB1 := Lib.hid (Below.refl w.heap.size w)
        go_enter Try.func102, Try.ntmps102
        have HF2 := Lib.hid (blk_new w (.cells #[.int .i64 a, .int .i64 d, .string t] 83 (0, 0)))
        have HB3 := Lib.hid (HB1.out.alloc HB1.out.size (.cells #[.int .i64 a, .int .i64 d, .string t] 83 (0, 0)))
        clear HB1
        have hc4 : (w.alloc (.cells #[.int .i64 a, .int .i64 d, .string t] 83 (0, 0))).cell? ⟨w.heap.size, 0, none⟩ = some (.int .i64 a) := by rw [cell_of_row _ _ _ _ _ _ HF2.out]; rfl
        have hc5 : (w.alloc (.cells #[.int .i64 a, .int .i64 d, .string t] 83 (0, 0))).cell? ⟨w.heap.size, 1, none⟩ = some (.int .i64 d) := by rw [cell_of_row _ _ _ _ _ _ HF2.out]; rfl
        have hc6 : (w.alloc (.cells #[.int .i64 a, .int .i64 d, .string t] 83 (0, 0))).cell? ⟨w.heap.size, 2, none⟩ = some (.string t) := by rw [cell_of_row _ _ _ _ _ _ HF2.out]; rfl
        go_wp2_with fail
        refine (HC.out (w.alloc (.cells #[.int .i64 a, .int .i64 d, .string t] 83 (0, 0)))).mono ?_
        rintro e w' ⟨rfl, rfl⟩
        go_wp2_with fail
        clear hc4 hc5 hc6
        refine (HD.out (w.alloc (.cells #[.int .i64 a, .int .i64 d, .string t] 83 (0, 0)))).mono ?_
        rintro e w1 ⟨rfl, hb1⟩
        have HF7 := Lib.hid (blk_below HF2.out hb1)
        have HB8 := Lib.hid (HB3.out.trans (hb1.mono HB3.out.size))
        clear hb1 HB3 HF2
        go_wp2_with fail
        refine (HF.out w1 (H.out.below HB8.out)).mono ?_
        rintro e w' ⟨rfl, rfl⟩
        go_wp2_with fail
        go_loopw [8, 9] (fun vv i wr => ∃ (k : Nat) (v : Value) (M : List Pr), v = vv ∧ i = .int .i64 (k : Int) ∧ k ≤ n ∧ M = (ps.take k).filter (ltP s) ∧ OwX prC 4 139 wr (w.heap.size + 1) v M ∧ wr.heap[w.heap.size]? = some (.cells #[.int .i64 a, .int .i64 d, .string t] 83 (0, 0)) ∧ Below w.heap.size w wr) (fun _ i _ => n - (intOf i).toNat)
        case atStart => exact ⟨0, _, [], rfl, rfl, Nat.zero_le _, rfl, OwX.nil _, HF7.out, HB8.out⟩
        case round =>
          obtain ⟨k, v, M, rfl, rfl, hk, hM, how, hbx, hb⟩ := hrel
          have HM := Lib.hid hM
          clear hM
          have HO := Lib.hid how
          have HBX := Lib.hid hbx
          have HB := Lib.hid hb
          have hv := how.one
          have hCw := lt_of_block hbx
          clear how hbx hb
          by_cases hlt : k < n
          · have hd1 : decide ((k : Int) < (n : Int)) = true := decide_eq_true (by omega)
            obtain ⟨b, off, hl, rfl, hbb, _⟩ := (H.out.below HB.out).at hlt
            have HFT := Lib.hid (filt_take (ltP s) ps k hl)
            have hfl := filt_len (ltP s) ps k
            obtain ⟨y, hy⟩ : ∃ y, ps[k] = y := ⟨_, rfl⟩
            have HX := Lib.hid (show ps[k]? = some y by rw [List.getElem?_eq_getElem hl, hy])
            rw [hy] at HFT
            obtain ⟨s2, a2, d2, t2⟩ := y
            have hi0 : (0 : Int) ≤ (k : Int) := by omega
            clear hy
            cases hq : Op.bytesLess s2.toList s.toList with
            | true =>
              have HR := Lib.hid (show M ++ [(s2, a2, d2, t2)] = (ps.take (k + 1)).filter (ltP s) by rw [HFT.out, if_pos (show ltP s (s2, a2, d2, t2) = true from hq), HM.out])
              have hML : M.length ≤ 17 := by rw [HM.out]; omega
              have hc101 : wr.cell? ⟨b, off + k * 4, none⟩ = some (.string s2) := (H.out.below HB.out).cellAt HX.out hlt 0 _ rfl
              have hc102 : wr.cell? ⟨b, off + k * 4 + 1, none⟩ = some (.int .i64 a2) := (H.out.below HB.out).cellAt HX.out hlt 1 _ rfl
              have hc103 : wr.cell? ⟨b, off + k * 4 + 2, none⟩ = some (.int .i64 d2) := (H.out.below HB.out).cellAt HX.out hlt 2 _ rfl
              have hc104 : wr.cell? ⟨b, off + k * 4 + 3, none⟩ = some (.string t2) := (H.out.below HB.out).cellAt HX.out hlt 3 _ rfl
              have hz1 : w.heap.size + 1 ≤ wr.heap.size := by omega
              have HRa := Lib.hid (Below.refl (w.heap.size + 1) wr)
              go_wp2_with (at_builtin; refine wpList_appX rfl (.tmp 41) (.tmp 46) 43 139 _ 48 rfl Try.underlying43 info_prB rfl (by omega) (by omega) prC_len prC_one (w.heap.size + 1) wr (HRa.out.alloc hz1 _) (by simp; omega) v _ rfl (HO.out.alloc _) wr.heap.size 1 (s2, a2, d2, t2) #[.string s2, .int .i64 a2, .int .i64 d2, .string t2] 139 (0, 0) rfl (heap_alloc_new wr _) rfl (by omega) ?_)
              intro v7 w7 HO7 HB7 HZ7 HG7
              clear hc101 hc102 hc103 hc104
              have HX7 := Lib.hid ((HB7.out.block (w.heap.size) (by omega)).trans HBX.out)
              have HL7 := Lib.hid (HB.out.trans (HB7.out.mono (by omega)))
              have hv7 := HO7.out.one
              go_wp2_with fail
              go_roundw
              case rel => exact ⟨k + 1, v7, _, rfl, by go_num, by omega, HR.out, HO7.out, HX7.out, HL7.out⟩
              case measure => simp [intOf] <;> omega
            | false =>
              have HR := Lib.hid (show M = (ps.take (k + 1)).filter (ltP s) by rw [HFT.out, if_neg (by rw [show ltP s (s2, a2, d2, t2) = false from hq]; simp), List.append_nil, HM.out])
              have hc101 : wr.cell? ⟨b, off + k * 4, none⟩ = some (.string s2) := (H.out.below HB.out).cellAt HX.out hlt 0 _ rfl
              go_wp2_with fail
              go_roundw
              case rel => exact ⟨k + 1, v, M, rfl, by go_num, by omega, HR.out, HO.out, HBX.out, HB.out⟩
              case measure => simp [intOf] <;> omega
          · have hd1 : decide ((k : Int) < (n : Int)) = false := decide_eq_false (by omega)
            have HE := Lib.hid (show ps.take k = ps from List.take_of_length_le (by rw [L.out]; omega))
            have HM1 := Lib.hid (show M = ps.filter (ltP s) by rw [HM.out, HE.out])
            have HFL := Lib.hid (show (ps.filter (ltP s)).length ≤ 8 by have := List.length_filter_le (ltP s) ps; have := L.out; omega)
            have hz1 : w.heap.size + 1 ≤ wr.heap.size := by omega
            have HRa := Lib.hid (Below.refl (w.heap.size + 1) wr)
            have hc101 : wr.cell? ⟨w.heap.size, 0, none⟩ = some (.int .i64 a) := by rw [cell_of_row _ _ _ _ _ _ HBX.out]; rfl
            have hc102 : wr.cell? ⟨w.heap.size, 1, none⟩ = some (.int .i64 d) := by rw [cell_of_row _ _ _ _ _ _ HBX.out]; rfl
            have hc103 : wr.cell? ⟨w.heap.size, 2, none⟩ = some (.string t) := by rw [cell_of_row _ _ _ _ _ _ HBX.out]; rfl
            go_wp2_with (at_builtin; refine wpList_appX rfl (.tmp 48) (.tmp 52) 43 139 _ 48 rfl Try.underlying43 info_prB rfl (by omega) (by omega) prC_len prC_one (w.heap.size + 1) wr (HRa.out.alloc hz1 _) (by simp; omega) v _ rfl (HO.out.alloc _) wr.heap.size 1 (s, a, d, t) #[.string s, .int .i64 a, .int .i64 d, .string t] 139 (0, 0) rfl (heap_alloc_new wr _) rfl (by rw [HM1.out]; have := HFL.out; omega) ?_)
            intro v7 w7 HO7 HB7 HZ7 HG7
            clear hc101 hc102 hc103
            have HX7 := Lib.hid ((HB7.out.block (w.heap.size) (by omega)).trans HBX.out)
            have HL7 := Lib.hid (HB.out.trans (HB7.out.mono (by omega)))
            have hv7 := HO7.out.one
            clear hd1
            go_wp2_with fail
            go_loopw [8, 10] (fun vv i wr => ∃ (j : Nat) (v : Value) (M : List Pr), v = vv ∧ i = .int .i64 (j : Int) ∧ j ≤ n ∧ M = (ps.filter (ltP s) ++ [(s, a, d, t)]) ++ (ps.take j).filter (gtP s) ∧ OwX prC 4 139 wr (w.heap.size + 1) v M ∧ wr.heap[w.heap.size]? = some (.cells #[.int .i64 a, .int .i64 d, .string t] 83 (0, 0)) ∧ Below w.heap.size w wr) (fun _ i _ => n - (intOf i).toNat)
            case atStart => exact ⟨0, v7, _, rfl, rfl, Nat.zero_le _, by rw [List.take_zero, List.filter_nil, List.append_nil, HM1.out], HO7.out, HX7.out, HL7.out⟩
            case round =>
              obtain ⟨j, v, M, rfl, rfl, hj, hM, how, hbx, hb⟩ := hrel
              have HM := Lib.hid hM
              clear hM
              have HO2 := Lib.hid how
              have HBX2 := Lib.hid hbx
              have HB2 := Lib.hid hb
              have hv := how.one
              have hCw2 := lt_of_block hbx
              clear how hbx hb
              by_cases hlt2 : j < n
              · have hd1 : decide ((j : Int) < (n : Int)) = true := decide_eq_true (by omega)
                obtain ⟨b, off, hl, rfl, hbb, _⟩ := (H.out.below HB2.out).at hlt2
                have HFT := Lib.hid (filt_take (gtP s) ps j hl)
                have hfl := filt_len (gtP s) ps j
                obtain ⟨y, hy⟩ : ∃ y, ps[j] = y := ⟨_, rfl⟩
                have HX := Lib.hid (show ps[j]? = some y by rw [List.getElem?_eq_getElem hl, hy])
                rw [hy] at HFT
                obtain ⟨s2, a2, d2, t2⟩ := y
                have hi0 : (0 : Int) ≤ (j : Int) := by omega
                clear hy
                rcases leS_cases s2 s with ⟨g1, hg⟩ | ⟨g1, g2, hg⟩ | ⟨g1, g2, hg⟩
                · have HR := Lib.hid (show M = (ps.filter (ltP s) ++ [(s, a, d, t)]) ++ (ps.take (j + 1)).filter (gtP s) by rw [HFT.out, if_neg (by rw [show gtP s (s2, a2, d2, t2) = false from gt_no hg]; simp), List.append_nil, HM.out])
                  have hc101 : wr.cell? ⟨b, off + j * 4, none⟩ = some (.string s2) := (H.out.below HB2.out).cellAt HX.out hlt2 0 _ rfl
                  go_wp2_with fail
                  go_roundw
                  case rel => exact ⟨j + 1, v, M, rfl, by go_num, by omega, HR.out, HO2.out, HBX2.out, HB2.out⟩
                  case measure => simp [intOf] <;> omega
                · have HR := Lib.hid (show M = (ps.filter (ltP s) ++ [(s, a, d, t)]) ++ (ps.take (j + 1)).filter (gtP s) by rw [HFT.out, if_neg (by rw [show gtP s (s2, a2, d2, t2) = false from gt_no hg]; simp), List.append_nil, HM.out])
                  have hc101 : wr.cell? ⟨b, off + j * 4, none⟩ = some (.string s2) := (H.out.below HB2.out).cellAt HX.out hlt2 0 _ rfl
                  go_wp2_with fail
                  go_roundw
                  case rel => exact ⟨j + 1, v, M, rfl, by go_num, by omega, HR.out, HO2.out, HBX2.out, HB2.out⟩
                  case measure => simp [intOf] <;> omega
                · have HR := Lib.hid (show M ++ [(s2, a2, d2, t2)] = (ps.filter (ltP s) ++ [(s, a, d, t)]) ++ (ps.take (j + 1)).filter (gtP s) by rw [HFT.out, if_pos (show gtP s (s2, a2, d2, t2) = true from le_no hg), ← List.append_assoc, HM.out])
                  have hML : M.length ≤ 17 := by rw [HM.out]; rw [List.length_append, List.length_append]; have := HFL.out; simp; omega
                  have hc101 : wr.cell? ⟨b, off + j * 4, none⟩ = some (.string s2) := (H.out.below HB2.out).cellAt HX.out hlt2 0 _ rfl
                  have hc102 : wr.cell? ⟨b, off + j * 4 + 1, none⟩ = some (.int .i64 a2) := (H.out.below HB2.out).cellAt HX.out hlt2 1 _ rfl
                  have hc103 : wr.cell? ⟨b, off + j * 4 + 2, none⟩ = some (.int .i64 d2) := (H.out.below HB2.out).cellAt HX.out hlt2 2 _ rfl
                  have hc104 : wr.cell? ⟨b, off + j * 4 + 3, none⟩ = some (.string t2) := (H.out.below HB2.out).cellAt HX.out hlt2 3 _ rfl
                  have hz1 : w.heap.size + 1 ≤ wr.heap.size := by omega
                  have HRa := Lib.hid (Below.refl (w.heap.size + 1) wr)
                  go_wp2_with (at_builtin; refine wpList_appX rfl (.tmp 67) (.tmp 72) 43 139 _ 48 rfl Try.underlying43 info_prB rfl (by omega) (by omega) prC_len prC_one (w.heap.size + 1) wr (HRa.out.alloc hz1 _) (by simp; omega) v _ rfl (HO2.out.alloc _) wr.heap.size 1 (s2, a2, d2, t2) #[.string s2, .int .i64 a2, .int .i64 d2, .string t2] 139 (0, 0) rfl (heap_alloc_new wr _) rfl (by omega) ?_)
                  intro v7 w7 HO7 HB7 HZ7 HG7
                  clear hc101 hc102 hc103 hc104
                  have HX7 := Lib.hid ((HB7.out.block (w.heap.size) (by omega)).trans HBX2.out)
                  have HL7 := Lib.hid (HB2.out.trans (HB7.out.mono (by omega)))
                  have hv7 := HO7.out.one
                  go_wp2_with fail
                  go_roundw
                  case rel => exact ⟨j + 1, v7, _, rfl, by go_num, by omega, HR.out, HO7.out, HX7.out, HL7.out⟩
                  case measure => simp [intOf] <;> omega
              · have hd1 : decide ((j : Int) < (n : Int)) = false := decide_eq_false (by omega)
                have HE2 := Lib.hid (show ps.take j = ps from List.take_of_length_le (by rw [L.out]; omega))
                go_wp2_with fail
                go_ret2
                exact ⟨v, by first | (rw [HV.out.1]; done) | (rw [HV.out.1]; rfl), by rw [HV.out.2]; have k := HO2.out.mono (B' := w.heap.size) (by omega); rw [HM.out, HE2.out] at k; exact k, HB2.out⟩
end Go.Proofs.Ytjnichiblljmjaa

namespace Go.Proofs.Ytjnichiblljmjaa
open Go.RowKit Vi

def lbE (ss : List ByteArray) (x : ByteArray) : Int := if nm x = false then 2 else if inB ss x = true then 10 else if 8 ≤ ss.length then 5 else 0
def lbV (ss : List ByteArray) (x : ByteArray) : List ByteArray := if lbE ss x = 0 then withL ss x else []
def ulE (ss : List ByteArray) (x : ByteArray) : Int := if inB ss x = true then 0 else 9
def ulV (ss : List ByteArray) (x : ByteArray) : List ByteArray := if inB ss x = true then onlyL ss [x] else []
def RetT (w : World) (L : List ByteArray) (z : Int) (e : Ending) (w' : World) : Prop := ∃ v, e = .returned (.tuple #[v, .int .i64 z]) ∧ TS w' v L ∧ Below w.heap.size w w'
theorem TS.nil (w : World) : TS w (.slice none 0 0) [] := ⟨none, 0, rfl, ⟨rfl, fun h => by simp at h⟩, Nat.le_refl _, Nat.zero_le _⟩
theorem lb_bad {ss : List ByteArray} {x : ByteArray} (h : nm x = false) : lbE ss x = 2 ∧ lbV ss x = [] := by
  have e : lbE ss x = 2 := by unfold lbE; rw [if_pos h]
  exact ⟨e, by unfold lbV; rw [e]; rfl⟩
theorem lb_in {ss : List ByteArray} {x : ByteArray} (h : nm x = true) (h1 : inB ss x = true) : lbE ss x = 10 ∧ lbV ss x = [] := by
  have e : lbE ss x = 10 := by unfold lbE; rw [if_neg (by rw [h]; simp), if_pos h1]
  exact ⟨e, by unfold lbV; rw [e]; rfl⟩
theorem lb_full {ss : List ByteArray} {x : ByteArray} (h : nm x = true) (h1 : inB ss x = false) (h2 : 8 ≤ ss.length) : lbE ss x = 5 ∧ lbV ss x = [] := by
  have e : lbE ss x = 5 := by unfold lbE; rw [if_neg (by rw [h]; simp), if_neg (by rw [h1]; simp), if_pos h2]
  exact ⟨e, by unfold lbV; rw [e]; rfl⟩
theorem lb_ok {ss : List ByteArray} {x : ByteArray} (h : nm x = true) (h1 : inB ss x = false) (h2 : ¬ 8 ≤ ss.length) : lbE ss x = 0 ∧ lbV ss x = withL ss x := by
  have e : lbE ss x = 0 := by unfold lbE; rw [if_neg (by rw [h]; simp), if_neg (by rw [h1]; simp), if_neg h2]
  exact ⟨e, by unfold lbV; rw [if_pos e]⟩
set_option maxRecDepth 100000 in
set_option maxHeartbeats 2000000 in
theorem elabel_any (A : Option Addr) (n c : Nat) (ss : List ByteArray) (x : ByteArray) (w : World) (h : SlN w A n ss) (hn : n ≤ 1000) (hc : n ≤ c) (hr : Rise ss) (hx : x.size ≤ maxLen) :
    Calls Try.prog 96 #[.slice A n c, .string x] w (RetT w (lbV ss x) (lbE ss x)) := by
  have H := Lib.hid h
  have L := Lib.hid h.1
  have HC := Lib.hid (fun W : World => ncheck_any x W hx)
  have HW := Lib.hid (fun (W : World) (q : SlN W A n ss) => with_all A n c ss x W q (by omega) hc hr)
  clear h hr
  cases hn1 : nm x with
  | false =>
    have HV := Lib.hid (lb_bad (ss := ss) hn1)
    rw [nck_no x hn1] at HC
    clear hn1
    have HB1 := Lib.hid (Below.refl w.heap.size w)
    go_enter Try.func96, Try.ntmps96
    go_wp2_with fail
    refine (HC.out w).mono ?_
    rintro e w' ⟨rfl, rfl⟩
    go_wp2_with fail
    go_ret2
    exact ⟨_, by first | (rw [HV.out.1]; done) | (rw [HV.out.1]; rfl), by rw [HV.out.2]; exact TS.nil _, HB1.out⟩
  | true =>
    have HNM := Lib.hid hn1
    rw [nck_yes x hn1] at HC
    clear hn1
    cases hin : inB ss x with
    | true =>
      have HV := Lib.hid (lb_in HNM.out hin)
      rw [hin] at HW
      clear hin
      have HB1 := Lib.hid (Below.refl w.heap.size w)
      go_enter Try.func96, Try.ntmps96
      go_wp2_with fail
      refine (HC.out w).mono ?_
      rintro e w' ⟨rfl, rfl⟩
      go_wp2_with fail
      refine (HW.out w (H.out.later HB1.out)).mono ?_
      rintro e w1 ⟨v, rfl, hts, hb1⟩
      have HB2 := Lib.hid (HB1.out.trans (hb1.mono (by have := HB1.out.size; simp at this ⊢ <;> omega)))
      clear hb1 HB1 
      have HTS := Lib.hid hts
      clear hts
      go_wp2_with fail
      go_ret2
      exact ⟨_, by first | (rw [HV.out.1]; done) | (rw [HV.out.1]; rfl), by rw [HV.out.2]; exact TS.nil _, HB2.out⟩
    | false =>
      rw [hin] at HW
      have HIN := Lib.hid hin
      clear hin
      by_cases h8 : 8 ≤ n
      · have d8 : decide ((8 : Int) ≤ (n : Int)) = true := decide_eq_true (by omega)
        have HV := Lib.hid (lb_full HNM.out HIN.out (by rw [L.out]; exact h8))
        have HB1 := Lib.hid (Below.refl w.heap.size w)
        go_enter Try.func96, Try.ntmps96
        go_wp2_with fail
        refine (HC.out w).mono ?_
        rintro e w' ⟨rfl, rfl⟩
        go_wp2_with fail
        refine (HW.out w (H.out.later HB1.out)).mono ?_
        rintro e w1 ⟨v, rfl, hts, hb1⟩
        have HB2 := Lib.hid (HB1.out.trans (hb1.mono (by have := HB1.out.size; simp at this ⊢ <;> omega)))
        clear hb1 HB1 
        have HTS := Lib.hid hts
        clear hts
        go_wp2_with fail
        go_ret2
        exact ⟨_, by first | (rw [HV.out.1]; done) | (rw [HV.out.1]; rfl), by rw [HV.out.2]; exact TS.nil _, HB2.out⟩
      · have d8 : decide ((8 : Int) ≤ (n : Int)) = false := decide_eq_false (by omega)
        have HV := Lib.hid (lb_ok HNM.out HIN.out (by rw [L.out]; exact h8))
        have HB1 := Lib.hid (Below.refl w.heap.size w)
        go_enter Try.func96, Try.ntmps96
        go_wp2_with fail
        refine (HC.out w).mono ?_
        rintro e w' ⟨rfl, rfl⟩
        go_wp2_with fail
        refine (HW.out w (H.out.later HB1.out)).mono ?_
        rintro e w1 ⟨v, rfl, hts, hb1⟩
        have HB2 := Lib.hid (HB1.out.trans (hb1.mono (by have := HB1.out.size; simp at this ⊢ <;> omega)))
        clear hb1 HB1 
        have HTS := Lib.hid hts
        clear hts
        go_wp2_with fail
        go_ret2
        exact ⟨v, by first | (rw [HV.out.1]; done) | (rw [HV.out.1]; rfl), by rw [HV.out.2]; exact HTS.out, HB2.out⟩
set_option maxRecDepth 100000 in
set_option maxHeartbeats 2000000 in
theorem rlabel_any (A : Option Addr) (n c : Nat) (ss : List ByteArray) (x : ByteArray) (w : World) (h : SlN w A n ss) (hn : n ≤ 1000) (hc : n ≤ c) (hcm : c ≤ maxLen) (hx : x.size ≤ maxLen) :
    Calls Try.prog 100 #[.slice A n c, .string x] w (RetT w (lbV ss x) (lbE ss x)) := by
  have H := Lib.hid h
  have L := Lib.hid h.1
  have HC := Lib.hid (fun W : World => refIs_any x W hx)
  have HI := Lib.hid (fun (W : World) (q : SlN W A n ss) => refIn_any A n c ss x W q (by omega))
  have HW := Lib.hid (fun (W : World) (q : SlN W A n ss) => refWith_any A n c ss x W q (by omega) hc hcm)
  clear h hcm
  cases hn1 : nm x with
  | false =>
    have HV := Lib.hid (lb_bad (ss := ss) hn1)
    rw [hn1] at HC
    clear hn1
    have HB1 := Lib.hid (Below.refl w.heap.size w)
    go_enter Try.func100, Try.ntmps100
    go_wp2_with fail
    refine (HC.out w).mono ?_
    rintro e w' ⟨rfl, rfl⟩
    go_wp2_with fail
    go_ret2
    exact ⟨_, by first | (rw [HV.out.1]; done) | (rw [HV.out.1]; rfl), by rw [HV.out.2]; exact TS.nil _, HB1.out⟩
  | true =>
    have HNM := Lib.hid hn1
    rw [hn1] at HC
    clear hn1
    cases hin : inB ss x with
    | true =>
      have HV := Lib.hid (lb_in HNM.out hin)
      rw [hin] at HI
      clear hin
      have HB1 := Lib.hid (Below.refl w.heap.size w)
      go_enter Try.func100, Try.ntmps100
      go_wp2_with fail
      refine (HC.out w).mono ?_
      rintro e w' ⟨rfl, rfl⟩
      go_wp2_with fail
      refine (HI.out w (H.out.later HB1.out)).mono ?_
      rintro e w' ⟨rfl, rfl⟩
      go_wp2_with fail
      go_ret2
      exact ⟨_, by first | (rw [HV.out.1]; done) | (rw [HV.out.1]; rfl), by rw [HV.out.2]; exact TS.nil _, HB1.out⟩
    | false =>
      rw [hin] at HI
      have HIN := Lib.hid hin
      clear hin
      by_cases h8 : 8 ≤ n
      · have d8 : decide ((8 : Int) ≤ (n : Int)) = true := decide_eq_true (by omega)
        have HV := Lib.hid (lb_full HNM.out HIN.out (by rw [L.out]; exact h8))
        have HB1 := Lib.hid (Below.refl w.heap.size w)
        go_enter Try.func100, Try.ntmps100
        go_wp2_with fail
        refine (HC.out w).mono ?_
        rintro e w' ⟨rfl, rfl⟩
        go_wp2_with fail
        refine (HI.out w (H.out.later HB1.out)).mono ?_
        rintro e w' ⟨rfl, rfl⟩
        go_wp2_with fail
        go_ret2
        exact ⟨_, by first | (rw [HV.out.1]; done) | (rw [HV.out.1]; rfl), by rw [HV.out.2]; exact TS.nil _, HB1.out⟩
      · have d8 : decide ((8 : Int) ≤ (n : Int)) = false := decide_eq_false (by omega)
        have HV := Lib.hid (lb_ok HNM.out HIN.out (by rw [L.out]; exact h8))
        have HB1 := Lib.hid (Below.refl w.heap.size w)
        go_enter Try.func100, Try.ntmps100
        go_wp2_with fail
        refine (HC.out w).mono ?_
        rintro e w' ⟨rfl, rfl⟩
        go_wp2_with fail
        refine (HI.out w (H.out.later HB1.out)).mono ?_
        rintro e w' ⟨rfl, rfl⟩
        go_wp2_with fail
        refine (HW.out w (H.out.later HB1.out)).mono ?_
        rintro e w1 ⟨v, rfl, hts, hb1⟩
        have HB2 := Lib.hid (HB1.out.trans (hb1.mono (by have := HB1.out.size; simp at this ⊢ <;> omega)))
        clear hb1 HB1 
        have HTS := Lib.hid hts
        clear hts
        go_wp2_with fail
        go_ret2
        exact ⟨v, by first | (rw [HV.out.1]; done) | (rw [HV.out.1]; rfl), by rw [HV.out.2]; exact HTS.out, HB2.out⟩
set_option maxRecDepth 100000 in
set_option maxHeartbeats 2000000 in
theorem eunlabel_any (A : Option Addr) (n c : Nat) (ss : List ByteArray) (x : ByteArray) (w : World) (h : SlN w A n ss) (hn : n ≤ 1000) (hc : n ≤ c) (hr : Rise ss) :
    Calls Try.prog 97 #[.slice A n c, .string x] w (RetT w (ulV ss x) (ulE ss x)) := by
  have H := Lib.hid h
  have HW := Lib.hid (fun (W : World) (q : SlN W A n ss) => without_all A n c ss x W q (by omega) hc hr)
  clear h hr hc
  cases hin : inB ss x with
  | false =>
    have HV := Lib.hid (show ulE ss x = 9 ∧ ulV ss x = [] by unfold ulE ulV; rw [if_neg (by rw [hin]; simp), if_neg (by rw [hin]; simp)]; exact ⟨rfl, rfl⟩)
    rw [hin] at HW
    clear hin
    have HB1 := Lib.hid (Below.refl w.heap.size w)
    go_enter Try.func97, Try.ntmps97
    go_wp2_with fail
    refine (HW.out w (H.out.later HB1.out)).mono ?_
    rintro e w1 ⟨v, rfl, hts, hb1⟩
    have HB2 := Lib.hid (HB1.out.trans (hb1.mono (by have := HB1.out.size; simp at this ⊢ <;> omega)))
    clear hb1 HB1 
    have HTS := Lib.hid hts
    clear hts
    go_wp2_with fail
    go_ret2
    exact ⟨_, by first | (rw [HV.out.1]; done) | (rw [HV.out.1]; rfl), by rw [HV.out.2]; exact TS.nil _, HB2.out⟩
  | true =>
    have HV := Lib.hid (show ulE ss x = 0 ∧ ulV ss x = onlyL ss [x] by unfold ulE ulV; rw [if_pos hin, if_pos hin]; exact ⟨rfl, rfl⟩)
    rw [hin] at HW
    clear hin
    have HB1 := Lib.hid (Below.refl w.heap.size w)
    go_enter Try.func97, Try.ntmps97
    go_wp2_with fail
    refine (HW.out w (H.out.later HB1.out)).mono ?_
    rintro e w1 ⟨v, rfl, hts, hb1⟩
    have HB2 := Lib.hid (HB1.out.trans (hb1.mono (by have := HB1.out.size; simp at this ⊢ <;> omega)))
    clear hb1 HB1 
    have HTS := Lib.hid hts
    clear hts
    go_wp2_with fail
    go_ret2
    exact ⟨v, by first | (rw [HV.out.1]; done) | (rw [HV.out.1]; rfl), by rw [HV.out.2]; exact HTS.out, HB2.out⟩
set_option maxRecDepth 100000 in
set_option maxHeartbeats 2000000 in
theorem runlabel_any (A : Option Addr) (n c : Nat) (ss : List ByteArray) (x : ByteArray) (w : World) (h : SlN w A n ss) (hn : n ≤ 1000) :
    Calls Try.prog 101 #[.slice A n c, .string x] w (RetT w (ulV ss x) (ulE ss x)) := by
  have H := Lib.hid h
  have HI := Lib.hid (fun (W : World) (q : SlN W A n ss) => refIn_any A n c ss x W q (by omega))
  clear h
  cases hin : inB ss x with
  | false =>
    have HV := Lib.hid (show ulE ss x = 9 ∧ ulV ss x = [] by unfold ulE ulV; rw [if_neg (by rw [hin]; simp), if_neg (by rw [hin]; simp)]; exact ⟨rfl, rfl⟩)
    rw [hin] at HI
    clear hin
    have HB1 := Lib.hid (Below.refl w.heap.size w)
    go_enter Try.func101, Try.ntmps101
    go_wp2_with fail
    refine (HI.out w (H.out.later HB1.out)).mono ?_
    rintro e w' ⟨rfl, rfl⟩
    go_wp2_with fail
    go_ret2
    exact ⟨_, by first | (rw [HV.out.1]; done) | (rw [HV.out.1]; rfl), by rw [HV.out.2]; exact TS.nil _, HB1.out⟩
  | true =>
    have HV := Lib.hid (show ulE ss x = 0 ∧ ulV ss x = onlyL ss [x] by unfold ulE ulV; rw [if_pos hin, if_pos hin]; exact ⟨rfl, rfl⟩)
    rw [hin] at HI
    clear hin
    have HB1 := Lib.hid (Below.refl w.heap.size w)
    go_enter Try.func101, Try.ntmps101
    go_wp2_with fail
    refine (HI.out w (H.out.later HB1.out)).mono ?_
    rintro e w' ⟨rfl, rfl⟩
    go_wp2_with fail
    have HF2 := Lib.hid (blk_new w (.cells #[.string x] 9 (0, 0)))
    have HB3 := Lib.hid (HB1.out.alloc HB1.out.size (.cells #[.string x] 9 (0, 0)))
    clear HB1
    refine (refOnly_any A n c ss (some ⟨w.heap.size, 0, none⟩) 1 1 [x] (w.alloc (.cells #[.string x] 9 (0, 0))) ((H.out.later HB3.out)) (sl_one w x) (by omega) (by omega)).mono ?_
    rintro e w1 ⟨v, rfl, hts, hb1⟩
    have HF4 := Lib.hid (blk_below HF2.out hb1)
    have HB5 := Lib.hid (HB3.out.trans (hb1.mono (by have := HB3.out.size; simp at this ⊢ <;> omega)))
    clear hb1 HB3 HF2
    have HTS := Lib.hid hts
    clear hts
    go_wp2_with fail
    go_ret2
    exact ⟨v, by first | (rw [HV.out.1]; done) | (rw [HV.out.1]; rfl), by rw [HV.out.2]; exact HTS.out, HB5.out⟩
end Go.Proofs.Ytjnichiblljmjaa
