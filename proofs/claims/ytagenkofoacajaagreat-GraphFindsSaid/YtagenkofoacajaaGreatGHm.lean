/- The library's BinarySearchFunc over nodes and edges; graph.Node, Edge, Out, In, Labelled, and the document's. Conditions: at most 1000 nodes, edges; at most 100,000 labels, properties in each. -/
import Derived.Test.YtagenkofoacajaaGreatGQa
import Derived.Test.YtagenkofoacajaaGreatOpc
import Derived.Test.YtagenkofoacajaaGreatNp
import Derived.Test.YtagenkofoacajaaGreatNe
import Derived.Test.YtagenkofoacajaaGreatNr
import Derived.Deep.DeepCutAuto
import Derived.IntWalk
namespace Go.Proofs.YtagenkofoacajaaGreat
open Go.RowKit Vi

theorem cmpS_less {s x : ByteArray} (h : Op.bytesLess s.toList x.toList = true) : cmpS s x = -1 := by unfold cmpS; rw [if_pos h]
theorem cmpS_not {s x : ByteArray} (h : Op.bytesLess s.toList x.toList = false) : 0 ≤ cmpS s x := by
  unfold cmpS
  rw [if_neg (by rw [h]; simp)]
  split <;> omega
theorem cmpS_eq {s x : ByteArray} : (cmpS s x == 0) = (s.toList == x.toList) := by
  unfold cmpS
  cases h1 : Op.bytesLess s.toList x.toList with
  | true =>
    rw [if_pos rfl]
    symm
    rw [beq_eq_false_iff_ne.2]
    · rfl
    · intro e; rw [e, bl_irrefl] at h1; cases h1
  | false =>
    rw [if_neg (by simp)]
    cases h2 : Op.bytesLess x.toList s.toList with
    | true =>
      rw [if_pos rfl]
      symm
      rw [beq_eq_false_iff_ne.2]
      · rfl
      · intro e; rw [e, bl_irrefl] at h2; cases h2
    | false =>
      rw [if_neg (by simp), bl_total _ _ h1 h2]
      simp
end Go.Proofs.YtagenkofoacajaaGreat
namespace Go.Proofs.YtagenkofoacajaaGreat
open Go.RowKit Vi

theorem OwX.oth {α : Type} {f : α → List Value} {s : Nat} {T T' : TypeId} {w w' : World} {B g : Nat} {v : Value} {l : List α} {cs : Array Value} {fr : Nat × Nat} (h : OwX f s T w B v l) (ho : ∀ k, k ≠ g → w'.heap[k]? = w.heap[k]?) (hg : w.heap[g]? = some (.cells cs T' fr)) (hT : T ≠ T') : OwX f s T w' B v l := by
  rcases h with ⟨h1, h | ⟨b, cap, cur, h2, h3, h4, h5⟩⟩
  · exact ⟨h1, .inl h⟩
  · exact ⟨h1, .inr ⟨b, cap, cur, h2, h3, (ho b (fun e => by
      subst e
      rw [hg] at h4
      cases h4
      exact hT rfl)).trans h4, h5⟩⟩
def keys1 {α : Type} (R : List (ByteArray × α)) : List ByteArray := R.map (·.1)
theorem keys1_len {α : Type} (R : List (ByteArray × α)) : (keys1 R).length = R.length := by unfold keys1; simp
theorem keys1_at {α : Type} (R : List (ByteArray × α)) (k : Nat) (h : k < R.length) : (keys1 R)[k]'(by rw [keys1_len]; exact h) = R[k].1 := by unfold keys1; simp
theorem keys_raw {α β : Type} {R : List (ByteArray × α)} {X : List (ByteArray × β)} (hl : R.length = X.length) (h : ∀ (k : Nat) r x, R[k]? = some r → X[k]? = some x → r.1 = x.1) : keys1 R = keys1 X := by
  apply List.ext_getElem
  · rw [keys1_len, keys1_len, hl]
  · intro k h1 h2
    rw [keys1_len] at h1 h2
    rw [keys1_at R k h1, keys1_at X k h2]
    exact h k _ _ (List.getElem?_eq_getElem h1) (List.getElem?_eq_getElem h2)
theorem NdsIs.keys {w : World} {R : List NdR} {X : List Nd} (h : NdsIs w R X) : keys1 R = keys1 X := keys_raw h.len (fun k r x h1 h2 => (h.at' k r x h1 h2).id)
theorem EdsIs.keys {w : World} {R : List EdR} {X : List Ed} (h : EdsIs w R X) : keys1 R = keys1 X := keys_raw h.len (fun k r x h1 h2 => (h.at' k r x h1 h2).id)
theorem wrN_row : ∀ (p : ByteArray) (X : List Nd), wrN p X = 0 → rowE p (keys1 X) = 0
  | _, [], _ => rfl
  | p, x :: r, h => by
    unfold wrN at h
    split at h
    · next h1 => exact absurd h h1
    · next h1 =>
      split at h
      · cases h
      · next h2 =>
        show rowE p (x.1 :: keys1 r) = 0
        rw [rowE_go p x.1 _ (ndE_nm (by simpa using h1)) (by simpa using h2)]
        exact wrN_row _ r h
theorem wrE_row (X : List Nd) : ∀ (p : ByteArray) (Y : List Ed), wrE X p Y = 0 → rowE p (keys1 Y) = 0
  | _, [], _ => rfl
  | p, x :: r, h => by
    unfold wrE at h
    split at h
    · next h1 => exact absurd h h1
    · next h1 =>
      split at h
      · cases h
      · next h2 =>
        split at h
        · cases h
        · show rowE p (x.1 :: keys1 r) = 0
          rw [rowE_go p x.1 _ (edE_nm (by simpa using h1)) (by simpa using h2)]
          exact wrE_row X _ r h
theorem gW_rise {X : List Nd} {Y : List Ed} (h : gW X Y = 0) : X.length ≤ 500 ∧ Y.length ≤ 1000 ∧ Rise (keys1 X) ∧ Rise (keys1 Y) := by
  unfold gW at h
  split at h
  · cases h
  · next h1 =>
    split at h
    · next h2 => exact absurd h h2
    · next h2 =>
      exact ⟨by omega, by omega, (row0_ok _ (wrN_row _ X (by simpa using h2))).2, (row0_ok _ (wrE_row X _ Y h)).2⟩
set_option maxRecDepth 100000 in
set_option maxHeartbeats 1000000 in
theorem find1n_any (s : ByteArray) (a1 : Option Addr) (a2 a3 : Nat) (d1 : Option Addr) (d2 d3 : Nat) (x : ByteArray) (w : World) :
    Calls Tryz.prog 60 #[.agg #[.string s, .slice a1 a2 a3, .slice d1 d2 d3], .string x] w fun e w' => e = .returned (.int .i64 (cmpS s x)) ∧ Below w.heap.size w w' := by
  have HB1 := Lib.hid (Below.refl w.heap.size w)
  go_enter Tryz.func60, Tryz.ntmps60
  have HF2 := Lib.hid (blk_new w (.cells #[.string s, .slice a1 a2 a3, .slice d1 d2 d3] 32 (0, 0)))
  have HB3 := Lib.hid (HB1.out.alloc HB1.out.size (.cells #[.string s, .slice a1 a2 a3, .slice d1 d2 d3] 32 (0, 0)))
  clear HB1
  have hc4 : (w.alloc (.cells #[.string s, .slice a1 a2 a3, .slice d1 d2 d3] 32 (0, 0))).cell? ⟨w.heap.size, 0, none⟩ = some (.string s) := by rw [cell_of_row _ _ _ _ _ _ HF2.out]; rfl
  have hc5 : (w.alloc (.cells #[.string s, .slice a1 a2 a3, .slice d1 d2 d3] 32 (0, 0))).cell? ⟨w.heap.size, 1, none⟩ = some (.slice a1 a2 a3) := by rw [cell_of_row _ _ _ _ _ _ HF2.out]; rfl
  have hc6 : (w.alloc (.cells #[.string s, .slice a1 a2 a3, .slice d1 d2 d3] 32 (0, 0))).cell? ⟨w.heap.size, 2, none⟩ = some (.slice d1 d2 d3) := by rw [cell_of_row _ _ _ _ _ _ HF2.out]; rfl
  go_wp2_with fail
  refine (cmpS_any s x (w.alloc (.cells #[.string s, .slice a1 a2 a3, .slice d1 d2 d3] 32 (0, 0)))).mono ?_
  rintro e w' ⟨rfl, rfl⟩
  go_wp2_with fail
  go_ret
  exact ⟨rfl, HB3.out⟩
set_option maxHeartbeats 4000000 in
set_option maxRecDepth 100000 in
theorem bsfn_any (A : Option Addr) (n c : Nat) (ps : List NdR) (x : ByteArray) (K : Nat) (w : World) (h : RdX ndC 3 w A n ps) (hn : n ≤ 1000000) (hK : Cut (keys1 ps) x K) :
    Calls Tryz.prog 59 #[.slice A n c, .string x, .func (.func 60) #[] #[]] w fun e w' => e = .returned (.tuple #[.int .i64 (K : Int), .bool (metB (keys1 ps) x K)]) ∧ Below w.heap.size w w' := by
  have H := Lib.hid h
  have HL := Lib.hid h.1
  obtain ⟨hk0, h1, h2⟩ := hK
  rw [keys1_len, h.1] at hk0
  have H1 := Lib.hid h1
  have H2 := Lib.hid h2
  clear h h1 h2
  go_enter Tryz.func59, Tryz.ntmps59
  go_wp2
  go_loopw [9, 10, 11] (fun i j _ wr => ∃ (lo hi : Nat), i = .int .i64 (lo : Int) ∧ j = .int .i64 (hi : Int) ∧ lo ≤ K ∧ K ≤ hi ∧ hi ≤ n ∧ Below w.heap.size w wr) (fun i j _ _ => (intOf j - intOf i).toNat)
  case atStart => exact ⟨0, n, rfl, rfl, by omega, hk0, Nat.le_refl _, Below.refl _ _⟩
  case round =>
    obtain ⟨lo, hi, rfl, rfl, hlo, hhi, hln, hb⟩ := hrel
    have HB := Lib.hid hb
    clear hb
    by_cases hlt : (lo : Int) < hi
    · obtain ⟨m, hm⟩ : ∃ m, m = (lo + hi) / 2 := ⟨_, rfl⟩
      have hml : lo ≤ m := by omega
      have hmh : m < hi := by omega
      have hmn : m < n := by omega
      have hme : ((lo : Int) + hi) / 2 = (m : Int) := by omega
      obtain ⟨b, off, hl, rfl, hbb, _⟩ := (H.out.below HB.out).at hmn
      have hms : m < (keys1 ps).length := by rw [keys1_len]; exact hl
      have HKA := Lib.hid (keys1_at ps m hl)
      obtain ⟨y, hy⟩ : ∃ y, ps[m] = y := ⟨_, rfl⟩
      have HX := Lib.hid (show ps[m]? = some y by rw [List.getElem?_eq_getElem hl, hy])
      rw [hy] at HKA
      obtain ⟨s, ⟨a1, a2, a3⟩, ⟨d1, d2, d3⟩⟩ := y
      have hi0 : (0 : Int) ≤ (m : Int) := by omega
      have hi1 : (m : Int) < (n : Int) := by omega
      clear hm hy
      by_cases hmk : m < K
      · have HV := Lib.hid (cmpS_less (show Op.bytesLess s.toList x.toList = true by have := H1.out m hms hmk; rw [HKA.out] at this; exact this))
        have HF := Lib.hid (fun W : World => find1n_any s a1 a2 a3 d1 d2 d3 x W)
        rw [HV.out] at HF
        have hc101 : wr.cell? ⟨b, off + m * 3, none⟩ = some (.string s) := (H.out.below HB.out).cellAt HX.out hmn 0 _ rfl
        have hc102 : wr.cell? ⟨b, off + m * 3 + 1, none⟩ = some (.slice a1 a2 a3) := (H.out.below HB.out).cellAt HX.out hmn 1 _ rfl
        have hc103 : wr.cell? ⟨b, off + m * 3 + 2, none⟩ = some (.slice d1 d2 d3) := (H.out.below HB.out).cellAt HX.out hmn 2 _ rfl
        go_wp2_with fail
        clear hc101 hc102 hc103
        refine (HF.out wr).mono ?_
        rintro e w11 ⟨rfl, hb11⟩
        have HB104 := Lib.hid (HB.out.trans (hb11.mono HB.out.size))
        clear hb11 HB 
        go_wp2_with fail
        go_roundw
        case rel => exact ⟨m + 1, hi, by go_num, rfl, by omega, hhi, hln, HB104.out⟩
        case measure => simp [intOf] <;> omega
      · have hv := cmpS_not (show Op.bytesLess s.toList x.toList = false by have := H2.out m hms (by omega); rw [HKA.out] at this; exact this)
        have HF := Lib.hid (fun W : World => find1n_any s a1 a2 a3 d1 d2 d3 x W)
        generalize cmpS s x = z at hv HF
        have hz : decide (z < 0) = false := decide_eq_false (by omega)
        have hc101 : wr.cell? ⟨b, off + m * 3, none⟩ = some (.string s) := (H.out.below HB.out).cellAt HX.out hmn 0 _ rfl
        have hc102 : wr.cell? ⟨b, off + m * 3 + 1, none⟩ = some (.slice a1 a2 a3) := (H.out.below HB.out).cellAt HX.out hmn 1 _ rfl
        have hc103 : wr.cell? ⟨b, off + m * 3 + 2, none⟩ = some (.slice d1 d2 d3) := (H.out.below HB.out).cellAt HX.out hmn 2 _ rfl
        go_wp2_with fail
        clear hc101 hc102 hc103
        refine (HF.out wr).mono ?_
        rintro e w11 ⟨rfl, hb11⟩
        have HB104 := Lib.hid (HB.out.trans (hb11.mono HB.out.size))
        clear hb11 HB 
        go_wp2_with fail
        go_roundw
        case rel => exact ⟨lo, m, rfl, rfl, hlo, by omega, by omega, HB104.out⟩
        case measure => simp [intOf] <;> omega
    · obtain rfl : lo = K := by omega
      obtain rfl : hi = lo := by omega
      clear H1 H2
      by_cases hin : hi < n
      · have hd1 : decide ((hi : Int) < (n : Int)) = true := decide_eq_true (by omega)
        obtain ⟨b, off, hl, rfl, hbb, _⟩ := (H.out.below HB.out).at hin
        have hms : hi < (keys1 ps).length := by rw [keys1_len]; exact hl
        have HG := Lib.hid (show metB (keys1 ps) x hi = (ps[hi].1.toList == x.toList) by unfold metB; rw [decide_eq_true hms, Bool.true_and, List.getD_eq_getElem?_getD, List.getElem?_eq_getElem hms, ← keys1_at ps hi hl]; rfl)
        obtain ⟨y, hy⟩ : ∃ y, ps[hi] = y := ⟨_, rfl⟩
        have HX := Lib.hid (show ps[hi]? = some y by rw [List.getElem?_eq_getElem hl, hy])
        rw [hy] at HG
        obtain ⟨s, ⟨a1, a2, a3⟩, ⟨d1, d2, d3⟩⟩ := y
        have hi0 : (0 : Int) ≤ (hi : Int) := by omega
        have HF := Lib.hid (fun W : World => find1n_any s a1 a2 a3 d1 d2 d3 x W)
        have HE := Lib.hid (cmpS_eq (s := s) (x := x))
        generalize cmpS s x = z at HF HE
        have HM := Lib.hid (show metB (keys1 ps) x hi = (z == 0) by rw [HE.out, HG.out])
        clear hlt hy HG HE
        cases hzm : (z == 0)
        · have HR := Lib.hid (HM.out.trans hzm)
          have hc101 : wr.cell? ⟨b, off + hi * 3, none⟩ = some (.string s) := (H.out.below HB.out).cellAt HX.out hin 0 _ rfl
          have hc102 : wr.cell? ⟨b, off + hi * 3 + 1, none⟩ = some (.slice a1 a2 a3) := (H.out.below HB.out).cellAt HX.out hin 1 _ rfl
          have hc103 : wr.cell? ⟨b, off + hi * 3 + 2, none⟩ = some (.slice d1 d2 d3) := (H.out.below HB.out).cellAt HX.out hin 2 _ rfl
          go_wp2_with fail
          clear hc101 hc102 hc103
          refine (HF.out wr).mono ?_
          rintro e w11 ⟨rfl, hb11⟩
          have HB104 := Lib.hid (HB.out.trans (hb11.mono HB.out.size))
          clear hb11 HB 
          go_wp2_with fail
          go_ret2
          exact ⟨by first | (rw [HR.out]; done) | (rw [HR.out]; rfl), HB104.out⟩
        · have HR := Lib.hid (HM.out.trans hzm)
          have hc101 : wr.cell? ⟨b, off + hi * 3, none⟩ = some (.string s) := (H.out.below HB.out).cellAt HX.out hin 0 _ rfl
          have hc102 : wr.cell? ⟨b, off + hi * 3 + 1, none⟩ = some (.slice a1 a2 a3) := (H.out.below HB.out).cellAt HX.out hin 1 _ rfl
          have hc103 : wr.cell? ⟨b, off + hi * 3 + 2, none⟩ = some (.slice d1 d2 d3) := (H.out.below HB.out).cellAt HX.out hin 2 _ rfl
          go_wp2_with fail
          clear hc101 hc102 hc103
          refine (HF.out wr).mono ?_
          rintro e w11 ⟨rfl, hb11⟩
          have HB104 := Lib.hid (HB.out.trans (hb11.mono HB.out.size))
          clear hb11 HB 
          go_wp2_with fail
          go_ret2
          exact ⟨by first | (rw [HR.out]; done) | (rw [HR.out]; rfl), HB104.out⟩
      · have hd : decide ((hi : Int) < (n : Int)) = false := decide_eq_false (by omega)
        have HR := Lib.hid (show metB (keys1 ps) x hi = false by unfold metB; rw [decide_eq_false (by rw [keys1_len, HL.out]; omega), Bool.false_and])
        go_wp2
        go_ret2
        exact ⟨by first | (rw [HR.out]; done) | (rw [HR.out]; rfl), HB.out⟩
set_option maxRecDepth 100000 in
theorem findn_any (A : Option Addr) (n c : Nat) (ps : List NdR) (x : ByteArray) (w : World) (h : RdX ndC 3 w A n ps) (hn : n ≤ 1000000) (hr : Rise (keys1 ps)) :
    Calls Tryz.prog 31 #[.slice A n c, .string x] w fun e w' => e = .returned (.tuple #[.int .i64 (lessN (keys1 ps) x : Int), .bool (inB (keys1 ps) x)]) ∧ Below w.heap.size w w' := by
  have HF := Lib.hid (bsfn_any A n c ps x (lessN (keys1 ps) x) w h hn (cut_of (keys1 ps) x hr))
  have HI := Lib.hid (in_met (x := x) hr)
  rw [HI.out] at HF
  generalize lessN (keys1 ps) x = K at HF ⊢
  generalize inB (keys1 ps) x = m at HF ⊢
  clear h HI
  go_enter Tryz.func31, Tryz.ntmps31
  go_wp2_with fail
  refine HF.out.mono ?_
  rintro e w1 ⟨rfl, hb⟩
  have HB := Lib.hid hb
  clear hb
  go_wp2_with fail
  go_ret2
  exact ⟨rfl, HB.out⟩
set_option maxRecDepth 100000 in
set_option maxHeartbeats 1000000 in
theorem find1e_any (s f g : ByteArray) (a1 : Option Addr) (a2 a3 : Nat) (d1 : Option Addr) (d2 d3 : Nat) (x : ByteArray) (w : World) :
    Calls Tryz.prog 65 #[.agg #[.string s, .string f, .string g, .slice a1 a2 a3, .slice d1 d2 d3], .string x] w fun e w' => e = .returned (.int .i64 (cmpS s x)) ∧ Below w.heap.size w w' := by
  have HB1 := Lib.hid (Below.refl w.heap.size w)
  go_enter Tryz.func65, Tryz.ntmps65
  have HF2 := Lib.hid (blk_new w (.cells #[.string s, .string f, .string g, .slice a1 a2 a3, .slice d1 d2 d3] 36 (0, 0)))
  have HB3 := Lib.hid (HB1.out.alloc HB1.out.size (.cells #[.string s, .string f, .string g, .slice a1 a2 a3, .slice d1 d2 d3] 36 (0, 0)))
  clear HB1
  have hc4 : (w.alloc (.cells #[.string s, .string f, .string g, .slice a1 a2 a3, .slice d1 d2 d3] 36 (0, 0))).cell? ⟨w.heap.size, 0, none⟩ = some (.string s) := by rw [cell_of_row _ _ _ _ _ _ HF2.out]; rfl
  have hc5 : (w.alloc (.cells #[.string s, .string f, .string g, .slice a1 a2 a3, .slice d1 d2 d3] 36 (0, 0))).cell? ⟨w.heap.size, 1, none⟩ = some (.string f) := by rw [cell_of_row _ _ _ _ _ _ HF2.out]; rfl
  have hc6 : (w.alloc (.cells #[.string s, .string f, .string g, .slice a1 a2 a3, .slice d1 d2 d3] 36 (0, 0))).cell? ⟨w.heap.size, 2, none⟩ = some (.string g) := by rw [cell_of_row _ _ _ _ _ _ HF2.out]; rfl
  have hc7 : (w.alloc (.cells #[.string s, .string f, .string g, .slice a1 a2 a3, .slice d1 d2 d3] 36 (0, 0))).cell? ⟨w.heap.size, 3, none⟩ = some (.slice a1 a2 a3) := by rw [cell_of_row _ _ _ _ _ _ HF2.out]; rfl
  have hc8 : (w.alloc (.cells #[.string s, .string f, .string g, .slice a1 a2 a3, .slice d1 d2 d3] 36 (0, 0))).cell? ⟨w.heap.size, 4, none⟩ = some (.slice d1 d2 d3) := by rw [cell_of_row _ _ _ _ _ _ HF2.out]; rfl
  go_wp2_with fail
  refine (cmpS_any s x (w.alloc (.cells #[.string s, .string f, .string g, .slice a1 a2 a3, .slice d1 d2 d3] 36 (0, 0)))).mono ?_
  rintro e w' ⟨rfl, rfl⟩
  go_wp2_with fail
  go_ret
  exact ⟨rfl, HB3.out⟩
set_option maxHeartbeats 4000000 in
set_option maxRecDepth 100000 in
theorem bsfe_any (A : Option Addr) (n c : Nat) (ps : List EdR) (x : ByteArray) (K : Nat) (w : World) (h : RdX edC 5 w A n ps) (hn : n ≤ 1000000) (hK : Cut (keys1 ps) x K) :
    Calls Tryz.prog 64 #[.slice A n c, .string x, .func (.func 65) #[] #[]] w fun e w' => e = .returned (.tuple #[.int .i64 (K : Int), .bool (metB (keys1 ps) x K)]) ∧ Below w.heap.size w w' := by
  have H := Lib.hid h
  have HL := Lib.hid h.1
  obtain ⟨hk0, h1, h2⟩ := hK
  rw [keys1_len, h.1] at hk0
  have H1 := Lib.hid h1
  have H2 := Lib.hid h2
  clear h h1 h2
  go_enter Tryz.func64, Tryz.ntmps64
  go_wp2
  go_loopw [9, 10, 11] (fun i j _ wr => ∃ (lo hi : Nat), i = .int .i64 (lo : Int) ∧ j = .int .i64 (hi : Int) ∧ lo ≤ K ∧ K ≤ hi ∧ hi ≤ n ∧ Below w.heap.size w wr) (fun i j _ _ => (intOf j - intOf i).toNat)
  case atStart => exact ⟨0, n, rfl, rfl, by omega, hk0, Nat.le_refl _, Below.refl _ _⟩
  case round =>
    obtain ⟨lo, hi, rfl, rfl, hlo, hhi, hln, hb⟩ := hrel
    have HB := Lib.hid hb
    clear hb
    by_cases hlt : (lo : Int) < hi
    · obtain ⟨m, hm⟩ : ∃ m, m = (lo + hi) / 2 := ⟨_, rfl⟩
      have hml : lo ≤ m := by omega
      have hmh : m < hi := by omega
      have hmn : m < n := by omega
      have hme : ((lo : Int) + hi) / 2 = (m : Int) := by omega
      obtain ⟨b, off, hl, rfl, hbb, _⟩ := (H.out.below HB.out).at hmn
      have hms : m < (keys1 ps).length := by rw [keys1_len]; exact hl
      have HKA := Lib.hid (keys1_at ps m hl)
      obtain ⟨y, hy⟩ : ∃ y, ps[m] = y := ⟨_, rfl⟩
      have HX := Lib.hid (show ps[m]? = some y by rw [List.getElem?_eq_getElem hl, hy])
      rw [hy] at HKA
      obtain ⟨s, f, g, ⟨a1, a2, a3⟩, ⟨d1, d2, d3⟩⟩ := y
      have hi0 : (0 : Int) ≤ (m : Int) := by omega
      have hi1 : (m : Int) < (n : Int) := by omega
      clear hm hy
      by_cases hmk : m < K
      · have HV := Lib.hid (cmpS_less (show Op.bytesLess s.toList x.toList = true by have := H1.out m hms hmk; rw [HKA.out] at this; exact this))
        have HF := Lib.hid (fun W : World => find1e_any s f g a1 a2 a3 d1 d2 d3 x W)
        rw [HV.out] at HF
        have hc101 : wr.cell? ⟨b, off + m * 5, none⟩ = some (.string s) := (H.out.below HB.out).cellAt HX.out hmn 0 _ rfl
        have hc102 : wr.cell? ⟨b, off + m * 5 + 1, none⟩ = some (.string f) := (H.out.below HB.out).cellAt HX.out hmn 1 _ rfl
        have hc103 : wr.cell? ⟨b, off + m * 5 + 2, none⟩ = some (.string g) := (H.out.below HB.out).cellAt HX.out hmn 2 _ rfl
        have hc104 : wr.cell? ⟨b, off + m * 5 + 3, none⟩ = some (.slice a1 a2 a3) := (H.out.below HB.out).cellAt HX.out hmn 3 _ rfl
        have hc105 : wr.cell? ⟨b, off + m * 5 + 4, none⟩ = some (.slice d1 d2 d3) := (H.out.below HB.out).cellAt HX.out hmn 4 _ rfl
        go_wp2_with fail
        clear hc101 hc102 hc103 hc104 hc105
        refine (HF.out wr).mono ?_
        rintro e w11 ⟨rfl, hb11⟩
        have HB106 := Lib.hid (HB.out.trans (hb11.mono HB.out.size))
        clear hb11 HB 
        go_wp2_with fail
        go_roundw
        case rel => exact ⟨m + 1, hi, by go_num, rfl, by omega, hhi, hln, HB106.out⟩
        case measure => simp [intOf] <;> omega
      · have hv := cmpS_not (show Op.bytesLess s.toList x.toList = false by have := H2.out m hms (by omega); rw [HKA.out] at this; exact this)
        have HF := Lib.hid (fun W : World => find1e_any s f g a1 a2 a3 d1 d2 d3 x W)
        generalize cmpS s x = z at hv HF
        have hz : decide (z < 0) = false := decide_eq_false (by omega)
        have hc101 : wr.cell? ⟨b, off + m * 5, none⟩ = some (.string s) := (H.out.below HB.out).cellAt HX.out hmn 0 _ rfl
        have hc102 : wr.cell? ⟨b, off + m * 5 + 1, none⟩ = some (.string f) := (H.out.below HB.out).cellAt HX.out hmn 1 _ rfl
        have hc103 : wr.cell? ⟨b, off + m * 5 + 2, none⟩ = some (.string g) := (H.out.below HB.out).cellAt HX.out hmn 2 _ rfl
        have hc104 : wr.cell? ⟨b, off + m * 5 + 3, none⟩ = some (.slice a1 a2 a3) := (H.out.below HB.out).cellAt HX.out hmn 3 _ rfl
        have hc105 : wr.cell? ⟨b, off + m * 5 + 4, none⟩ = some (.slice d1 d2 d3) := (H.out.below HB.out).cellAt HX.out hmn 4 _ rfl
        go_wp2_with fail
        clear hc101 hc102 hc103 hc104 hc105
        refine (HF.out wr).mono ?_
        rintro e w11 ⟨rfl, hb11⟩
        have HB106 := Lib.hid (HB.out.trans (hb11.mono HB.out.size))
        clear hb11 HB 
        go_wp2_with fail
        go_roundw
        case rel => exact ⟨lo, m, rfl, rfl, hlo, by omega, by omega, HB106.out⟩
        case measure => simp [intOf] <;> omega
    · obtain rfl : lo = K := by omega
      obtain rfl : hi = lo := by omega
      clear H1 H2
      by_cases hin : hi < n
      · have hd1 : decide ((hi : Int) < (n : Int)) = true := decide_eq_true (by omega)
        obtain ⟨b, off, hl, rfl, hbb, _⟩ := (H.out.below HB.out).at hin
        have hms : hi < (keys1 ps).length := by rw [keys1_len]; exact hl
        have HG := Lib.hid (show metB (keys1 ps) x hi = (ps[hi].1.toList == x.toList) by unfold metB; rw [decide_eq_true hms, Bool.true_and, List.getD_eq_getElem?_getD, List.getElem?_eq_getElem hms, ← keys1_at ps hi hl]; rfl)
        obtain ⟨y, hy⟩ : ∃ y, ps[hi] = y := ⟨_, rfl⟩
        have HX := Lib.hid (show ps[hi]? = some y by rw [List.getElem?_eq_getElem hl, hy])
        rw [hy] at HG
        obtain ⟨s, f, g, ⟨a1, a2, a3⟩, ⟨d1, d2, d3⟩⟩ := y
        have hi0 : (0 : Int) ≤ (hi : Int) := by omega
        have HF := Lib.hid (fun W : World => find1e_any s f g a1 a2 a3 d1 d2 d3 x W)
        have HE := Lib.hid (cmpS_eq (s := s) (x := x))
        generalize cmpS s x = z at HF HE
        have HM := Lib.hid (show metB (keys1 ps) x hi = (z == 0) by rw [HE.out, HG.out])
        clear hlt hy HG HE
        cases hzm : (z == 0)
        · have HR := Lib.hid (HM.out.trans hzm)
          have hc101 : wr.cell? ⟨b, off + hi * 5, none⟩ = some (.string s) := (H.out.below HB.out).cellAt HX.out hin 0 _ rfl
          have hc102 : wr.cell? ⟨b, off + hi * 5 + 1, none⟩ = some (.string f) := (H.out.below HB.out).cellAt HX.out hin 1 _ rfl
          have hc103 : wr.cell? ⟨b, off + hi * 5 + 2, none⟩ = some (.string g) := (H.out.below HB.out).cellAt HX.out hin 2 _ rfl
          have hc104 : wr.cell? ⟨b, off + hi * 5 + 3, none⟩ = some (.slice a1 a2 a3) := (H.out.below HB.out).cellAt HX.out hin 3 _ rfl
          have hc105 : wr.cell? ⟨b, off + hi * 5 + 4, none⟩ = some (.slice d1 d2 d3) := (H.out.below HB.out).cellAt HX.out hin 4 _ rfl
          go_wp2_with fail
          clear hc101 hc102 hc103 hc104 hc105
          refine (HF.out wr).mono ?_
          rintro e w11 ⟨rfl, hb11⟩
          have HB106 := Lib.hid (HB.out.trans (hb11.mono HB.out.size))
          clear hb11 HB 
          go_wp2_with fail
          go_ret2
          exact ⟨by first | (rw [HR.out]; done) | (rw [HR.out]; rfl), HB106.out⟩
        · have HR := Lib.hid (HM.out.trans hzm)
          have hc101 : wr.cell? ⟨b, off + hi * 5, none⟩ = some (.string s) := (H.out.below HB.out).cellAt HX.out hin 0 _ rfl
          have hc102 : wr.cell? ⟨b, off + hi * 5 + 1, none⟩ = some (.string f) := (H.out.below HB.out).cellAt HX.out hin 1 _ rfl
          have hc103 : wr.cell? ⟨b, off + hi * 5 + 2, none⟩ = some (.string g) := (H.out.below HB.out).cellAt HX.out hin 2 _ rfl
          have hc104 : wr.cell? ⟨b, off + hi * 5 + 3, none⟩ = some (.slice a1 a2 a3) := (H.out.below HB.out).cellAt HX.out hin 3 _ rfl
          have hc105 : wr.cell? ⟨b, off + hi * 5 + 4, none⟩ = some (.slice d1 d2 d3) := (H.out.below HB.out).cellAt HX.out hin 4 _ rfl
          go_wp2_with fail
          clear hc101 hc102 hc103 hc104 hc105
          refine (HF.out wr).mono ?_
          rintro e w11 ⟨rfl, hb11⟩
          have HB106 := Lib.hid (HB.out.trans (hb11.mono HB.out.size))
          clear hb11 HB 
          go_wp2_with fail
          go_ret2
          exact ⟨by first | (rw [HR.out]; done) | (rw [HR.out]; rfl), HB106.out⟩
      · have hd : decide ((hi : Int) < (n : Int)) = false := decide_eq_false (by omega)
        have HR := Lib.hid (show metB (keys1 ps) x hi = false by unfold metB; rw [decide_eq_false (by rw [keys1_len, HL.out]; omega), Bool.false_and])
        go_wp2
        go_ret2
        exact ⟨by first | (rw [HR.out]; done) | (rw [HR.out]; rfl), HB.out⟩
set_option maxRecDepth 100000 in
theorem finde_any (A : Option Addr) (n c : Nat) (ps : List EdR) (x : ByteArray) (w : World) (h : RdX edC 5 w A n ps) (hn : n ≤ 1000000) (hr : Rise (keys1 ps)) :
    Calls Tryz.prog 33 #[.slice A n c, .string x] w fun e w' => e = .returned (.tuple #[.int .i64 (lessN (keys1 ps) x : Int), .bool (inB (keys1 ps) x)]) ∧ Below w.heap.size w w' := by
  have HF := Lib.hid (bsfe_any A n c ps x (lessN (keys1 ps) x) w h hn (cut_of (keys1 ps) x hr))
  have HI := Lib.hid (in_met (x := x) hr)
  rw [HI.out] at HF
  generalize lessN (keys1 ps) x = K at HF ⊢
  generalize inB (keys1 ps) x = m at HF ⊢
  clear h HI
  go_enter Tryz.func33, Tryz.ntmps33
  go_wp2_with fail
  refine HF.out.mono ?_
  rintro e w1 ⟨rfl, hb⟩
  have HB := Lib.hid hb
  clear hb
  go_wp2_with fail
  go_ret2
  exact ⟨rfl, HB.out⟩
theorem GrIs.findn {w : World} {A : Option Addr} {n : Nat} {A2 : Option Addr} {n2 : Nat} {X : List Nd} {Y : List Ed} (h : GrIs w A n A2 n2 X Y) (c : Nat) (x : ByteArray) (hn : n ≤ 1000000) (hr : Rise (keys1 X)) :
    Calls Tryz.prog 31 #[.slice A n c, .string x] w fun e w' => e = .returned (.tuple #[.int .i64 (lessN (keys1 X) x : Int), .bool (inB (keys1 X) x)]) ∧ Below w.heap.size w w' := by
  obtain ⟨⟨R, h1, h2⟩, _⟩ := h
  have e := h2.keys
  rw [← e] at hr ⊢
  exact findn_any A n c R x w h1 hn hr
theorem GrIs.finde {w : World} {A : Option Addr} {n : Nat} {A2 : Option Addr} {n2 : Nat} {X : List Nd} {Y : List Ed} (h : GrIs w A n A2 n2 X Y) (c : Nat) (x : ByteArray) (hn : n2 ≤ 1000000) (hr : Rise (keys1 Y)) :
    Calls Tryz.prog 33 #[.slice A2 n2 c, .string x] w fun e w' => e = .returned (.tuple #[.int .i64 (lessN (keys1 Y) x : Int), .bool (inB (keys1 Y) x)]) ∧ Below w.heap.size w w' := by
  obtain ⟨_, ⟨R, h1, h2⟩⟩ := h
  have e := h2.keys
  rw [← e] at hr ⊢
  exact finde_any A2 n2 c R x w h1 hn hr
theorem key_at {α : Type} {X : List (ByteArray × α)} {x : ByteArray} (hr : Rise (keys1 X)) (h : inB (keys1 X) x = true) : ∃ hk : lessN (keys1 X) x < X.length, X[lessN (keys1 X) x].1 = x := by
  have h2 := in_met (x := x) hr
  rw [h] at h2
  obtain ⟨hk, he⟩ := met_at h2
  have hk' : lessN (keys1 X) x < X.length := by rw [keys1_len] at hk; exact hk
  exact ⟨hk', by rw [← keys1_at X _ hk']; exact he⟩
/-- what has an id, in new memory, or nothing -/
def Fndn (X : List Nd) (s : ByteArray) (w : World) (e : Ending) (w' : World) : Prop :=
  (inB (keys1 X) s = true → ∃ x a b, X[lessN (keys1 X) s]? = some x ∧ e = .returned (.tuple #[.agg #[.string x.1, slV a, slV b], .bool true]) ∧ PO w' a b x.2.1 x.2.2 ∧ Below w.heap.size w w') ∧
  (inB (keys1 X) s = false → e = .returned (.tuple #[.agg #[.string ⟨#[]⟩, .slice none 0 0, .slice none 0 0], .bool false]) ∧ Below w.heap.size w w')
set_option maxRecDepth 100000 in
set_option maxHeartbeats 4000000 in
theorem gnode_any (A A2 : Option Addr) (n c n2 c2 : Nat) (X : List Nd) (Y : List Ed) (s : ByteArray) (w : World) (h : GrIs w A n A2 n2 X Y) (hn : n ≤ 1000) (hr : Rise (keys1 X)) (hs : ∀ x ∈ X, x.2.1.length ≤ 100000 ∧ x.2.2.length ≤ 100000) :
    Calls Tryz.prog 8 #[.agg #[.slice A n c, .slice A2 n2 c2], .string s] w (Fndn X s w) := by
  have H := Lib.hid h
  have HL := Lib.hid h.nl
  have HR := Lib.hid hr
  have HS := Lib.hid hs
  have HFN := Lib.hid (fun (W : World) (g : GrIs W A n A2 n2 X Y) => g.findn c s (by omega) hr)
  clear h hr hs
  have HB1 := Lib.hid (Below.refl w.heap.size w)
  have HF2 := Lib.hid (blk_new w (.cells #[.slice A n c, .slice A2 n2 c2] 25 (0, 0)))
  have HB3 := Lib.hid (HB1.out.alloc HB1.out.size (.cells #[.slice A n c, .slice A2 n2 c2] 25 (0, 0)))
  clear HB1
  have HF4 := Lib.hid (blk_alloc HF2.out (.cells #[.string ⟨#[]⟩, .slice none 0 0, .slice none 0 0] 32 (0, 0)))
  clear HF2
  have HF5 : Hid (((w.alloc (.cells #[.slice A n c, .slice A2 n2 c2] 25 (0, 0))).alloc (.cells #[.string ⟨#[]⟩, .slice none 0 0, .slice none 0 0] 32 (0, 0))).heap[w.heap.size + 1]? = some (.cells #[.string ⟨#[]⟩, .slice none 0 0, .slice none 0 0] 32 (0, 0))) := Lib.hid (blk_newN (W := (w.alloc (.cells #[.slice A n c, .slice A2 n2 c2] 25 (0, 0)))) (o := (.cells #[.string ⟨#[]⟩, .slice none 0 0, .slice none 0 0] 32 (0, 0))) (by simp))
  have HB6 := Lib.hid (HB3.out.alloc (by have := HB3.out.size; simp at this ⊢ <;> omega) (.cells #[.string ⟨#[]⟩, .slice none 0 0, .slice none 0 0] 32 (0, 0)))
  clear HB3
  obtain ⟨v, hv⟩ : ∃ v, v = ((w.alloc (.cells #[.slice A n c, .slice A2 n2 c2] 25 (0, 0))).alloc (.cells #[.string ⟨#[]⟩, .slice none 0 0, .slice none 0 0] 32 (0, 0))) := ⟨_, rfl⟩
  have HVv := Lib.hid hv
  rw [← hv] at HF4 HF5 HB6
  clear hv
  go_enter Tryz.func8, Tryz.ntmps8
  go_upto_region 1 with (fail)
  rw [← HVv.out]
  have hc7 : v.cell? ⟨w.heap.size, 0, none⟩ = some (.slice A n c) := by rw [cell_of_row _ _ _ _ _ _ HF4.out]; rfl
  have hc8 : v.cell? ⟨w.heap.size, 1, none⟩ = some (.slice A2 n2 c2) := by rw [cell_of_row _ _ _ _ _ _ HF4.out]; rfl
  go_wp2_with fail
  obtain ⟨K, hK⟩ : ∃ K, K = lessN (keys1 X) s := ⟨_, rfl⟩
  rw [← hK] at HFN
  have HKE := Lib.hid hK
  clear hK
  cases hm : inB (keys1 X) s
  · rw [hm] at HFN
    refine (HFN.out v (H.out.below HB6.out)).mono ?_
    rintro e w1 ⟨rfl, hb1⟩
    clear hc7 hc8
    have HF9 := Lib.hid (blk_below HF4.out hb1)
    have HF10 := Lib.hid (blk_below HF5.out hb1)
    have HB11 := Lib.hid (HB6.out.trans (hb1.mono HB6.out.size))
    clear hb1 HB6 HF4 HF5
    go_wp2_with (first
      | refine wpList_store_rowY rfl 32 (.tmp 4) (.tmp 17) rfl (w.heap.size + 1) #[.string ⟨#[]⟩, .slice none 0 0, .slice none 0 0] rfl rfl 32 _ HF10.out ((by kernel_rfl)) rfl ((by simp [Value.oneCell'])) w.heap.size w HB11.out (by omega) ?_)
    intro w2 hbk hoth hbel _
    have HF12 := Lib.hid (blk_oth HF9.out hoth.out (by omega))
    have HF13 := Lib.hid hbk.out
    have HB14 := Lib.hid hbel.out
    clear hbk hoth hbel HB11 HF9 HF10
    go_wp2_with fail
    refine bodyPost_ret (results_ctY rfl _ _ (w.heap.size + 1) #[.string ⟨#[]⟩, .slice none 0 0, .slice none 0 0] rfl (run_loadVar_row _ (w.heap.size + 1) 32 32 _ (0, 0) _ HF13.out Tryz.underlying32 rfl (by kernel_rfl))) rfl ?_
    exact ⟨fun e => (by rw [hm] at e; cases e), fun _ => ⟨rfl, HB14.out⟩⟩
  · rw [hm] at HFN
    refine (HFN.out v (H.out.below HB6.out)).mono ?_
    rintro e w1 ⟨rfl, hb1⟩
    clear hc7 hc8
    have HF9 := Lib.hid (blk_below HF4.out hb1)
    have HF10 := Lib.hid (blk_below HF5.out hb1)
    have HB11 := Lib.hid (HB6.out.trans (hb1.mono HB6.out.size))
    clear hb1 HB6 HF4 HF5
    obtain ⟨hk1, hk2⟩ := key_at HR.out hm
    rw [← HKE.out] at hk1
    have hkn : K < n := by rw [HL.out.1]; exact hk1
    obtain ⟨x, hx⟩ : ∃ x, X[K]? = some x := ⟨_, List.getElem?_eq_getElem hk1⟩
    have hsm := HS.out x (List.mem_of_getElem? hx)
    have HX := Lib.hid (show X[lessN (keys1 X) s]? = some x by rw [← HKE.out]; exact hx)
    obtain ⟨b1, o1, L1, q1, r1, M1, rfl, x0, x1, x2, hp1⟩ := (H.out.below HB11.out).node hkn hx
    obtain ⟨i, ss, ps⟩ := x
    dsimp only at x0 x1 x2 hp1 hsm
    have HC := Lib.hid (fun (W : World) (g1 : LP W L1 ss.length ss M1 ps.length ps) => ownnode_any i L1 ss.length q1 M1 ps.length r1 ss ps W g1 hsm.1 hsm.2)
    have HP1 := Lib.hid hp1
    clear hp1 hsm hk2 hx
    have hi0 : (0 : Int) ≤ (K : Int) := by omega
    have hi1 : (K : Int) < (n : Int) := by omega
    generalize ss.length = ns at *
    generalize ps.length = np at *
    have hc12 : w1.cell? ⟨w.heap.size, 0, none⟩ = some (.slice (some ⟨b1, o1, none⟩) n c) := by rw [cell_of_row _ _ _ _ _ _ HF9.out]; rfl
    have hc13 : w1.cell? ⟨w.heap.size, 1, none⟩ = some (.slice A2 n2 c2) := by rw [cell_of_row _ _ _ _ _ _ HF9.out]; rfl
    go_wp2_with fail
    clear x0 x1 x2
    refine (HC.out w1 HP1.out).mono ?_
    rintro e w2 ⟨⟨a1, a2, a3⟩, ⟨b1, b2, b3⟩, rfl, hpo, hb2⟩
    clear hc12 hc13
    have HF14 := Lib.hid (blk_below HF9.out hb2)
    have HF15 := Lib.hid (blk_below HF10.out hb2)
    have HB16 := Lib.hid (HB11.out.trans (hb2.mono HB11.out.size))
    clear hb2 HB11 HF9 HF10
    have HPl := Lib.hid hpo.l
    have HPp := Lib.hid hpo.p
    clear hpo
    simp only [slV] at HPl HPp ⊢
    go_wp2_with (first
      | refine wpList_store_rowY rfl 32 (.tmp 4) (.tmp 23) rfl (w.heap.size + 1) #[.string i, .slice a1 a2 a3, .slice b1 b2 b3] rfl rfl 32 _ HF15.out ((by kernel_rfl)) rfl ((by simp [Value.oneCell'])) w.heap.size w HB16.out (by omega) ?_)
    intro w3 hbk hoth hbel _
    have HPl17 := Lib.hid (HPl.out.oth hoth.out HF15.out (by decide))
    have HPp18 := Lib.hid (HPp.out.oth hoth.out HF15.out (by decide))
    have HF19 := Lib.hid (blk_oth HF14.out hoth.out (by omega))
    have HF20 := Lib.hid hbk.out
    have HB21 := Lib.hid hbel.out
    clear hbk hoth hbel HB16 HF14 HF15
    go_wp2_with fail
    refine bodyPost_ret (results_ctY rfl _ _ (w.heap.size + 1) #[.string i, .slice a1 a2 a3, .slice b1 b2 b3] rfl (run_loadVar_row _ (w.heap.size + 1) 32 32 _ (0, 0) _ HF20.out Tryz.underlying32 rfl (by kernel_rfl))) rfl ?_
    exact ⟨fun _ => ⟨(i, ss, ps), ⟨a1, a2, a3⟩, ⟨b1, b2, b3⟩, HX.out, rfl, ⟨HPl17.out, HPp18.out⟩, HB21.out⟩, fun e => (by rw [hm] at e; cases e)⟩
/-- what has an id, in new memory, or nothing -/
def Fnde (Y : List Ed) (s : ByteArray) (w : World) (e : Ending) (w' : World) : Prop :=
  (inB (keys1 Y) s = true → ∃ x a b, Y[lessN (keys1 Y) s]? = some x ∧ e = .returned (.tuple #[.agg #[.string x.1, .string x.2.1, .string x.2.2.1, slV a, slV b], .bool true]) ∧ PO w' a b x.2.2.2.1 x.2.2.2.2 ∧ Below w.heap.size w w') ∧
  (inB (keys1 Y) s = false → e = .returned (.tuple #[.agg #[.string ⟨#[]⟩, .string ⟨#[]⟩, .string ⟨#[]⟩, .slice none 0 0, .slice none 0 0], .bool false]) ∧ Below w.heap.size w w')
set_option maxRecDepth 100000 in
set_option maxHeartbeats 4000000 in
theorem gedge_any (A A2 : Option Addr) (n c n2 c2 : Nat) (X : List Nd) (Y : List Ed) (s : ByteArray) (w : World) (h : GrIs w A n A2 n2 X Y) (hn : n2 ≤ 1000) (hr : Rise (keys1 Y)) (hs : ∀ x ∈ Y, x.2.2.2.1.length ≤ 100000 ∧ x.2.2.2.2.length ≤ 100000) :
    Calls Tryz.prog 9 #[.agg #[.slice A n c, .slice A2 n2 c2], .string s] w (Fnde Y s w) := by
  have H := Lib.hid h
  have HL := Lib.hid h.nl
  have HR := Lib.hid hr
  have HS := Lib.hid hs
  have HFN := Lib.hid (fun (W : World) (g : GrIs W A n A2 n2 X Y) => g.finde c2 s (by omega) hr)
  clear h hr hs
  have HB1 := Lib.hid (Below.refl w.heap.size w)
  have HF2 := Lib.hid (blk_new w (.cells #[.slice A n c, .slice A2 n2 c2] 25 (0, 0)))
  have HB3 := Lib.hid (HB1.out.alloc HB1.out.size (.cells #[.slice A n c, .slice A2 n2 c2] 25 (0, 0)))
  clear HB1
  have HF4 := Lib.hid (blk_alloc HF2.out (.cells #[.string ⟨#[]⟩, .string ⟨#[]⟩, .string ⟨#[]⟩, .slice none 0 0, .slice none 0 0] 36 (0, 0)))
  clear HF2
  have HF5 : Hid (((w.alloc (.cells #[.slice A n c, .slice A2 n2 c2] 25 (0, 0))).alloc (.cells #[.string ⟨#[]⟩, .string ⟨#[]⟩, .string ⟨#[]⟩, .slice none 0 0, .slice none 0 0] 36 (0, 0))).heap[w.heap.size + 1]? = some (.cells #[.string ⟨#[]⟩, .string ⟨#[]⟩, .string ⟨#[]⟩, .slice none 0 0, .slice none 0 0] 36 (0, 0))) := Lib.hid (blk_newN (W := (w.alloc (.cells #[.slice A n c, .slice A2 n2 c2] 25 (0, 0)))) (o := (.cells #[.string ⟨#[]⟩, .string ⟨#[]⟩, .string ⟨#[]⟩, .slice none 0 0, .slice none 0 0] 36 (0, 0))) (by simp))
  have HB6 := Lib.hid (HB3.out.alloc (by have := HB3.out.size; simp at this ⊢ <;> omega) (.cells #[.string ⟨#[]⟩, .string ⟨#[]⟩, .string ⟨#[]⟩, .slice none 0 0, .slice none 0 0] 36 (0, 0)))
  clear HB3
  obtain ⟨v, hv⟩ : ∃ v, v = ((w.alloc (.cells #[.slice A n c, .slice A2 n2 c2] 25 (0, 0))).alloc (.cells #[.string ⟨#[]⟩, .string ⟨#[]⟩, .string ⟨#[]⟩, .slice none 0 0, .slice none 0 0] 36 (0, 0))) := ⟨_, rfl⟩
  have HVv := Lib.hid hv
  rw [← hv] at HF4 HF5 HB6
  clear hv
  go_enter Tryz.func9, Tryz.ntmps9
  go_upto_region 1 with (fail)
  rw [← HVv.out]
  have hc7 : v.cell? ⟨w.heap.size, 0, none⟩ = some (.slice A n c) := by rw [cell_of_row _ _ _ _ _ _ HF4.out]; rfl
  have hc8 : v.cell? ⟨w.heap.size, 1, none⟩ = some (.slice A2 n2 c2) := by rw [cell_of_row _ _ _ _ _ _ HF4.out]; rfl
  go_wp2_with fail
  obtain ⟨K, hK⟩ : ∃ K, K = lessN (keys1 Y) s := ⟨_, rfl⟩
  rw [← hK] at HFN
  have HKE := Lib.hid hK
  clear hK
  cases hm : inB (keys1 Y) s
  · rw [hm] at HFN
    refine (HFN.out v (H.out.below HB6.out)).mono ?_
    rintro e w1 ⟨rfl, hb1⟩
    clear hc7 hc8
    have HF9 := Lib.hid (blk_below HF4.out hb1)
    have HF10 := Lib.hid (blk_below HF5.out hb1)
    have HB11 := Lib.hid (HB6.out.trans (hb1.mono HB6.out.size))
    clear hb1 HB6 HF4 HF5
    go_wp2_with (first
      | refine wpList_store_rowY rfl 36 (.tmp 4) (.tmp 17) rfl (w.heap.size + 1) #[.string ⟨#[]⟩, .string ⟨#[]⟩, .string ⟨#[]⟩, .slice none 0 0, .slice none 0 0] rfl rfl 36 _ HF10.out ((by kernel_rfl)) rfl ((by simp [Value.oneCell'])) w.heap.size w HB11.out (by omega) ?_)
    intro w2 hbk hoth hbel _
    have HF12 := Lib.hid (blk_oth HF9.out hoth.out (by omega))
    have HF13 := Lib.hid hbk.out
    have HB14 := Lib.hid hbel.out
    clear hbk hoth hbel HB11 HF9 HF10
    go_wp2_with fail
    refine bodyPost_ret (results_ctY rfl _ _ (w.heap.size + 1) #[.string ⟨#[]⟩, .string ⟨#[]⟩, .string ⟨#[]⟩, .slice none 0 0, .slice none 0 0] rfl (run_loadVar_row _ (w.heap.size + 1) 36 36 _ (0, 0) _ HF13.out Tryz.underlying36 rfl (by kernel_rfl))) rfl ?_
    exact ⟨fun e => (by rw [hm] at e; cases e), fun _ => ⟨rfl, HB14.out⟩⟩
  · rw [hm] at HFN
    refine (HFN.out v (H.out.below HB6.out)).mono ?_
    rintro e w1 ⟨rfl, hb1⟩
    clear hc7 hc8
    have HF9 := Lib.hid (blk_below HF4.out hb1)
    have HF10 := Lib.hid (blk_below HF5.out hb1)
    have HB11 := Lib.hid (HB6.out.trans (hb1.mono HB6.out.size))
    clear hb1 HB6 HF4 HF5
    obtain ⟨hk1, hk2⟩ := key_at HR.out hm
    rw [← HKE.out] at hk1
    have hkn : K < n2 := by rw [HL.out.2]; exact hk1
    obtain ⟨x, hx⟩ : ∃ x, Y[K]? = some x := ⟨_, List.getElem?_eq_getElem hk1⟩
    have hsm := HS.out x (List.mem_of_getElem? hx)
    have HX := Lib.hid (show Y[lessN (keys1 Y) s]? = some x by rw [← HKE.out]; exact hx)
    obtain ⟨b1, o1, L1, q1, r1, M1, rfl, x0, x1, x2, x3, x4, hp1⟩ := (H.out.below HB11.out).edge hkn hx
    obtain ⟨i, f, g, ss, ps⟩ := x
    dsimp only at x0 x1 x2 x3 x4 hp1 hsm
    have HC := Lib.hid (fun (W : World) (g1 : LP W L1 ss.length ss M1 ps.length ps) => ownedge_any i f g L1 ss.length q1 M1 ps.length r1 ss ps W g1 hsm.1 hsm.2)
    have HP1 := Lib.hid hp1
    clear hp1 hsm hk2 hx
    have hi0 : (0 : Int) ≤ (K : Int) := by omega
    have hi1 : (K : Int) < (n2 : Int) := by omega
    generalize ss.length = ns at *
    generalize ps.length = np at *
    have hc12 : w1.cell? ⟨w.heap.size, 0, none⟩ = some (.slice A n c) := by rw [cell_of_row _ _ _ _ _ _ HF9.out]; rfl
    have hc13 : w1.cell? ⟨w.heap.size, 1, none⟩ = some (.slice (some ⟨b1, o1, none⟩) n2 c2) := by rw [cell_of_row _ _ _ _ _ _ HF9.out]; rfl
    go_wp2_with fail
    clear x0 x1 x2 x3 x4
    refine (HC.out w1 HP1.out).mono ?_
    rintro e w2 ⟨⟨a1, a2, a3⟩, ⟨b1, b2, b3⟩, rfl, hpo, hb2⟩
    clear hc12 hc13
    have HF14 := Lib.hid (blk_below HF9.out hb2)
    have HF15 := Lib.hid (blk_below HF10.out hb2)
    have HB16 := Lib.hid (HB11.out.trans (hb2.mono HB11.out.size))
    clear hb2 HB11 HF9 HF10
    have HPl := Lib.hid hpo.l
    have HPp := Lib.hid hpo.p
    clear hpo
    simp only [slV] at HPl HPp ⊢
    go_wp2_with (first
      | refine wpList_store_rowY rfl 36 (.tmp 4) (.tmp 23) rfl (w.heap.size + 1) #[.string i, .string f, .string g, .slice a1 a2 a3, .slice b1 b2 b3] rfl rfl 36 _ HF15.out ((by kernel_rfl)) rfl ((by simp [Value.oneCell'])) w.heap.size w HB16.out (by omega) ?_)
    intro w3 hbk hoth hbel _
    have HPl17 := Lib.hid (HPl.out.oth hoth.out HF15.out (by decide))
    have HPp18 := Lib.hid (HPp.out.oth hoth.out HF15.out (by decide))
    have HF19 := Lib.hid (blk_oth HF14.out hoth.out (by omega))
    have HF20 := Lib.hid hbk.out
    have HB21 := Lib.hid hbel.out
    clear hbk hoth hbel HB16 HF14 HF15
    go_wp2_with fail
    refine bodyPost_ret (results_ctY rfl _ _ (w.heap.size + 1) #[.string i, .string f, .string g, .slice a1 a2 a3, .slice b1 b2 b3] rfl (run_loadVar_row _ (w.heap.size + 1) 36 36 _ (0, 0) _ HF20.out Tryz.underlying36 rfl (by kernel_rfl))) rfl ?_
    exact ⟨fun _ => ⟨(i, f, g, ss, ps), ⟨a1, a2, a3⟩, ⟨b1, b2, b3⟩, HX.out, rfl, ⟨HPl17.out, HPp18.out⟩, HB21.out⟩, fun e => (by rw [hm] at e; cases e)⟩
end Go.Proofs.YtagenkofoacajaaGreat
namespace Go.Proofs.YtagenkofoacajaaGreat
open Go.RowKit Vi

def pOut (s : ByteArray) (y : Ed) : Bool := y.2.1.toList == s.toList
def pIn (s : ByteArray) (y : Ed) : Bool := y.2.2.1.toList == s.toList
def pLab (s : ByteArray) (x : Nd) : Bool := inB x.2.1 s
theorem filt_takeG {α : Type} (p : α → Bool) {X : List α} {k : Nat} {x : α} (h : X[k]? = some x) : (X.take (k + 1)).filter p = (X.take k).filter p ++ (if p x = true then [x] else []) := by
  obtain ⟨hl, rfl⟩ := List.getElem?_eq_some_iff.1 h
  rw [List.take_succ_eq_append_getElem hl, List.filter_append]
  congr 1
  cases q : p X[k] <;> simp [q]
theorem filt_leG {α : Type} (p : α → Bool) (X : List α) (k : Nat) : ((X.take k).filter p).length ≤ k := Nat.le_trans (List.length_filter_le _ _) (by rw [List.length_take]; omega)
set_option maxRecDepth 100000 in
theorem out1_any (i f g : ByteArray) (L1 : Option Addr) (ns q1 : Nat) (M1 : Option Addr) (np r1 : Nat) (I : Nat) (s : ByteArray) (w : World) (hI : w.heap[I]? = some (.cells #[.string s] 9 (0, 0))) :
    Calls Tryz.prog 38 #[.agg #[.string i, .string f, .string g, .slice L1 ns q1, .slice M1 np r1], .pointer (some ⟨I, 0, none⟩)] w fun e w' => e = .returned (.bool (f.toList == s.toList)) ∧ Below w.heap.size w w' := by
  have HI := Lib.hid hI
  have hIl : I < w.heap.size := lt_of_block hI
  clear hI
  have HB1 := Lib.hid (Below.refl w.heap.size w)
  go_enter Tryz.func38, Tryz.ntmps38
  have HF2 := Lib.hid (blk_new w (.cells #[.string i, .string f, .string g, .slice L1 ns q1, .slice M1 np r1] 36 (0, 0)))
  have HB3 := Lib.hid (HB1.out.alloc HB1.out.size (.cells #[.string i, .string f, .string g, .slice L1 ns q1, .slice M1 np r1] 36 (0, 0)))
  clear HB1
  have hc4 : (w.alloc (.cells #[.string i, .string f, .string g, .slice L1 ns q1, .slice M1 np r1] 36 (0, 0))).cell? ⟨w.heap.size, 0, none⟩ = some (.string i) := by rw [cell_of_row _ _ _ _ _ _ HF2.out]; rfl
  have hc5 : (w.alloc (.cells #[.string i, .string f, .string g, .slice L1 ns q1, .slice M1 np r1] 36 (0, 0))).cell? ⟨w.heap.size, 1, none⟩ = some (.string f) := by rw [cell_of_row _ _ _ _ _ _ HF2.out]; rfl
  have hc6 : (w.alloc (.cells #[.string i, .string f, .string g, .slice L1 ns q1, .slice M1 np r1] 36 (0, 0))).cell? ⟨w.heap.size, 2, none⟩ = some (.string g) := by rw [cell_of_row _ _ _ _ _ _ HF2.out]; rfl
  have hc7 : (w.alloc (.cells #[.string i, .string f, .string g, .slice L1 ns q1, .slice M1 np r1] 36 (0, 0))).cell? ⟨w.heap.size, 3, none⟩ = some (.slice L1 ns q1) := by rw [cell_of_row _ _ _ _ _ _ HF2.out]; rfl
  have hc8 : (w.alloc (.cells #[.string i, .string f, .string g, .slice L1 ns q1, .slice M1 np r1] 36 (0, 0))).cell? ⟨w.heap.size, 4, none⟩ = some (.slice M1 np r1) := by rw [cell_of_row _ _ _ _ _ _ HF2.out]; rfl
  have y0 : (w.alloc (.cells #[.string i, .string f, .string g, .slice L1 ns q1, .slice M1 np r1] 36 (0, 0))).cell? ⟨I, 0, none⟩ = some (.string s) := (cell_of_row _ _ 0 _ _ _ (blk_alloc HI.out (.cells #[.string i, .string f, .string g, .slice L1 ns q1, .slice M1 np r1] 36 (0, 0)))).trans rfl
  have hne : ¬ I = w.heap.size := by omega
  go_wp2_with fail
  go_ret
  exact ⟨rfl, HB3.out⟩
set_option maxRecDepth 100000 in
set_option maxHeartbeats 4000000 in
theorem pickout_any (A A2 : Option Addr) (n c2 n2 : Nat) (X : List Nd) (Y : List Ed) (I : Nat) (s : ByteArray) (w : World) (h : GrIs w A n A2 n2 X Y) (hI : w.heap[I]? = some (.cells #[.string s] 9 (0, 0))) (hn : n2 ≤ 1000) (hs : ∀ x ∈ Y, x.2.2.2.1.length ≤ 100000 ∧ x.2.2.2.2.length ≤ 100000) :
    Calls Tryz.prog 37 #[.slice A2 n2 c2, .func (.func 34) #[] #[], .func (.func 38) #[] #[.pointer (some ⟨I, 0, none⟩)]] w (Picke (Y.filter (pOut s)) w) := by
  have H := Lib.hid h
  have HL := Lib.hid h.nl
  have HS := Lib.hid hs
  have HI := Lib.hid hI
  clear h hs hI
  go_enter Tryz.func37, Tryz.ntmps37
  go_wp2_with fail
  go_loopw [7, 12] (fun v i wr => ∃ (k : Nat) (R : List EdR), i = .int .i64 (k : Int) ∧ k ≤ n2 ∧ OwX edC 5 36 wr w.heap.size v R ∧ EdsOwn wr R ((Y.take k).filter (pOut s)) ∧ Below w.heap.size w wr) (fun _ i _ => n2 - (intOf i).toNat)
  case atStart => exact ⟨0, [], rfl, Nat.zero_le _, OwX.nil w, EdsOwn.nil w, Below.refl _ _⟩
  case round =>
    obtain ⟨k, R, rfl, hk, hox, hds, hb⟩ := hrel
    have HB := Lib.hid hb
    have HO := Lib.hid hox
    have HD := Lib.hid hds
    have hsz := hb.size
    obtain ⟨av, nv, cv, rfl⟩ := hox.sl3
    clear hb hox hds
    by_cases hlt : k < n2
    · have hd1 : decide ((k : Int) < (n2 : Int)) = true := decide_eq_true (by omega)
      have hi0 : (0 : Int) ≤ (k : Int) := by omega
      have hkl : k < Y.length := by have := HL.out.2; omega
      obtain ⟨x, hxx⟩ : ∃ x, x = Y[k] := ⟨_, rfl⟩
      have HK := Lib.hid (show Y[k]? = some x by rw [List.getElem?_eq_getElem hkl, hxx])
      have HTA := Lib.hid (filt_takeG (pOut s) HK.out)
      have hsm := HS.out x (by rw [hxx]; exact List.getElem_mem hkl)
      clear hxx
      obtain ⟨b1, o1, L1, q1, r1, M1, rfl, x0, x1, x2, x3, x4, hp1⟩ := (H.out.below HB.out).edge hlt HK.out
      have HFL := Lib.hid (filt_leG (pOut s) Y k)
      obtain ⟨pv, hpv⟩ : ∃ pv, pv = pOut s x := ⟨_, rfl⟩
      rw [← hpv] at HTA
      have HPV := Lib.hid hpv
      clear hpv
      obtain ⟨i, f, g, ss, ps⟩ := x
      dsimp only at x0 x1 x2 x3 x4 hp1 hsm
      have HC := Lib.hid (fun (W : World) (g1 : LP W L1 ss.length ss M1 ps.length ps) => ownedge_any i f g L1 ss.length q1 M1 ps.length r1 ss ps W g1 hsm.1 hsm.2)
      have HCL := Lib.hid (fun (W : World) (g1 : W.heap[I]? = some (.cells #[.string s] 9 (0, 0))) => (by rw [HPV.out]; exact out1_any i f g L1 ss.length q1 M1 ps.length r1 I s W g1 : Calls Tryz.prog 38 #[.agg #[.string i, .string f, .string g, .slice L1 ss.length q1, .slice M1 ps.length r1], .pointer (some ⟨I, 0, none⟩)] W fun e w' => e = .returned (.bool pv) ∧ Below W.heap.size W w'))
      have HP1 := Lib.hid hp1
      have HI1 := Lib.hid (blk_below HI.out HB.out)
      clear hp1 hsm
      generalize ss.length = ns at *
      generalize ps.length = np at *
      have HB0 := Lib.hid (Below.refl wr.heap.size wr)
      have HF101 := Lib.hid (blk_new wr (.cells #[.string i, .string f, .string g, .slice L1 ns q1, .slice M1 np r1] 36 (0, 0)))
      have HB102 := Lib.hid (HB0.out.alloc HB0.out.size (.cells #[.string i, .string f, .string g, .slice L1 ns q1, .slice M1 np r1] 36 (0, 0)))
      clear HB0
      have hc103 : (wr.alloc (.cells #[.string i, .string f, .string g, .slice L1 ns q1, .slice M1 np r1] 36 (0, 0))).cell? ⟨wr.heap.size, 0, none⟩ = some (.string i) := by rw [cell_of_row _ _ _ _ _ _ HF101.out]; rfl
      have hc104 : (wr.alloc (.cells #[.string i, .string f, .string g, .slice L1 ns q1, .slice M1 np r1] 36 (0, 0))).cell? ⟨wr.heap.size, 1, none⟩ = some (.string f) := by rw [cell_of_row _ _ _ _ _ _ HF101.out]; rfl
      have hc105 : (wr.alloc (.cells #[.string i, .string f, .string g, .slice L1 ns q1, .slice M1 np r1] 36 (0, 0))).cell? ⟨wr.heap.size, 2, none⟩ = some (.string g) := by rw [cell_of_row _ _ _ _ _ _ HF101.out]; rfl
      have hc106 : (wr.alloc (.cells #[.string i, .string f, .string g, .slice L1 ns q1, .slice M1 np r1] 36 (0, 0))).cell? ⟨wr.heap.size, 3, none⟩ = some (.slice L1 ns q1) := by rw [cell_of_row _ _ _ _ _ _ HF101.out]; rfl
      have hc107 : (wr.alloc (.cells #[.string i, .string f, .string g, .slice L1 ns q1, .slice M1 np r1] 36 (0, 0))).cell? ⟨wr.heap.size, 4, none⟩ = some (.slice M1 np r1) := by rw [cell_of_row _ _ _ _ _ _ HF101.out]; rfl
      go_wp2_with fail
      clear hc103 hc104 hc105 hc106 hc107
      clear x0 x1 x2 x3 x4
      refine (HCL.out (wr.alloc (.cells #[.string i, .string f, .string g, .slice L1 ns q1, .slice M1 np r1] 36 (0, 0))) (blk_below HI1.out HB102.out)).mono ?_
      rintro e w11 ⟨rfl, hb11⟩
      have HF108 := Lib.hid (blk_below HF101.out hb11)
      have HB109 := Lib.hid (HB102.out.trans (hb11.mono HB102.out.size))
      clear hb11 HB102 HF101
      clear HPV
      cases pv
      · have HO1 := Lib.hid (HO.out.kept HB109.out)
        have HD1 := Lib.hid (HD.out.below HB109.out)
        have HBa := Lib.hid (HB.out.trans (HB109.out.mono HB.out.size))
        rw [if_neg Bool.false_ne_true, List.append_nil] at HTA
        go_wp2_with fail
        go_roundw
        case rel => exact ⟨k + 1, R, by go_num, by omega, HO1.out, by rw [HTA.out]; exact HD1.out, HBa.out⟩
        case measure => simp [intOf] <;> omega
      · rw [if_pos rfl] at HTA
        have hc110 : w11.cell? ⟨wr.heap.size, 0, none⟩ = some (.string i) := by rw [cell_of_row _ _ _ _ _ _ HF108.out]; rfl
        have hc111 : w11.cell? ⟨wr.heap.size, 1, none⟩ = some (.string f) := by rw [cell_of_row _ _ _ _ _ _ HF108.out]; rfl
        have hc112 : w11.cell? ⟨wr.heap.size, 2, none⟩ = some (.string g) := by rw [cell_of_row _ _ _ _ _ _ HF108.out]; rfl
        have hc113 : w11.cell? ⟨wr.heap.size, 3, none⟩ = some (.slice L1 ns q1) := by rw [cell_of_row _ _ _ _ _ _ HF108.out]; rfl
        have hc114 : w11.cell? ⟨wr.heap.size, 4, none⟩ = some (.slice M1 np r1) := by rw [cell_of_row _ _ _ _ _ _ HF108.out]; rfl
        go_wp2_with fail
        clear hc110 hc111 hc112 hc113 hc114
        refine (HC.out w11 (HP1.out.below HB109.out)).mono ?_
        rintro e w12 ⟨⟨a1, a2, a3⟩, ⟨b1, b2, b3⟩, rfl, hpo, hb12⟩
        have HF115 := Lib.hid (blk_below HF108.out hb12)
        have HB116 := Lib.hid (HB109.out.trans (hb12.mono (by have := HB109.out.size; simp at this ⊢ <;> omega)))
        clear hb12 HB109 HF108
        have HPO := Lib.hid hpo
        clear hpo
        simp only [slV]
        have HO1 := Lib.hid (HO.out.kept HB116.out)
        have HD1 := Lib.hid (HD.out.below HB116.out)
        have HBa := Lib.hid (HB.out.trans (HB116.out.mono HB.out.size))
        have hz1 := HB116.out.size
        go_wp2_with (at_builtin; refine wpList_appX rfl (.tmp 19) (.tmp 23) 23 36 _ 96 rfl Tryz.underlying23 info_edB rfl (by omega) (by omega) edC_len edC_one w.heap.size w (HBa.out.alloc HBa.out.size _) (by have := HBa.out.size; simp at this ⊢ <;> omega) (.slice av nv cv) R rfl (HO1.out.alloc _) w12.heap.size 1 (i, f, g, ⟨a1, a2, a3⟩, ⟨b1, b2, b3⟩) #[.string i, .string f, .string g, .slice a1 a2 a3, .slice b1 b2 b3] 36 (0, 0) rfl (heap_alloc_new w12 _) rfl (by rw [HD1.out.len]; have := HFL.out; omega) ?_)
        intro v2 w12 HO2 HB2 HZ2 HG2
        have hv2 := HO2.out.one
        have HDa := Lib.hid ((HD1.out.below ((Below.refl _ _).alloc (Nat.le_refl _) _)).other (HO1.out.alloc _) (by decide) (by decide) HG2.out)
        have HPa := Lib.hid ((HPO.out.below ((Below.refl _ _).alloc (Nat.le_refl _) _)).other (HO1.out.alloc _) (by decide) (by decide) HG2.out)
        go_wp2_with fail
        go_roundw
        case rel => exact ⟨k + 1, R ++ [(i, f, g, ⟨a1, a2, a3⟩, ⟨b1, b2, b3⟩)], by go_num, by omega, HO2.out, by rw [HTA.out]; exact HDa.out.snoc rfl rfl rfl HPa.out, HB2.out⟩
        case measure => simp [intOf] <;> omega
    · have hd1 : decide ((k : Int) < (n2 : Int)) = false := decide_eq_false (by omega)
      have HE := Lib.hid (show Y.take k = Y from List.take_of_length_le (by have := HL.out.2; omega))
      rw [HE.out] at HD
      go_wp2_with fail
      go_ret
      exact ⟨.slice av nv cv, R, rfl, HO.out, HD.out, HB.out⟩
set_option maxRecDepth 100000 in
set_option maxHeartbeats 4000000 in
theorem gout_any (A A2 : Option Addr) (n c n2 c2 : Nat) (X : List Nd) (Y : List Ed) (s : ByteArray) (w : World) (h : GrIs w A n A2 n2 X Y) (hn : n2 ≤ 1000) (hs : ∀ x ∈ Y, x.2.2.2.1.length ≤ 100000 ∧ x.2.2.2.2.length ≤ 100000) :
    Calls Tryz.prog 15 #[.agg #[.slice A n c, .slice A2 n2 c2], .string s] w (Picke (Y.filter (pOut s)) w) := by
  have H := Lib.hid h
  have HPK := Lib.hid (fun (I : Nat) (W : World) (g1 : GrIs W A n A2 n2 X Y) (g2 : W.heap[I]? = some (.cells #[.string s] 9 (0, 0))) => pickout_any A A2 n c2 n2 X Y I s W g1 g2 hn hs)
  clear h hs
  have HB1 := Lib.hid (Below.refl w.heap.size w)
  go_enter Tryz.func15, Tryz.ntmps15
  have HF2 := Lib.hid (blk_new w (.cells #[.slice A n c, .slice A2 n2 c2] 25 (0, 0)))
  have HB3 := Lib.hid (HB1.out.alloc HB1.out.size (.cells #[.slice A n c, .slice A2 n2 c2] 25 (0, 0)))
  clear HB1
  have HF4 := Lib.hid (blk_alloc HF2.out (.cells #[.string s] 9 (0, 0)))
  clear HF2
  have HF5 : Hid (((w.alloc (.cells #[.slice A n c, .slice A2 n2 c2] 25 (0, 0))).alloc (.cells #[.string s] 9 (0, 0))).heap[w.heap.size + 1]? = some (.cells #[.string s] 9 (0, 0))) := Lib.hid (blk_newN (W := (w.alloc (.cells #[.slice A n c, .slice A2 n2 c2] 25 (0, 0)))) (o := (.cells #[.string s] 9 (0, 0))) (by simp))
  have HB6 := Lib.hid (HB3.out.alloc (by have := HB3.out.size; simp at this ⊢ <;> omega) (.cells #[.string s] 9 (0, 0)))
  clear HB3
  have hc7 : ((w.alloc (.cells #[.slice A n c, .slice A2 n2 c2] 25 (0, 0))).alloc (.cells #[.string s] 9 (0, 0))).cell? ⟨w.heap.size, 0, none⟩ = some (.slice A n c) := by rw [cell_of_row _ _ _ _ _ _ HF4.out]; rfl
  have hc8 : ((w.alloc (.cells #[.slice A n c, .slice A2 n2 c2] 25 (0, 0))).alloc (.cells #[.string s] 9 (0, 0))).cell? ⟨w.heap.size, 1, none⟩ = some (.slice A2 n2 c2) := by rw [cell_of_row _ _ _ _ _ _ HF4.out]; rfl
  go_wp2_with fail
  clear hc7 hc8
  refine (HPK.out _ _ (H.out.below HB6.out) HF5.out).mono ?_
  rintro e w1 ⟨v1, R1, rfl, ho, hd, hb⟩
  have HO1 := Lib.hid (ho.mono (B' := w.heap.size) HB6.out.size)
  have HD1 := Lib.hid hd
  have HB1 := Lib.hid (HB6.out.trans (hb.mono HB6.out.size))
  clear hb ho hd
  go_wp2_with fail
  go_ret
  exact ⟨_, R1, rfl, HO1.out, HD1.out, HB1.out⟩
set_option maxRecDepth 100000 in
theorem in1_any (i f g : ByteArray) (L1 : Option Addr) (ns q1 : Nat) (M1 : Option Addr) (np r1 : Nat) (I : Nat) (s : ByteArray) (w : World) (hI : w.heap[I]? = some (.cells #[.string s] 9 (0, 0))) :
    Calls Tryz.prog 39 #[.agg #[.string i, .string f, .string g, .slice L1 ns q1, .slice M1 np r1], .pointer (some ⟨I, 0, none⟩)] w fun e w' => e = .returned (.bool (g.toList == s.toList)) ∧ Below w.heap.size w w' := by
  have HI := Lib.hid hI
  have hIl : I < w.heap.size := lt_of_block hI
  clear hI
  have HB1 := Lib.hid (Below.refl w.heap.size w)
  go_enter Tryz.func39, Tryz.ntmps39
  have HF2 := Lib.hid (blk_new w (.cells #[.string i, .string f, .string g, .slice L1 ns q1, .slice M1 np r1] 36 (0, 0)))
  have HB3 := Lib.hid (HB1.out.alloc HB1.out.size (.cells #[.string i, .string f, .string g, .slice L1 ns q1, .slice M1 np r1] 36 (0, 0)))
  clear HB1
  have hc4 : (w.alloc (.cells #[.string i, .string f, .string g, .slice L1 ns q1, .slice M1 np r1] 36 (0, 0))).cell? ⟨w.heap.size, 0, none⟩ = some (.string i) := by rw [cell_of_row _ _ _ _ _ _ HF2.out]; rfl
  have hc5 : (w.alloc (.cells #[.string i, .string f, .string g, .slice L1 ns q1, .slice M1 np r1] 36 (0, 0))).cell? ⟨w.heap.size, 1, none⟩ = some (.string f) := by rw [cell_of_row _ _ _ _ _ _ HF2.out]; rfl
  have hc6 : (w.alloc (.cells #[.string i, .string f, .string g, .slice L1 ns q1, .slice M1 np r1] 36 (0, 0))).cell? ⟨w.heap.size, 2, none⟩ = some (.string g) := by rw [cell_of_row _ _ _ _ _ _ HF2.out]; rfl
  have hc7 : (w.alloc (.cells #[.string i, .string f, .string g, .slice L1 ns q1, .slice M1 np r1] 36 (0, 0))).cell? ⟨w.heap.size, 3, none⟩ = some (.slice L1 ns q1) := by rw [cell_of_row _ _ _ _ _ _ HF2.out]; rfl
  have hc8 : (w.alloc (.cells #[.string i, .string f, .string g, .slice L1 ns q1, .slice M1 np r1] 36 (0, 0))).cell? ⟨w.heap.size, 4, none⟩ = some (.slice M1 np r1) := by rw [cell_of_row _ _ _ _ _ _ HF2.out]; rfl
  have y0 : (w.alloc (.cells #[.string i, .string f, .string g, .slice L1 ns q1, .slice M1 np r1] 36 (0, 0))).cell? ⟨I, 0, none⟩ = some (.string s) := (cell_of_row _ _ 0 _ _ _ (blk_alloc HI.out (.cells #[.string i, .string f, .string g, .slice L1 ns q1, .slice M1 np r1] 36 (0, 0)))).trans rfl
  have hne : ¬ I = w.heap.size := by omega
  go_wp2_with fail
  go_ret
  exact ⟨rfl, HB3.out⟩
set_option maxRecDepth 100000 in
set_option maxHeartbeats 4000000 in
theorem pickin_any (A A2 : Option Addr) (n c2 n2 : Nat) (X : List Nd) (Y : List Ed) (I : Nat) (s : ByteArray) (w : World) (h : GrIs w A n A2 n2 X Y) (hI : w.heap[I]? = some (.cells #[.string s] 9 (0, 0))) (hn : n2 ≤ 1000) (hs : ∀ x ∈ Y, x.2.2.2.1.length ≤ 100000 ∧ x.2.2.2.2.length ≤ 100000) :
    Calls Tryz.prog 37 #[.slice A2 n2 c2, .func (.func 34) #[] #[], .func (.func 39) #[] #[.pointer (some ⟨I, 0, none⟩)]] w (Picke (Y.filter (pIn s)) w) := by
  have H := Lib.hid h
  have HL := Lib.hid h.nl
  have HS := Lib.hid hs
  have HI := Lib.hid hI
  clear h hs hI
  go_enter Tryz.func37, Tryz.ntmps37
  go_wp2_with fail
  go_loopw [7, 12] (fun v i wr => ∃ (k : Nat) (R : List EdR), i = .int .i64 (k : Int) ∧ k ≤ n2 ∧ OwX edC 5 36 wr w.heap.size v R ∧ EdsOwn wr R ((Y.take k).filter (pIn s)) ∧ Below w.heap.size w wr) (fun _ i _ => n2 - (intOf i).toNat)
  case atStart => exact ⟨0, [], rfl, Nat.zero_le _, OwX.nil w, EdsOwn.nil w, Below.refl _ _⟩
  case round =>
    obtain ⟨k, R, rfl, hk, hox, hds, hb⟩ := hrel
    have HB := Lib.hid hb
    have HO := Lib.hid hox
    have HD := Lib.hid hds
    have hsz := hb.size
    obtain ⟨av, nv, cv, rfl⟩ := hox.sl3
    clear hb hox hds
    by_cases hlt : k < n2
    · have hd1 : decide ((k : Int) < (n2 : Int)) = true := decide_eq_true (by omega)
      have hi0 : (0 : Int) ≤ (k : Int) := by omega
      have hkl : k < Y.length := by have := HL.out.2; omega
      obtain ⟨x, hxx⟩ : ∃ x, x = Y[k] := ⟨_, rfl⟩
      have HK := Lib.hid (show Y[k]? = some x by rw [List.getElem?_eq_getElem hkl, hxx])
      have HTA := Lib.hid (filt_takeG (pIn s) HK.out)
      have hsm := HS.out x (by rw [hxx]; exact List.getElem_mem hkl)
      clear hxx
      obtain ⟨b1, o1, L1, q1, r1, M1, rfl, x0, x1, x2, x3, x4, hp1⟩ := (H.out.below HB.out).edge hlt HK.out
      have HFL := Lib.hid (filt_leG (pIn s) Y k)
      obtain ⟨pv, hpv⟩ : ∃ pv, pv = pIn s x := ⟨_, rfl⟩
      rw [← hpv] at HTA
      have HPV := Lib.hid hpv
      clear hpv
      obtain ⟨i, f, g, ss, ps⟩ := x
      dsimp only at x0 x1 x2 x3 x4 hp1 hsm
      have HC := Lib.hid (fun (W : World) (g1 : LP W L1 ss.length ss M1 ps.length ps) => ownedge_any i f g L1 ss.length q1 M1 ps.length r1 ss ps W g1 hsm.1 hsm.2)
      have HCL := Lib.hid (fun (W : World) (g1 : W.heap[I]? = some (.cells #[.string s] 9 (0, 0))) => (by rw [HPV.out]; exact in1_any i f g L1 ss.length q1 M1 ps.length r1 I s W g1 : Calls Tryz.prog 39 #[.agg #[.string i, .string f, .string g, .slice L1 ss.length q1, .slice M1 ps.length r1], .pointer (some ⟨I, 0, none⟩)] W fun e w' => e = .returned (.bool pv) ∧ Below W.heap.size W w'))
      have HP1 := Lib.hid hp1
      have HI1 := Lib.hid (blk_below HI.out HB.out)
      clear hp1 hsm
      generalize ss.length = ns at *
      generalize ps.length = np at *
      have HB0 := Lib.hid (Below.refl wr.heap.size wr)
      have HF101 := Lib.hid (blk_new wr (.cells #[.string i, .string f, .string g, .slice L1 ns q1, .slice M1 np r1] 36 (0, 0)))
      have HB102 := Lib.hid (HB0.out.alloc HB0.out.size (.cells #[.string i, .string f, .string g, .slice L1 ns q1, .slice M1 np r1] 36 (0, 0)))
      clear HB0
      have hc103 : (wr.alloc (.cells #[.string i, .string f, .string g, .slice L1 ns q1, .slice M1 np r1] 36 (0, 0))).cell? ⟨wr.heap.size, 0, none⟩ = some (.string i) := by rw [cell_of_row _ _ _ _ _ _ HF101.out]; rfl
      have hc104 : (wr.alloc (.cells #[.string i, .string f, .string g, .slice L1 ns q1, .slice M1 np r1] 36 (0, 0))).cell? ⟨wr.heap.size, 1, none⟩ = some (.string f) := by rw [cell_of_row _ _ _ _ _ _ HF101.out]; rfl
      have hc105 : (wr.alloc (.cells #[.string i, .string f, .string g, .slice L1 ns q1, .slice M1 np r1] 36 (0, 0))).cell? ⟨wr.heap.size, 2, none⟩ = some (.string g) := by rw [cell_of_row _ _ _ _ _ _ HF101.out]; rfl
      have hc106 : (wr.alloc (.cells #[.string i, .string f, .string g, .slice L1 ns q1, .slice M1 np r1] 36 (0, 0))).cell? ⟨wr.heap.size, 3, none⟩ = some (.slice L1 ns q1) := by rw [cell_of_row _ _ _ _ _ _ HF101.out]; rfl
      have hc107 : (wr.alloc (.cells #[.string i, .string f, .string g, .slice L1 ns q1, .slice M1 np r1] 36 (0, 0))).cell? ⟨wr.heap.size, 4, none⟩ = some (.slice M1 np r1) := by rw [cell_of_row _ _ _ _ _ _ HF101.out]; rfl
      go_wp2_with fail
      clear hc103 hc104 hc105 hc106 hc107
      clear x0 x1 x2 x3 x4
      refine (HCL.out (wr.alloc (.cells #[.string i, .string f, .string g, .slice L1 ns q1, .slice M1 np r1] 36 (0, 0))) (blk_below HI1.out HB102.out)).mono ?_
      rintro e w11 ⟨rfl, hb11⟩
      have HF108 := Lib.hid (blk_below HF101.out hb11)
      have HB109 := Lib.hid (HB102.out.trans (hb11.mono HB102.out.size))
      clear hb11 HB102 HF101
      clear HPV
      cases pv
      · have HO1 := Lib.hid (HO.out.kept HB109.out)
        have HD1 := Lib.hid (HD.out.below HB109.out)
        have HBa := Lib.hid (HB.out.trans (HB109.out.mono HB.out.size))
        rw [if_neg Bool.false_ne_true, List.append_nil] at HTA
        go_wp2_with fail
        go_roundw
        case rel => exact ⟨k + 1, R, by go_num, by omega, HO1.out, by rw [HTA.out]; exact HD1.out, HBa.out⟩
        case measure => simp [intOf] <;> omega
      · rw [if_pos rfl] at HTA
        have hc110 : w11.cell? ⟨wr.heap.size, 0, none⟩ = some (.string i) := by rw [cell_of_row _ _ _ _ _ _ HF108.out]; rfl
        have hc111 : w11.cell? ⟨wr.heap.size, 1, none⟩ = some (.string f) := by rw [cell_of_row _ _ _ _ _ _ HF108.out]; rfl
        have hc112 : w11.cell? ⟨wr.heap.size, 2, none⟩ = some (.string g) := by rw [cell_of_row _ _ _ _ _ _ HF108.out]; rfl
        have hc113 : w11.cell? ⟨wr.heap.size, 3, none⟩ = some (.slice L1 ns q1) := by rw [cell_of_row _ _ _ _ _ _ HF108.out]; rfl
        have hc114 : w11.cell? ⟨wr.heap.size, 4, none⟩ = some (.slice M1 np r1) := by rw [cell_of_row _ _ _ _ _ _ HF108.out]; rfl
        go_wp2_with fail
        clear hc110 hc111 hc112 hc113 hc114
        refine (HC.out w11 (HP1.out.below HB109.out)).mono ?_
        rintro e w12 ⟨⟨a1, a2, a3⟩, ⟨b1, b2, b3⟩, rfl, hpo, hb12⟩
        have HF115 := Lib.hid (blk_below HF108.out hb12)
        have HB116 := Lib.hid (HB109.out.trans (hb12.mono (by have := HB109.out.size; simp at this ⊢ <;> omega)))
        clear hb12 HB109 HF108
        have HPO := Lib.hid hpo
        clear hpo
        simp only [slV]
        have HO1 := Lib.hid (HO.out.kept HB116.out)
        have HD1 := Lib.hid (HD.out.below HB116.out)
        have HBa := Lib.hid (HB.out.trans (HB116.out.mono HB.out.size))
        have hz1 := HB116.out.size
        go_wp2_with (at_builtin; refine wpList_appX rfl (.tmp 19) (.tmp 23) 23 36 _ 96 rfl Tryz.underlying23 info_edB rfl (by omega) (by omega) edC_len edC_one w.heap.size w (HBa.out.alloc HBa.out.size _) (by have := HBa.out.size; simp at this ⊢ <;> omega) (.slice av nv cv) R rfl (HO1.out.alloc _) w12.heap.size 1 (i, f, g, ⟨a1, a2, a3⟩, ⟨b1, b2, b3⟩) #[.string i, .string f, .string g, .slice a1 a2 a3, .slice b1 b2 b3] 36 (0, 0) rfl (heap_alloc_new w12 _) rfl (by rw [HD1.out.len]; have := HFL.out; omega) ?_)
        intro v2 w12 HO2 HB2 HZ2 HG2
        have hv2 := HO2.out.one
        have HDa := Lib.hid ((HD1.out.below ((Below.refl _ _).alloc (Nat.le_refl _) _)).other (HO1.out.alloc _) (by decide) (by decide) HG2.out)
        have HPa := Lib.hid ((HPO.out.below ((Below.refl _ _).alloc (Nat.le_refl _) _)).other (HO1.out.alloc _) (by decide) (by decide) HG2.out)
        go_wp2_with fail
        go_roundw
        case rel => exact ⟨k + 1, R ++ [(i, f, g, ⟨a1, a2, a3⟩, ⟨b1, b2, b3⟩)], by go_num, by omega, HO2.out, by rw [HTA.out]; exact HDa.out.snoc rfl rfl rfl HPa.out, HB2.out⟩
        case measure => simp [intOf] <;> omega
    · have hd1 : decide ((k : Int) < (n2 : Int)) = false := decide_eq_false (by omega)
      have HE := Lib.hid (show Y.take k = Y from List.take_of_length_le (by have := HL.out.2; omega))
      rw [HE.out] at HD
      go_wp2_with fail
      go_ret
      exact ⟨.slice av nv cv, R, rfl, HO.out, HD.out, HB.out⟩
set_option maxRecDepth 100000 in
set_option maxHeartbeats 4000000 in
theorem gin_any (A A2 : Option Addr) (n c n2 c2 : Nat) (X : List Nd) (Y : List Ed) (s : ByteArray) (w : World) (h : GrIs w A n A2 n2 X Y) (hn : n2 ≤ 1000) (hs : ∀ x ∈ Y, x.2.2.2.1.length ≤ 100000 ∧ x.2.2.2.2.length ≤ 100000) :
    Calls Tryz.prog 17 #[.agg #[.slice A n c, .slice A2 n2 c2], .string s] w (Picke (Y.filter (pIn s)) w) := by
  have H := Lib.hid h
  have HPK := Lib.hid (fun (I : Nat) (W : World) (g1 : GrIs W A n A2 n2 X Y) (g2 : W.heap[I]? = some (.cells #[.string s] 9 (0, 0))) => pickin_any A A2 n c2 n2 X Y I s W g1 g2 hn hs)
  clear h hs
  have HB1 := Lib.hid (Below.refl w.heap.size w)
  go_enter Tryz.func17, Tryz.ntmps17
  have HF2 := Lib.hid (blk_new w (.cells #[.slice A n c, .slice A2 n2 c2] 25 (0, 0)))
  have HB3 := Lib.hid (HB1.out.alloc HB1.out.size (.cells #[.slice A n c, .slice A2 n2 c2] 25 (0, 0)))
  clear HB1
  have HF4 := Lib.hid (blk_alloc HF2.out (.cells #[.string s] 9 (0, 0)))
  clear HF2
  have HF5 : Hid (((w.alloc (.cells #[.slice A n c, .slice A2 n2 c2] 25 (0, 0))).alloc (.cells #[.string s] 9 (0, 0))).heap[w.heap.size + 1]? = some (.cells #[.string s] 9 (0, 0))) := Lib.hid (blk_newN (W := (w.alloc (.cells #[.slice A n c, .slice A2 n2 c2] 25 (0, 0)))) (o := (.cells #[.string s] 9 (0, 0))) (by simp))
  have HB6 := Lib.hid (HB3.out.alloc (by have := HB3.out.size; simp at this ⊢ <;> omega) (.cells #[.string s] 9 (0, 0)))
  clear HB3
  have hc7 : ((w.alloc (.cells #[.slice A n c, .slice A2 n2 c2] 25 (0, 0))).alloc (.cells #[.string s] 9 (0, 0))).cell? ⟨w.heap.size, 0, none⟩ = some (.slice A n c) := by rw [cell_of_row _ _ _ _ _ _ HF4.out]; rfl
  have hc8 : ((w.alloc (.cells #[.slice A n c, .slice A2 n2 c2] 25 (0, 0))).alloc (.cells #[.string s] 9 (0, 0))).cell? ⟨w.heap.size, 1, none⟩ = some (.slice A2 n2 c2) := by rw [cell_of_row _ _ _ _ _ _ HF4.out]; rfl
  go_wp2_with fail
  clear hc7 hc8
  refine (HPK.out _ _ (H.out.below HB6.out) HF5.out).mono ?_
  rintro e w1 ⟨v1, R1, rfl, ho, hd, hb⟩
  have HO1 := Lib.hid (ho.mono (B' := w.heap.size) HB6.out.size)
  have HD1 := Lib.hid hd
  have HB1 := Lib.hid (HB6.out.trans (hb.mono HB6.out.size))
  clear hb ho hd
  go_wp2_with fail
  go_ret
  exact ⟨_, R1, rfl, HO1.out, HD1.out, HB1.out⟩
set_option maxRecDepth 100000 in
theorem lab1_any (i : ByteArray) (L1 : Option Addr) (ns q1 : Nat) (M1 : Option Addr) (np r1 : Nat) (ss : List ByteArray) (I : Nat) (s : ByteArray) (w : World) (hI : w.heap[I]? = some (.cells #[.string s] 9 (0, 0))) (hl : SlN w L1 ns ss) (hn : ns ≤ 100000) (hr : Rise ss) :
    Calls Tryz.prog 41 #[.agg #[.string i, .slice L1 ns q1, .slice M1 np r1], .pointer (some ⟨I, 0, none⟩)] w fun e w' => e = .returned (.bool (inB ss s)) ∧ Below w.heap.size w w' := by
  have HI := Lib.hid hI
  have hIl : I < w.heap.size := lt_of_block hI
  have HB0 := Lib.hid ((Below.refl w.heap.size w).alloc (Nat.le_refl _) (.cells #[.string i, .slice L1 ns q1, .slice M1 np r1] 32 (0, 0)))
  have HFI := Lib.hid (find_any L1 ns q1 ss s (lessN ss s) _ (hl.later HB0.out) (by omega) (cut_of ss s hr))
  rw [in_met hr] at HFI
  generalize lessN ss s = K at HFI
  generalize inB ss s = b at HFI ⊢
  clear hI hl hr
  have HB1 := Lib.hid (Below.refl w.heap.size w)
  go_enter Tryz.func41, Tryz.ntmps41
  have HF2 := Lib.hid (blk_new w (.cells #[.string i, .slice L1 ns q1, .slice M1 np r1] 32 (0, 0)))
  have HB3 := Lib.hid (HB1.out.alloc HB1.out.size (.cells #[.string i, .slice L1 ns q1, .slice M1 np r1] 32 (0, 0)))
  clear HB1
  have hc4 : (w.alloc (.cells #[.string i, .slice L1 ns q1, .slice M1 np r1] 32 (0, 0))).cell? ⟨w.heap.size, 0, none⟩ = some (.string i) := by rw [cell_of_row _ _ _ _ _ _ HF2.out]; rfl
  have hc5 : (w.alloc (.cells #[.string i, .slice L1 ns q1, .slice M1 np r1] 32 (0, 0))).cell? ⟨w.heap.size, 1, none⟩ = some (.slice L1 ns q1) := by rw [cell_of_row _ _ _ _ _ _ HF2.out]; rfl
  have hc6 : (w.alloc (.cells #[.string i, .slice L1 ns q1, .slice M1 np r1] 32 (0, 0))).cell? ⟨w.heap.size, 2, none⟩ = some (.slice M1 np r1) := by rw [cell_of_row _ _ _ _ _ _ HF2.out]; rfl
  have y0 : (w.alloc (.cells #[.string i, .slice L1 ns q1, .slice M1 np r1] 32 (0, 0))).cell? ⟨I, 0, none⟩ = some (.string s) := (cell_of_row _ _ 0 _ _ _ (blk_alloc HI.out (.cells #[.string i, .slice L1 ns q1, .slice M1 np r1] 32 (0, 0)))).trans rfl
  have hne : ¬ I = w.heap.size := by omega
  go_wp2_with fail
  refine HFI.out.mono ?_
  rintro e w' ⟨rfl, rfl⟩
  go_wp2_with fail
  go_ret
  exact ⟨rfl, HB0.out⟩
set_option maxRecDepth 100000 in
set_option maxHeartbeats 4000000 in
theorem picklab_any (A A2 : Option Addr) (n c n2 : Nat) (X : List Nd) (Y : List Ed) (I : Nat) (s : ByteArray) (w : World) (h : GrIs w A n A2 n2 X Y) (hI : w.heap[I]? = some (.cells #[.string s] 9 (0, 0))) (hn : n ≤ 1000) (hs : ∀ x ∈ X, x.2.1.length ≤ 100000 ∧ x.2.2.length ≤ 100000) (hri : ∀ x ∈ X, Rise x.2.1) :
    Calls Tryz.prog 40 #[.slice A n c, .func (.func 32) #[] #[], .func (.func 41) #[] #[.pointer (some ⟨I, 0, none⟩)]] w (Pickn (X.filter (pLab s)) w) := by
  have H := Lib.hid h
  have HL := Lib.hid h.nl
  have HS := Lib.hid hs
  have HI := Lib.hid hI
  have HRI := Lib.hid hri
  clear h hs hI hri
  go_enter Tryz.func40, Tryz.ntmps40
  go_wp2_with fail
  go_loopw [7, 12] (fun v i wr => ∃ (k : Nat) (R : List NdR), i = .int .i64 (k : Int) ∧ k ≤ n ∧ OwX ndC 3 32 wr w.heap.size v R ∧ NdsOwn wr R ((X.take k).filter (pLab s)) ∧ Below w.heap.size w wr) (fun _ i _ => n - (intOf i).toNat)
  case atStart => exact ⟨0, [], rfl, Nat.zero_le _, OwX.nil w, NdsOwn.nil w, Below.refl _ _⟩
  case round =>
    obtain ⟨k, R, rfl, hk, hox, hds, hb⟩ := hrel
    have HB := Lib.hid hb
    have HO := Lib.hid hox
    have HD := Lib.hid hds
    have hsz := hb.size
    obtain ⟨av, nv, cv, rfl⟩ := hox.sl3
    clear hb hox hds
    by_cases hlt : k < n
    · have hd1 : decide ((k : Int) < (n : Int)) = true := decide_eq_true (by omega)
      have hi0 : (0 : Int) ≤ (k : Int) := by omega
      have hkl : k < X.length := by have := HL.out.1; omega
      obtain ⟨x, hxx⟩ : ∃ x, x = X[k] := ⟨_, rfl⟩
      have HK := Lib.hid (show X[k]? = some x by rw [List.getElem?_eq_getElem hkl, hxx])
      have HTA := Lib.hid (filt_takeG (pLab s) HK.out)
      have hsm := HS.out x (by rw [hxx]; exact List.getElem_mem hkl)
      have HRX := Lib.hid (HRI.out x (by rw [hxx]; exact List.getElem_mem hkl))
      clear hxx
      obtain ⟨b1, o1, L1, q1, r1, M1, rfl, x0, x1, x2, hp1⟩ := (H.out.below HB.out).node hlt HK.out
      have HFL := Lib.hid (filt_leG (pLab s) X k)
      obtain ⟨pv, hpv⟩ : ∃ pv, pv = pLab s x := ⟨_, rfl⟩
      rw [← hpv] at HTA
      have HPV := Lib.hid hpv
      clear hpv
      obtain ⟨i, ss, ps⟩ := x
      dsimp only at x0 x1 x2 hp1 hsm
      have HC := Lib.hid (fun (W : World) (g1 : LP W L1 ss.length ss M1 ps.length ps) => ownnode_any i L1 ss.length q1 M1 ps.length r1 ss ps W g1 hsm.1 hsm.2)
      have HCL := Lib.hid (fun (W : World) (g1 : W.heap[I]? = some (.cells #[.string s] 9 (0, 0))) (g2 : LP W L1 ss.length ss M1 ps.length ps) => (by rw [HPV.out]; exact lab1_any i L1 ss.length q1 M1 ps.length r1 ss I s W g1 g2.l hsm.1 HRX.out : Calls Tryz.prog 41 #[.agg #[.string i, .slice L1 ss.length q1, .slice M1 ps.length r1], .pointer (some ⟨I, 0, none⟩)] W fun e w' => e = .returned (.bool pv) ∧ Below W.heap.size W w'))
      have HP1 := Lib.hid hp1
      have HI1 := Lib.hid (blk_below HI.out HB.out)
      clear hp1 hsm
      generalize ss.length = ns at *
      generalize ps.length = np at *
      have HB0 := Lib.hid (Below.refl wr.heap.size wr)
      have HF101 := Lib.hid (blk_new wr (.cells #[.string i, .slice L1 ns q1, .slice M1 np r1] 32 (0, 0)))
      have HB102 := Lib.hid (HB0.out.alloc HB0.out.size (.cells #[.string i, .slice L1 ns q1, .slice M1 np r1] 32 (0, 0)))
      clear HB0
      have hc103 : (wr.alloc (.cells #[.string i, .slice L1 ns q1, .slice M1 np r1] 32 (0, 0))).cell? ⟨wr.heap.size, 0, none⟩ = some (.string i) := by rw [cell_of_row _ _ _ _ _ _ HF101.out]; rfl
      have hc104 : (wr.alloc (.cells #[.string i, .slice L1 ns q1, .slice M1 np r1] 32 (0, 0))).cell? ⟨wr.heap.size, 1, none⟩ = some (.slice L1 ns q1) := by rw [cell_of_row _ _ _ _ _ _ HF101.out]; rfl
      have hc105 : (wr.alloc (.cells #[.string i, .slice L1 ns q1, .slice M1 np r1] 32 (0, 0))).cell? ⟨wr.heap.size, 2, none⟩ = some (.slice M1 np r1) := by rw [cell_of_row _ _ _ _ _ _ HF101.out]; rfl
      go_wp2_with fail
      clear hc103 hc104 hc105
      clear x0 x1 x2
      refine (HCL.out (wr.alloc (.cells #[.string i, .slice L1 ns q1, .slice M1 np r1] 32 (0, 0))) (blk_below HI1.out HB102.out) (HP1.out.below HB102.out)).mono ?_
      rintro e w11 ⟨rfl, hb11⟩
      have HF106 := Lib.hid (blk_below HF101.out hb11)
      have HB107 := Lib.hid (HB102.out.trans (hb11.mono HB102.out.size))
      clear hb11 HB102 HF101
      clear HPV
      cases pv
      · have HO1 := Lib.hid (HO.out.kept HB107.out)
        have HD1 := Lib.hid (HD.out.below HB107.out)
        have HBa := Lib.hid (HB.out.trans (HB107.out.mono HB.out.size))
        rw [if_neg Bool.false_ne_true, List.append_nil] at HTA
        go_wp2_with fail
        go_roundw
        case rel => exact ⟨k + 1, R, by go_num, by omega, HO1.out, by rw [HTA.out]; exact HD1.out, HBa.out⟩
        case measure => simp [intOf] <;> omega
      · rw [if_pos rfl] at HTA
        have hc108 : w11.cell? ⟨wr.heap.size, 0, none⟩ = some (.string i) := by rw [cell_of_row _ _ _ _ _ _ HF106.out]; rfl
        have hc109 : w11.cell? ⟨wr.heap.size, 1, none⟩ = some (.slice L1 ns q1) := by rw [cell_of_row _ _ _ _ _ _ HF106.out]; rfl
        have hc110 : w11.cell? ⟨wr.heap.size, 2, none⟩ = some (.slice M1 np r1) := by rw [cell_of_row _ _ _ _ _ _ HF106.out]; rfl
        go_wp2_with fail
        clear hc108 hc109 hc110
        refine (HC.out w11 (HP1.out.below HB107.out)).mono ?_
        rintro e w12 ⟨⟨a1, a2, a3⟩, ⟨b1, b2, b3⟩, rfl, hpo, hb12⟩
        have HF111 := Lib.hid (blk_below HF106.out hb12)
        have HB112 := Lib.hid (HB107.out.trans (hb12.mono (by have := HB107.out.size; simp at this ⊢ <;> omega)))
        clear hb12 HB107 HF106
        have HPO := Lib.hid hpo
        clear hpo
        simp only [slV]
        have HO1 := Lib.hid (HO.out.kept HB112.out)
        have HD1 := Lib.hid (HD.out.below HB112.out)
        have HBa := Lib.hid (HB.out.trans (HB112.out.mono HB.out.size))
        have hz1 := HB112.out.size
        go_wp2_with (at_builtin; refine wpList_appX rfl (.tmp 19) (.tmp 23) 22 32 _ 64 rfl Tryz.underlying22 info_ndB rfl (by omega) (by omega) ndC_len ndC_one w.heap.size w (HBa.out.alloc HBa.out.size _) (by have := HBa.out.size; simp at this ⊢ <;> omega) (.slice av nv cv) R rfl (HO1.out.alloc _) w12.heap.size 1 (i, ⟨a1, a2, a3⟩, ⟨b1, b2, b3⟩) #[.string i, .slice a1 a2 a3, .slice b1 b2 b3] 32 (0, 0) rfl (heap_alloc_new w12 _) rfl (by rw [HD1.out.len]; have := HFL.out; omega) ?_)
        intro v2 w12 HO2 HB2 HZ2 HG2
        have hv2 := HO2.out.one
        have HDa := Lib.hid ((HD1.out.below ((Below.refl _ _).alloc (Nat.le_refl _) _)).other (HO1.out.alloc _) (by decide) (by decide) HG2.out)
        have HPa := Lib.hid ((HPO.out.below ((Below.refl _ _).alloc (Nat.le_refl _) _)).other (HO1.out.alloc _) (by decide) (by decide) HG2.out)
        go_wp2_with fail
        go_roundw
        case rel => exact ⟨k + 1, R ++ [(i, ⟨a1, a2, a3⟩, ⟨b1, b2, b3⟩)], by go_num, by omega, HO2.out, by rw [HTA.out]; exact HDa.out.snoc rfl HPa.out, HB2.out⟩
        case measure => simp [intOf] <;> omega
    · have hd1 : decide ((k : Int) < (n : Int)) = false := decide_eq_false (by omega)
      have HE := Lib.hid (show X.take k = X from List.take_of_length_le (by have := HL.out.1; omega))
      rw [HE.out] at HD
      go_wp2_with fail
      go_ret
      exact ⟨.slice av nv cv, R, rfl, HO.out, HD.out, HB.out⟩
set_option maxRecDepth 100000 in
set_option maxHeartbeats 4000000 in
theorem glab_any (A A2 : Option Addr) (n c n2 c2 : Nat) (X : List Nd) (Y : List Ed) (s : ByteArray) (w : World) (h : GrIs w A n A2 n2 X Y) (hn : n ≤ 1000) (hs : ∀ x ∈ X, x.2.1.length ≤ 100000 ∧ x.2.2.length ≤ 100000) (hri : ∀ x ∈ X, Rise x.2.1) :
    Calls Tryz.prog 20 #[.agg #[.slice A n c, .slice A2 n2 c2], .string s] w (Pickn (X.filter (pLab s)) w) := by
  have H := Lib.hid h
  have HPK := Lib.hid (fun (I : Nat) (W : World) (g1 : GrIs W A n A2 n2 X Y) (g2 : W.heap[I]? = some (.cells #[.string s] 9 (0, 0))) => picklab_any A A2 n c n2 X Y I s W g1 g2 hn hs hri)
  clear h hs hri
  have HB1 := Lib.hid (Below.refl w.heap.size w)
  go_enter Tryz.func20, Tryz.ntmps20
  have HF2 := Lib.hid (blk_new w (.cells #[.slice A n c, .slice A2 n2 c2] 25 (0, 0)))
  have HB3 := Lib.hid (HB1.out.alloc HB1.out.size (.cells #[.slice A n c, .slice A2 n2 c2] 25 (0, 0)))
  clear HB1
  have HF4 := Lib.hid (blk_alloc HF2.out (.cells #[.string s] 9 (0, 0)))
  clear HF2
  have HF5 : Hid (((w.alloc (.cells #[.slice A n c, .slice A2 n2 c2] 25 (0, 0))).alloc (.cells #[.string s] 9 (0, 0))).heap[w.heap.size + 1]? = some (.cells #[.string s] 9 (0, 0))) := Lib.hid (blk_newN (W := (w.alloc (.cells #[.slice A n c, .slice A2 n2 c2] 25 (0, 0)))) (o := (.cells #[.string s] 9 (0, 0))) (by simp))
  have HB6 := Lib.hid (HB3.out.alloc (by have := HB3.out.size; simp at this ⊢ <;> omega) (.cells #[.string s] 9 (0, 0)))
  clear HB3
  have hc7 : ((w.alloc (.cells #[.slice A n c, .slice A2 n2 c2] 25 (0, 0))).alloc (.cells #[.string s] 9 (0, 0))).cell? ⟨w.heap.size, 0, none⟩ = some (.slice A n c) := by rw [cell_of_row _ _ _ _ _ _ HF4.out]; rfl
  have hc8 : ((w.alloc (.cells #[.slice A n c, .slice A2 n2 c2] 25 (0, 0))).alloc (.cells #[.string s] 9 (0, 0))).cell? ⟨w.heap.size, 1, none⟩ = some (.slice A2 n2 c2) := by rw [cell_of_row _ _ _ _ _ _ HF4.out]; rfl
  go_wp2_with fail
  clear hc7 hc8
  refine (HPK.out _ _ (H.out.below HB6.out) HF5.out).mono ?_
  rintro e w1 ⟨v1, R1, rfl, ho, hd, hb⟩
  have HO1 := Lib.hid (ho.mono (B' := w.heap.size) HB6.out.size)
  have HD1 := Lib.hid hd
  have HB1 := Lib.hid (HB6.out.trans (hb.mono HB6.out.size))
  clear hb ho hd
  go_wp2_with fail
  go_ret
  exact ⟨_, R1, rfl, HO1.out, HD1.out, HB1.out⟩
end Go.Proofs.YtagenkofoacajaaGreat
namespace Go.Proofs.YtagenkofoacajaaGreat
open Go.RowKit Vi

/-- the place of a key among some -/
def kAtF (s : ByteArray) : List ByteArray → Nat → Int
  | [], _ => -1
  | x :: r, k => if (x.toList == s.toList) = true then (k : Int) else kAtF s r (k + 1)
theorem kAtF_rise (s : ByteArray) : ∀ (ks : List ByteArray) (k : Nat), Rise ks → kAtF s ks k = if inB ks s = true then ((k + lessN ks s : Nat) : Int) else -1
  | [], k, _ => by simp [kAtF, inB]
  | a :: r, k, h => by
    obtain ⟨h1, h2⟩ := List.pairwise_cons.1 h
    have ih := kAtF_rise s r (k + 1) h2
    rw [kAtF]
    cases q : (a.toList == s.toList) with
    | true =>
      have e : a.toList = s.toList := by simpa using q
      rw [if_pos rfl]
      have e1 : inB (a :: r) s = true := by unfold inB; rw [List.any_cons, q, Bool.true_or]
      have e2 : lessN (a :: r) s = 0 := by
        unfold lessN
        rw [List.length_eq_zero_iff, List.filter_eq_nil_iff]
        intro t ht
        rcases List.mem_cons.1 ht with rfl | ht
        · rw [e, bl_irrefl]; simp
        · cases hg : Op.bytesLess t.toList s.toList with
          | false => simp
          | true =>
            have := bl_trans _ _ _ (h1 t ht) hg
            rw [e, bl_irrefl] at this
            cases this
      rw [if_pos e1, e2]
      rfl
    | false =>
      rw [if_neg (by simp), ih]
      have e1 : inB (a :: r) s = inB r s := by unfold inB; rw [List.any_cons, q, Bool.false_or]
      rw [e1]
      cases hin : inB r s with
      | false => rw [if_neg (by simp), if_neg (by simp)]
      | true =>
        rw [if_pos rfl, if_pos rfl]
        have hm : Op.bytesLess a.toList s.toList = true := h1 s (mem_in.1 hin)
        have e2 : lessN (a :: r) s = lessN r s + 1 := by unfold lessN; rw [List.filter_cons_of_pos (by exact hm)]; rfl
        rw [e2]
        omega
theorem nAtF_k (s : ByteArray) : ∀ (X : List Nd) (k : Nat), nAtF s X k = kAtF s (keys1 X) k
  | [], _ => rfl
  | x :: r, k => by
    show (if (x.1.toList == s.toList) = true then (k : Int) else nAtF s r (k + 1)) = if (x.1.toList == s.toList) = true then (k : Int) else kAtF s (keys1 r) (k + 1)
    rw [nAtF_k s r (k + 1)]
/-- the place of an edge -/
def eAtF (s : ByteArray) : List Ed → Nat → Int
  | [], _ => -1
  | x :: r, k => if (x.1.toList == s.toList) = true then (k : Int) else eAtF s r (k + 1)
def eAt (X : List Ed) (s : ByteArray) : Int := eAtF s X 0
theorem eAtF_k (s : ByteArray) : ∀ (X : List Ed) (k : Nat), eAtF s X k = kAtF s (keys1 X) k
  | [], _ => rfl
  | x :: r, k => by
    show (if (x.1.toList == s.toList) = true then (k : Int) else eAtF s r (k + 1)) = if (x.1.toList == s.toList) = true then (k : Int) else kAtF s (keys1 r) (k + 1)
    rw [eAtF_k s r (k + 1)]
theorem nAt_rise {X : List Nd} (s : ByteArray) (h : Rise (keys1 X)) : nAt X s = if inB (keys1 X) s = true then ((lessN (keys1 X) s : Nat) : Int) else -1 := by
  unfold nAt
  rw [nAtF_k, kAtF_rise s _ 0 h, Nat.zero_add]
theorem eAt_rise {X : List Ed} (s : ByteArray) (h : Rise (keys1 X)) : eAt X s = if inB (keys1 X) s = true then ((lessN (keys1 X) s : Nat) : Int) else -1 := by
  unfold eAt
  rw [eAtF_k, kAtF_rise s _ 0 h, Nat.zero_add]
theorem EdsIs.snoc {w : World} {R : List EdR} {X : List Ed} (h : EdsIs w R X) {r : EdR} {x : Ed} (h1 : EdIs w r x) : EdsIs w (R ++ [r]) (X ++ [x]) := ⟨by simp [h.len], snoc_at (P := fun (r : EdR) (x : Ed) => EdIs w r x) h.len h.at' h1⟩
theorem NdsIs.snoc {w : World} {R : List NdR} {X : List Nd} (h : NdsIs w R X) {r : NdR} {x : Nd} (h1 : NdIs w r x) : NdsIs w (R ++ [r]) (X ++ [x]) := ⟨by simp [h.len], snoc_at (P := fun (r : NdR) (x : Nd) => NdIs w r x) h.len h.at' h1⟩
set_option maxRecDepth 100000 in
set_option maxHeartbeats 2000000 in
theorem edgeat_any (A A2 : Option Addr) (n c n2 c2 : Nat) (X : List Nd) (Y : List Ed) (s : ByteArray) (w : World) (h : GrIs w A n A2 n2 X Y) (hn : n2 ≤ 1000000) :
    Calls Tryz.prog 11 #[.agg #[.slice A n c, .slice A2 n2 c2], .string s] w fun e w' => e = .returned (.int .i64 (eAt Y s)) ∧ Below w.heap.size w w' := by
  have H := Lib.hid h
  have HL := Lib.hid h.nl
  clear h
  have HB1 := Lib.hid (Below.refl w.heap.size w)
  go_enter Tryz.func11, Tryz.ntmps11
  have HF2 := Lib.hid (blk_new w (.cells #[.slice A n c, .slice A2 n2 c2] 25 (0, 0)))
  have HB3 := Lib.hid (HB1.out.alloc HB1.out.size (.cells #[.slice A n c, .slice A2 n2 c2] 25 (0, 0)))
  clear HB1
  have hc4 : (w.alloc (.cells #[.slice A n c, .slice A2 n2 c2] 25 (0, 0))).cell? ⟨w.heap.size, 0, none⟩ = some (.slice A n c) := by rw [cell_of_row _ _ _ _ _ _ HF2.out]; rfl
  have hc5 : (w.alloc (.cells #[.slice A n c, .slice A2 n2 c2] 25 (0, 0))).cell? ⟨w.heap.size, 1, none⟩ = some (.slice A2 n2 c2) := by rw [cell_of_row _ _ _ _ _ _ HF2.out]; rfl
  go_wp2_with fail
  go_loop [5] (fun i => ∃ k : Nat, i = .int .i64 (k : Int) ∧ k ≤ n2 ∧ Hid (eAtF s (Y.drop k) k = eAt Y s)) (fun i => n2 - (intOf i).toNat)
  case atStart => exact ⟨0, rfl, Nat.zero_le _, Lib.hid rfl⟩
  case round =>
    obtain ⟨k, rfl, hk, HI⟩ := hrel
    by_cases hlt : k < n2
    · have hd1 : decide ((k : Int) < (n2 : Int)) = true := decide_eq_true (by omega)
      have hi0 : (0 : Int) ≤ (k : Int) := by omega
      have hkl : k < Y.length := by have := HL.out.2; omega
      obtain ⟨x, hxx⟩ : ∃ x, x = Y[k] := ⟨_, rfl⟩
      have HK := Lib.hid (show Y[k]? = some x by rw [List.getElem?_eq_getElem hkl, hxx])
      clear hxx
      obtain ⟨b1, o1, L1, q1, r1, M1, rfl, x0, -, -, -, -, -⟩ := (H.out.below HB3.out).edge hlt HK.out
      obtain ⟨i, f, g, ss, ps⟩ := x
      dsimp only at x0
      have HT := Lib.hid (show eAtF s (Y.drop k) k = if (i.toList == s.toList) = true then (k : Int) else eAtF s (Y.drop (k + 1)) (k + 1) by rw [drop_at HK.out]; rfl)
      cases hq : (i.toList == s.toList) with
      | true =>
        have HR := Lib.hid (show (k : Int) = eAt Y s by rw [← HI.out, HT.out, if_pos hq])
        go_wp2_with fail
        go_ret
        exact ⟨retI HR.out, HB3.out⟩
      | false =>
        have HR := Lib.hid (show eAtF s (Y.drop (k + 1)) (k + 1) = eAt Y s by rw [← HI.out, HT.out, if_neg (by rw [hq]; simp)])
        go_wp2_with fail
        go_round
        case rel => exact ⟨k + 1, by go_num, by omega, HR⟩
        case measure => simp [intOf] <;> omega
    · have hd1 : decide ((k : Int) < (n2 : Int)) = false := decide_eq_false (by omega)
      have HR := Lib.hid (show (-1 : Int) = eAt Y s by rw [← HI.out, List.drop_eq_nil_of_le (by have := HL.out.2; omega)]; rfl)
      go_wp2_with fail
      go_ret
      exact ⟨retI HR.out, HB3.out⟩
/-- a row of one's own whose elements share what they have -/
def Doce (Y : List Ed) (w : World) (e : Ending) (w' : World) : Prop := ∃ v R, e = .returned v ∧ OwX edC 5 36 w' w.heap.size v R ∧ EdsIs w' R Y ∧ Below w.heap.size w w'
set_option maxRecDepth 100000 in
set_option maxHeartbeats 4000000 in
theorem dout_any (A A2 : Option Addr) (n c n2 c2 : Nat) (X : List Nd) (Y : List Ed) (s : ByteArray) (w : World) (h : GrIs w A n A2 n2 X Y) (hn : n2 ≤ 1000) :
    Calls Tryz.prog 16 #[.agg #[.slice A n c, .slice A2 n2 c2], .string s] w (Doce (Y.filter (pOut s)) w) := by
  have HL := Lib.hid h.nl
  obtain ⟨R0, hr0, his⟩ := h.ed
  have HR0 := Lib.hid hr0
  have HIS := Lib.hid his
  clear h hr0 his
  have HB1 := Lib.hid (Below.refl w.heap.size w)
  go_enter Tryz.func16, Tryz.ntmps16
  have HF2 := Lib.hid (blk_new w (.cells #[.slice A n c, .slice A2 n2 c2] 25 (0, 0)))
  have HB3 := Lib.hid (HB1.out.alloc HB1.out.size (.cells #[.slice A n c, .slice A2 n2 c2] 25 (0, 0)))
  clear HB1
  have hc4 : (w.alloc (.cells #[.slice A n c, .slice A2 n2 c2] 25 (0, 0))).cell? ⟨w.heap.size, 0, none⟩ = some (.slice A n c) := by rw [cell_of_row _ _ _ _ _ _ HF2.out]; rfl
  have hc5 : (w.alloc (.cells #[.slice A n c, .slice A2 n2 c2] 25 (0, 0))).cell? ⟨w.heap.size, 1, none⟩ = some (.slice A2 n2 c2) := by rw [cell_of_row _ _ _ _ _ _ HF2.out]; rfl
  go_wp2_with fail
  clear hc4 hc5
  go_loopw [5, 6] (fun v i wr => ∃ (k : Nat) (R : List EdR), i = .int .i64 (k : Int) ∧ k ≤ n2 ∧ OwX edC 5 36 wr w.heap.size v R ∧ EdsIs w R ((Y.take k).filter (pOut s)) ∧ wr.heap[w.heap.size]? = some (.cells #[.slice A n c, .slice A2 n2 c2] 25 (0, 0)) ∧ Below w.heap.size w wr) (fun _ i _ => n2 - (intOf i).toNat)
  case atStart => exact ⟨0, [], rfl, Nat.zero_le _, OwX.nil _, EdsIs.nil w, HF2.out, HB3.out⟩
  case round =>
    obtain ⟨k, R, rfl, hk, hox, his, hgb, hb⟩ := hrel
    clear HF2 HB3
    have HB := Lib.hid hb
    have HO := Lib.hid hox
    have HI := Lib.hid his
    have HG := Lib.hid hgb
    have hsz := hb.size
    have c0 : wr.cell? ⟨w.heap.size, 0, none⟩ = some (.slice A n c) := (cell_of_row _ _ 0 _ _ _ hgb).trans rfl
    have c1 : wr.cell? ⟨w.heap.size, 1, none⟩ = some (.slice A2 n2 c2) := (cell_of_row _ _ 1 _ _ _ hgb).trans rfl
    obtain ⟨av, nv, cv, rfl⟩ := hox.sl3
    clear hb hox his hgb
    by_cases hlt : k < n2
    · have hd1 : decide ((k : Int) < (n2 : Int)) = true := decide_eq_true (by omega)
      have hi0 : (0 : Int) ≤ (k : Int) := by omega
      have hs1 : IntKind.i64.wrap ((k : Int) + 1) = (k : Int) + 1 := IntWalk.i64_in _ (by omega)
      have hkl : k < Y.length := by have := HL.out.2; omega
      have hkr : k < R0.length := by rw [HR0.out.1]; exact hlt
      obtain ⟨x, hxx⟩ : ∃ x, x = Y[k] := ⟨_, rfl⟩
      have HK := Lib.hid (show Y[k]? = some x by rw [List.getElem?_eq_getElem hkl, hxx])
      obtain ⟨r, hrr⟩ : ∃ r, r = R0[k] := ⟨_, rfl⟩
      have HKR := Lib.hid (show R0[k]? = some r by rw [List.getElem?_eq_getElem hkr, hrr])
      have HRX := Lib.hid (HIS.out.at' k r x HKR.out HK.out)
      have HTA := Lib.hid (filt_takeG (pOut s) HK.out)
      have HFL := Lib.hid (filt_leG (pOut s) Y k)
      have HLE := Lib.hid HI.out.len
      obtain ⟨b, off, hl, rfl, hbb, _⟩ := (HR0.out.below HB.out).at hlt
      obtain ⟨pv, hpv⟩ : ∃ pv, pv = pOut s x := ⟨_, rfl⟩
      rw [← hpv] at HTA
      obtain ⟨i, f, g, ⟨L1, m1, q1⟩, ⟨M1, m2, r1⟩⟩ := r
      have hq : (f.toList == s.toList) = pv := by rw [hpv, show f = x.2.1 from HRX.out.fr]; rfl
      clear hpv hxx hrr
      have x0 : wr.cell? ⟨b, off + k * 5, none⟩ = some (.string i) := (HR0.out.below HB.out).cellAt HKR.out hlt 0 _ rfl
      have x1 : wr.cell? ⟨b, off + k * 5 + 1, none⟩ = some (.string f) := (HR0.out.below HB.out).cellAt HKR.out hlt 1 _ rfl
      have x2 : wr.cell? ⟨b, off + k * 5 + 2, none⟩ = some (.string g) := (HR0.out.below HB.out).cellAt HKR.out hlt 2 _ rfl
      have x3 : wr.cell? ⟨b, off + k * 5 + 3, none⟩ = some (.slice L1 m1 q1) := (HR0.out.below HB.out).cellAt HKR.out hlt 3 _ rfl
      have x4 : wr.cell? ⟨b, off + k * 5 + 4, none⟩ = some (.slice M1 m2 r1) := (HR0.out.below HB.out).cellAt HKR.out hlt 4 _ rfl
      cases pv
      · rw [if_neg Bool.false_ne_true, List.append_nil] at HTA
        go_wp2_with fail
        go_roundw
        case rel => exact ⟨k + 1, R, by go_num, by omega, HO.out, by rw [HTA.out]; exact HI.out, HG.out, HB.out⟩
        case measure => simp [intOf] <;> omega
      · rw [if_pos rfl] at HTA
        go_wp2_with (at_builtin; refine wpList_appX rfl (.tmp 22) (.tmp 28) 23 36 _ 96 rfl Tryz.underlying23 info_edB rfl (by omega) (by omega) edC_len edC_one w.heap.size w (HB.out.alloc HB.out.size _) (by simp <;> omega) (.slice av nv cv) R rfl (HO.out.alloc _) wr.heap.size 1 (i, f, g, ⟨L1, m1, q1⟩, ⟨M1, m2, r1⟩) #[.string i, .string f, .string g, .slice L1 m1 q1, .slice M1 m2 r1] 36 (0, 0) rfl (heap_alloc_new wr _) rfl (by rw [HLE.out]; have := HFL.out; omega) ?_)
        intro v2 w12 HO2 HB2 HZ2 HG2
        have hv2 := HO2.out.one
        have HGa := Lib.hid (OwX.box (HO.out.alloc _) HG2.out (blk_alloc HG.out _) (Or.inl (by decide)))
        clear c0 c1 x0 x1 x2 x3 x4
        go_wp2_with fail
        go_roundw
        case rel => exact ⟨k + 1, R ++ [(i, f, g, ⟨L1, m1, q1⟩, ⟨M1, m2, r1⟩)], by go_num, by omega, HO2.out, by rw [HTA.out]; exact HI.out.snoc HRX.out, HGa.out, HB2.out⟩
        case measure => simp [intOf] <;> omega
    · have hd1 : decide ((k : Int) < (n2 : Int)) = false := decide_eq_false (by omega)
      have HE := Lib.hid (show Y.take k = Y from List.take_of_length_le (by have := HL.out.2; omega))
      rw [HE.out] at HI
      go_wp2_with fail
      go_ret
      exact ⟨.slice av nv cv, R, rfl, HO.out, HI.out.below HB.out, HB.out⟩
set_option maxRecDepth 100000 in
set_option maxHeartbeats 4000000 in
theorem din_any (A A2 : Option Addr) (n c n2 c2 : Nat) (X : List Nd) (Y : List Ed) (s : ByteArray) (w : World) (h : GrIs w A n A2 n2 X Y) (hn : n2 ≤ 1000) :
    Calls Tryz.prog 18 #[.agg #[.slice A n c, .slice A2 n2 c2], .string s] w (Doce (Y.filter (pIn s)) w) := by
  have HL := Lib.hid h.nl
  obtain ⟨R0, hr0, his⟩ := h.ed
  have HR0 := Lib.hid hr0
  have HIS := Lib.hid his
  clear h hr0 his
  have HB1 := Lib.hid (Below.refl w.heap.size w)
  go_enter Tryz.func18, Tryz.ntmps18
  have HF2 := Lib.hid (blk_new w (.cells #[.slice A n c, .slice A2 n2 c2] 25 (0, 0)))
  have HB3 := Lib.hid (HB1.out.alloc HB1.out.size (.cells #[.slice A n c, .slice A2 n2 c2] 25 (0, 0)))
  clear HB1
  have hc4 : (w.alloc (.cells #[.slice A n c, .slice A2 n2 c2] 25 (0, 0))).cell? ⟨w.heap.size, 0, none⟩ = some (.slice A n c) := by rw [cell_of_row _ _ _ _ _ _ HF2.out]; rfl
  have hc5 : (w.alloc (.cells #[.slice A n c, .slice A2 n2 c2] 25 (0, 0))).cell? ⟨w.heap.size, 1, none⟩ = some (.slice A2 n2 c2) := by rw [cell_of_row _ _ _ _ _ _ HF2.out]; rfl
  go_wp2_with fail
  clear hc4 hc5
  go_loopw [5, 6] (fun v i wr => ∃ (k : Nat) (R : List EdR), i = .int .i64 (k : Int) ∧ k ≤ n2 ∧ OwX edC 5 36 wr w.heap.size v R ∧ EdsIs w R ((Y.take k).filter (pIn s)) ∧ wr.heap[w.heap.size]? = some (.cells #[.slice A n c, .slice A2 n2 c2] 25 (0, 0)) ∧ Below w.heap.size w wr) (fun _ i _ => n2 - (intOf i).toNat)
  case atStart => exact ⟨0, [], rfl, Nat.zero_le _, OwX.nil _, EdsIs.nil w, HF2.out, HB3.out⟩
  case round =>
    obtain ⟨k, R, rfl, hk, hox, his, hgb, hb⟩ := hrel
    clear HF2 HB3
    have HB := Lib.hid hb
    have HO := Lib.hid hox
    have HI := Lib.hid his
    have HG := Lib.hid hgb
    have hsz := hb.size
    have c0 : wr.cell? ⟨w.heap.size, 0, none⟩ = some (.slice A n c) := (cell_of_row _ _ 0 _ _ _ hgb).trans rfl
    have c1 : wr.cell? ⟨w.heap.size, 1, none⟩ = some (.slice A2 n2 c2) := (cell_of_row _ _ 1 _ _ _ hgb).trans rfl
    obtain ⟨av, nv, cv, rfl⟩ := hox.sl3
    clear hb hox his hgb
    by_cases hlt : k < n2
    · have hd1 : decide ((k : Int) < (n2 : Int)) = true := decide_eq_true (by omega)
      have hi0 : (0 : Int) ≤ (k : Int) := by omega
      have hs1 : IntKind.i64.wrap ((k : Int) + 1) = (k : Int) + 1 := IntWalk.i64_in _ (by omega)
      have hkl : k < Y.length := by have := HL.out.2; omega
      have hkr : k < R0.length := by rw [HR0.out.1]; exact hlt
      obtain ⟨x, hxx⟩ : ∃ x, x = Y[k] := ⟨_, rfl⟩
      have HK := Lib.hid (show Y[k]? = some x by rw [List.getElem?_eq_getElem hkl, hxx])
      obtain ⟨r, hrr⟩ : ∃ r, r = R0[k] := ⟨_, rfl⟩
      have HKR := Lib.hid (show R0[k]? = some r by rw [List.getElem?_eq_getElem hkr, hrr])
      have HRX := Lib.hid (HIS.out.at' k r x HKR.out HK.out)
      have HTA := Lib.hid (filt_takeG (pIn s) HK.out)
      have HFL := Lib.hid (filt_leG (pIn s) Y k)
      have HLE := Lib.hid HI.out.len
      obtain ⟨b, off, hl, rfl, hbb, _⟩ := (HR0.out.below HB.out).at hlt
      obtain ⟨pv, hpv⟩ : ∃ pv, pv = pIn s x := ⟨_, rfl⟩
      rw [← hpv] at HTA
      obtain ⟨i, f, g, ⟨L1, m1, q1⟩, ⟨M1, m2, r1⟩⟩ := r
      have hq : (g.toList == s.toList) = pv := by rw [hpv, show g = x.2.2.1 from HRX.out.dst]; rfl
      clear hpv hxx hrr
      have x0 : wr.cell? ⟨b, off + k * 5, none⟩ = some (.string i) := (HR0.out.below HB.out).cellAt HKR.out hlt 0 _ rfl
      have x1 : wr.cell? ⟨b, off + k * 5 + 1, none⟩ = some (.string f) := (HR0.out.below HB.out).cellAt HKR.out hlt 1 _ rfl
      have x2 : wr.cell? ⟨b, off + k * 5 + 2, none⟩ = some (.string g) := (HR0.out.below HB.out).cellAt HKR.out hlt 2 _ rfl
      have x3 : wr.cell? ⟨b, off + k * 5 + 3, none⟩ = some (.slice L1 m1 q1) := (HR0.out.below HB.out).cellAt HKR.out hlt 3 _ rfl
      have x4 : wr.cell? ⟨b, off + k * 5 + 4, none⟩ = some (.slice M1 m2 r1) := (HR0.out.below HB.out).cellAt HKR.out hlt 4 _ rfl
      cases pv
      · rw [if_neg Bool.false_ne_true, List.append_nil] at HTA
        go_wp2_with fail
        go_roundw
        case rel => exact ⟨k + 1, R, by go_num, by omega, HO.out, by rw [HTA.out]; exact HI.out, HG.out, HB.out⟩
        case measure => simp [intOf] <;> omega
      · rw [if_pos rfl] at HTA
        go_wp2_with (at_builtin; refine wpList_appX rfl (.tmp 22) (.tmp 28) 23 36 _ 96 rfl Tryz.underlying23 info_edB rfl (by omega) (by omega) edC_len edC_one w.heap.size w (HB.out.alloc HB.out.size _) (by simp <;> omega) (.slice av nv cv) R rfl (HO.out.alloc _) wr.heap.size 1 (i, f, g, ⟨L1, m1, q1⟩, ⟨M1, m2, r1⟩) #[.string i, .string f, .string g, .slice L1 m1 q1, .slice M1 m2 r1] 36 (0, 0) rfl (heap_alloc_new wr _) rfl (by rw [HLE.out]; have := HFL.out; omega) ?_)
        intro v2 w12 HO2 HB2 HZ2 HG2
        have hv2 := HO2.out.one
        have HGa := Lib.hid (OwX.box (HO.out.alloc _) HG2.out (blk_alloc HG.out _) (Or.inl (by decide)))
        clear c0 c1 x0 x1 x2 x3 x4
        go_wp2_with fail
        go_roundw
        case rel => exact ⟨k + 1, R ++ [(i, f, g, ⟨L1, m1, q1⟩, ⟨M1, m2, r1⟩)], by go_num, by omega, HO2.out, by rw [HTA.out]; exact HI.out.snoc HRX.out, HGa.out, HB2.out⟩
        case measure => simp [intOf] <;> omega
    · have hd1 : decide ((k : Int) < (n2 : Int)) = false := decide_eq_false (by omega)
      have HE := Lib.hid (show Y.take k = Y from List.take_of_length_le (by have := HL.out.2; omega))
      rw [HE.out] at HI
      go_wp2_with fail
      go_ret
      exact ⟨.slice av nv cv, R, rfl, HO.out, HI.out.below HB.out, HB.out⟩
/-- a row of one's own whose elements share what they have -/
def Docn (X : List Nd) (w : World) (e : Ending) (w' : World) : Prop := ∃ v R, e = .returned v ∧ OwX ndC 3 32 w' w.heap.size v R ∧ NdsIs w' R X ∧ Below w.heap.size w w'
set_option maxRecDepth 100000 in
set_option maxHeartbeats 4000000 in
theorem dlab_any (A A2 : Option Addr) (n c n2 c2 : Nat) (X : List Nd) (Y : List Ed) (s : ByteArray) (w : World) (h : GrIs w A n A2 n2 X Y) (hn : n ≤ 1000) (hs : ∀ x ∈ X, x.2.1.length ≤ 100000) :
    Calls Tryz.prog 21 #[.agg #[.slice A n c, .slice A2 n2 c2], .string s] w (Docn (X.filter (pLab s)) w) := by
  have HL := Lib.hid h.nl
  obtain ⟨R0, hr0, his⟩ := h.nd
  have HR0 := Lib.hid hr0
  have HIS := Lib.hid his
  have HS := Lib.hid hs
  clear h hr0 his hs
  have HB1 := Lib.hid (Below.refl w.heap.size w)
  go_enter Tryz.func21, Tryz.ntmps21
  have HF2 := Lib.hid (blk_new w (.cells #[.slice A n c, .slice A2 n2 c2] 25 (0, 0)))
  have HB3 := Lib.hid (HB1.out.alloc HB1.out.size (.cells #[.slice A n c, .slice A2 n2 c2] 25 (0, 0)))
  clear HB1
  have hc4 : (w.alloc (.cells #[.slice A n c, .slice A2 n2 c2] 25 (0, 0))).cell? ⟨w.heap.size, 0, none⟩ = some (.slice A n c) := by rw [cell_of_row _ _ _ _ _ _ HF2.out]; rfl
  have hc5 : (w.alloc (.cells #[.slice A n c, .slice A2 n2 c2] 25 (0, 0))).cell? ⟨w.heap.size, 1, none⟩ = some (.slice A2 n2 c2) := by rw [cell_of_row _ _ _ _ _ _ HF2.out]; rfl
  go_wp2_with fail
  clear hc4 hc5
  go_loopw [5, 6] (fun v i wr => ∃ (k : Nat) (R : List NdR), i = .int .i64 (k : Int) ∧ k ≤ n ∧ OwX ndC 3 32 wr w.heap.size v R ∧ NdsIs w R ((X.take k).filter (pLab s)) ∧ wr.heap[w.heap.size]? = some (.cells #[.slice A n c, .slice A2 n2 c2] 25 (0, 0)) ∧ Below w.heap.size w wr) (fun _ i _ => n - (intOf i).toNat)
  case atStart => exact ⟨0, [], rfl, Nat.zero_le _, OwX.nil _, NdsIs.nil w, HF2.out, HB3.out⟩
  case round =>
    obtain ⟨k, R, rfl, hk, hox, his, hgb, hb⟩ := hrel
    clear HF2 HB3
    have HB := Lib.hid hb
    have HO := Lib.hid hox
    have HI := Lib.hid his
    have HG := Lib.hid hgb
    have hsz := hb.size
    have c0 : wr.cell? ⟨w.heap.size, 0, none⟩ = some (.slice A n c) := (cell_of_row _ _ 0 _ _ _ hgb).trans rfl
    have c1 : wr.cell? ⟨w.heap.size, 1, none⟩ = some (.slice A2 n2 c2) := (cell_of_row _ _ 1 _ _ _ hgb).trans rfl
    obtain ⟨av, nv, cv, rfl⟩ := hox.sl3
    clear hb hox his hgb
    by_cases hlt : k < n
    · have hd1 : decide ((k : Int) < (n : Int)) = true := decide_eq_true (by omega)
      have hi0 : (0 : Int) ≤ (k : Int) := by omega
      have hs1 : IntKind.i64.wrap ((k : Int) + 1) = (k : Int) + 1 := IntWalk.i64_in _ (by omega)
      have hkl : k < X.length := by have := HL.out.1; omega
      have hkr : k < R0.length := by rw [HR0.out.1]; exact hlt
      obtain ⟨x, hxx⟩ : ∃ x, x = X[k] := ⟨_, rfl⟩
      have HK := Lib.hid (show X[k]? = some x by rw [List.getElem?_eq_getElem hkl, hxx])
      obtain ⟨r, hrr⟩ : ∃ r, r = R0[k] := ⟨_, rfl⟩
      have HKR := Lib.hid (show R0[k]? = some r by rw [List.getElem?_eq_getElem hkr, hrr])
      have HRX := Lib.hid (HIS.out.at' k r x HKR.out HK.out)
      have HTA := Lib.hid (filt_takeG (pLab s) HK.out)
      have HFL := Lib.hid (filt_leG (pLab s) X k)
      have HLE := Lib.hid HI.out.len
      have hsm := HS.out x (by rw [hxx]; exact List.getElem_mem hkl)
      obtain ⟨b, off, hl, rfl, hbb, _⟩ := (HR0.out.below HB.out).at hlt
      obtain ⟨pv, hpv⟩ : ∃ pv, pv = pLab s x := ⟨_, rfl⟩
      rw [← hpv] at HTA
      obtain ⟨i, ⟨L1, m1, q1⟩, ⟨M1, m2, r1⟩⟩ := r
      have hm1 : x.2.1.length = m1 := HRX.out.p.l.1
      have HIN := Lib.hid (fun (W : World) (hb2 : Below w.heap.size w W) => (by rw [hpv]; exact refIn_any L1 m1 q1 x.2.1 s W (HRX.out.p.below hb2).l (by omega) : Calls Tryz.prog 43 #[.slice L1 m1 q1, .string s] W fun e w' => e = .returned (.bool pv) ∧ W = w'))
      clear hpv hxx hrr hm1
      have x0 : wr.cell? ⟨b, off + k * 3, none⟩ = some (.string i) := (HR0.out.below HB.out).cellAt HKR.out hlt 0 _ rfl
      have x1 : wr.cell? ⟨b, off + k * 3 + 1, none⟩ = some (.slice L1 m1 q1) := (HR0.out.below HB.out).cellAt HKR.out hlt 1 _ rfl
      have x2 : wr.cell? ⟨b, off + k * 3 + 2, none⟩ = some (.slice M1 m2 r1) := (HR0.out.below HB.out).cellAt HKR.out hlt 2 _ rfl
      cases pv
      · rw [if_neg Bool.false_ne_true, List.append_nil] at HTA
        go_wp2_with fail
        refine (HIN.out _ HB.out).mono ?_
        rintro e w' ⟨rfl, rfl⟩
        go_wp2_with fail
        go_roundw
        case rel => exact ⟨k + 1, R, by go_num, by omega, HO.out, by rw [HTA.out]; exact HI.out, HG.out, HB.out⟩
        case measure => simp [intOf] <;> omega
      · rw [if_pos rfl] at HTA
        go_wp2_with fail
        refine (HIN.out _ HB.out).mono ?_
        rintro e w' ⟨rfl, rfl⟩
        go_wp2_with (at_builtin; refine wpList_appX rfl (.tmp 22) (.tmp 28) 22 32 _ 64 rfl Tryz.underlying22 info_ndB rfl (by omega) (by omega) ndC_len ndC_one w.heap.size w (HB.out.alloc HB.out.size _) (by simp <;> omega) (.slice av nv cv) R rfl (HO.out.alloc _) wr.heap.size 1 (i, ⟨L1, m1, q1⟩, ⟨M1, m2, r1⟩) #[.string i, .slice L1 m1 q1, .slice M1 m2 r1] 32 (0, 0) rfl (heap_alloc_new wr _) rfl (by rw [HLE.out]; have := HFL.out; omega) ?_)
        intro v2 w12 HO2 HB2 HZ2 HG2
        have hv2 := HO2.out.one
        have HGa := Lib.hid (OwX.box (HO.out.alloc _) HG2.out (blk_alloc HG.out _) (Or.inl (by decide)))
        clear c0 c1 x0 x1 x2
        go_wp2_with fail
        go_roundw
        case rel => exact ⟨k + 1, R ++ [(i, ⟨L1, m1, q1⟩, ⟨M1, m2, r1⟩)], by go_num, by omega, HO2.out, by rw [HTA.out]; exact HI.out.snoc HRX.out, HGa.out, HB2.out⟩
        case measure => simp [intOf] <;> omega
    · have hd1 : decide ((k : Int) < (n : Int)) = false := decide_eq_false (by omega)
      have HE := Lib.hid (show X.take k = X from List.take_of_length_le (by have := HL.out.1; omega))
      rw [HE.out] at HI
      go_wp2_with fail
      go_ret
      exact ⟨.slice av nv cv, R, rfl, HO.out, HI.out.below HB.out, HB.out⟩
theorem samese_any (A B : Option Addr) (m c d : Nat) (R R' : List EdR) (Y : List Ed) (w : World) (h1 : RdX edC 5 w A m R) (h2 : EdsIs w R Y) (h3 : RdX edC 5 w B m R') (h4 : EdsIs w R' Y) (hm : m ≤ 1000000) (hy : edSm Y) :
    Calls Tryz.prog 14 #[.slice A m c, .slice B m d] w fun e w' => e = .returned (.bool true) ∧ Below w.heap.size w w' := by
  have HC := Lib.hid (same26_yes none A none B 0 0 m c 0 d [] Y w ⟨⟨[], ⟨rfl, fun h => absurd h (Nat.lt_irrefl 0)⟩, NdsIs.nil _⟩, ⟨_, h1, h2⟩⟩ ⟨⟨[], ⟨rfl, fun h => absurd h (Nat.lt_irrefl 0)⟩, NdsIs.nil _⟩, ⟨_, h3, h4⟩⟩ (by decide) hm (fun x hx => by cases hx) hy)
  clear h1 h2 h3 h4 hm hy
  go_enter Tryz.func14, Tryz.ntmps14
  go_wp2_with fail
  refine HC.out.mono ?_
  rintro e w1 ⟨rfl, hb⟩
  have HB := Lib.hid hb
  clear hb
  go_wp2_with fail
  go_ret
  exact ⟨rfl, HB.out⟩
theorem samesn_any (A B : Option Addr) (m c d : Nat) (R R' : List NdR) (Y : List Nd) (w : World) (h1 : RdX ndC 3 w A m R) (h2 : NdsIs w R Y) (h3 : RdX ndC 3 w B m R') (h4 : NdsIs w R' Y) (hm : m ≤ 1000000) (hy : ndSm Y) :
    Calls Tryz.prog 19 #[.slice A m c, .slice B m d] w fun e w' => e = .returned (.bool true) ∧ Below w.heap.size w w' := by
  have HC := Lib.hid (same26_yes A none B none m c 0 0 d 0 Y [] w ⟨⟨_, h1, h2⟩, ⟨[], ⟨rfl, fun h => absurd h (Nat.lt_irrefl 0)⟩, EdsIs.nil _⟩⟩ ⟨⟨_, h3, h4⟩, ⟨[], ⟨rfl, fun h => absurd h (Nat.lt_irrefl 0)⟩, EdsIs.nil _⟩⟩ hm (by decide) hy (fun x hx => by cases hx))
  clear h1 h2 h3 h4 hm hy
  go_enter Tryz.func19, Tryz.ntmps19
  go_wp2_with fail
  refine HC.out.mono ?_
  rintro e w1 ⟨rfl, hb⟩
  have HB := Lib.hid hb
  clear hb
  go_wp2_with fail
  go_ret
  exact ⟨rfl, HB.out⟩
end Go.Proofs.YtagenkofoacajaaGreat
