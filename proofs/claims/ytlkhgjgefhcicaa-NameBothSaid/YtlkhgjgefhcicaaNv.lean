/- The contract of name.All over rows of texts; of name.Find, name.With and name.Without on rows that rise; of the statements' Texts and Rises in one world or a later one. -/
import Derived.Test.YtlkhgjgefhcicaaNt
import Derived.Test.YtlkhgjgefhcicaaNu
import Derived.Test.YtlkhgjgefhcicaaNy

import Derived.Lib.MinMaxS
namespace Go.Proofs.Ytlkhgjgefhcicaa
open Go.RowKit

theorem OwnS.drewN {w : World} {B : Nat} {v : Value} {L : List ByteArray} (h : OwnS w B v L) (n : Nat) : OwnS (w.drewN n) B v L := h
theorem SlN.drewN {w : World} {a : Option Addr} {n : Nat} {L : List ByteArray} (h : SlN w a n L) (k : Nat) : SlN (w.drewN k) a n L := h
theorem bel_drewN {B : Nat} {a w : World} (h : Below B a w) (n : Nat) : Below B a (w.drewN n) := ⟨h.os, h.tape, h.output, h.size, h.block⟩
def lenV : Value → Nat
  | .slice _ n _ => n
  | _ => 0
theorem make_cap (w : World) (n : Nat) (hn : n ≤ 3000000) : (Instr.makeSlice 22 (.int .i64 0) (.int .i64 (n : Int))).run Try.prog w = .ok (.slice (some ⟨w.heap.size, 0, none⟩) 0 n) (w.alloc (.cells (emp n).toArray 9)) := by
  obtain ⟨i0, hi, hz0, hz1, hz2⟩ := info_parts info_str
  have h := run_make (P := Try.prog) w 22 9 i0 (.string ⟨#[]⟩) Try.underlying22 hi hz0 .i64 .i64 0 (n : Int) (by omega) (by omega) (by rw [hz2]; omega) (by omega)
  rw [h, hz1]
  simp only [Int.toNat_natCast]
  rw [made_emp]
  rfl
theorem own_cap (w : World) (n : Nat) (hn : n ≤ 3000000) : OwnS (w.alloc (.cells (emp n).toArray 9)) w.heap.size (.slice (some ⟨w.heap.size, 0, none⟩) 0 n) [] :=
  World.ownsRow_made w _ n (Nat.le_refl _) (by unfold maxLen; omega) (by simp [emp])
theorem step_min {ops : Array Oper} {o : Oper} {a : Act} {K : Act → World → Prop} {Q : Exit → Act → World → Prop} {E : Prop} {w : World} (hgd : o.guard = none) (s x : Operand) (ts : Array TypeId)
    (ho : o.op = .call { callee := .builtin .min, args := #[s, x], argTypes := ts }) (u v z : ByteArray) (hs : a.eval s = .string u) (hx : a.eval x = .string v) (hz : Lib.minS u v = z)
    (h : K (a.put o.dst (.string z)) w) : if Region.wanted o (yielded ops a.tmps) = true then Oper.wp Try.prog o a w K Q else E := by
  have hw : Region.wanted o (yielded ops a.tmps) = true := by simp [Region.wanted, hgd]
  rw [if_pos hw]
  subst hz
  unfold Oper.wp execOp
  simp only [ho, resolve, invoke, builtin, Sem.run_bind, Sem.run_pure, Result.andThen_ok, List.map_toArray, List.map_cons, List.map_nil, hs, hx, Lib.run_min_strs]
  exact h
theorem min_lt {x y : ByteArray} (h : Op.bytesLess x.toList y.toList = true) : Lib.minS x y = x := by
  rw [Proofs.bytesLess_eq, ByteArray.toList_eq, ByteArray.toList_eq] at h
  exact if_pos (Or.inl (of_decide_eq_true h))
theorem min_eq {x y : ByteArray} (h : (x.toList == y.toList) = true) : Lib.minS x y = x := by
  rw [beq_iff_eq, ByteArray.toList_eq, ByteArray.toList_eq] at h
  exact if_pos (Or.inr h)
theorem min_gt {x y : ByteArray} (h : Op.bytesLess x.toList y.toList = false) (h2 : (x.toList == y.toList) = false) : Lib.minS x y = y := by
  rw [Proofs.bytesLess_eq, ByteArray.toList_eq, ByteArray.toList_eq] at h
  rw [beq_eq_false_iff_ne, ByteArray.toList_eq, ByteArray.toList_eq] at h2
  exact if_neg (fun e => e.elim (of_decide_eq_false h) h2)
/-- what All carries from round to round -/
def AllR (w : World) (xs ys : List ByteArray) (v0 v1 row : Value) (wr : World) : Prop :=
  ∃ (A : Option Addr) (n c : Nat) (xs' : List ByteArray) (B : Option Addr) (m d : Nat) (ys' L : List ByteArray), v0 = .slice A n c ∧ v1 = .slice B m d ∧ SlN w A n xs' ∧ n ≤ c ∧ SlN w B m ys' ∧ m ≤ d ∧
    OwnS wr w.heap.size row L ∧ Below w.heap.size w wr ∧ mergeL xs ys = L ++ mergeL xs' ys' ∧ L.length + n + m ≤ 200000

set_option maxRecDepth 100000 in
set_option maxHeartbeats 4000000 in
theorem all_any (a : Option Addr) (la ca : Nat) (xs : List ByteArray) (b : Option Addr) (lb cb : Nat) (ys : List ByteArray) (w : World) (ha : SlN w a la xs) (hb : SlN w b lb ys) (h1 : la ≤ 100000) (h2 : lb ≤ 100000) (hac : la ≤ ca) (hbc : lb ≤ cb) :
    Calls Try.prog 22 #[.slice a la ca, .slice b lb cb] w (RetTS w (mergeL xs ys)) := by
  obtain ⟨N, hN⟩ : ∃ N, N = la + lb := ⟨_, rfl⟩
  have hNi : (la : Int) + (lb : Int) = (N : Int) := by omega
  have hN3 : N ≤ 3000000 := by omega
  have hmk := fun W => make_cap W N hN3
  have HOC := Lib.hid (own_cap w N hN3)
  have HR0 := Lib.hid (show ∀ row wr, OwnS wr w.heap.size row [] → Below w.heap.size w wr → AllR w xs ys (.slice a la ca) (.slice b lb cb) row wr from fun row wr ho hbw => ⟨a, la, ca, xs, b, lb, cb, ys, [], rfl, rfl, ha, hac, hb, hbc, ho, hbw, rfl, by simp; omega⟩)
  clear ha hb hN
  go_enter Try.func22, Try.ntmps22
  go_wp2
  go_loopw [0, 1, 5, 6] (fun v0 v1 row _ wr => AllR w xs ys v0 v1 row wr) (fun v0 v1 _ _ _ => lenV v0 + lenV v1)
  case atStart => exact HR0.out _ _ HOC.out ((Below.refl _ w).alloc (Nat.le_refl _) _)
  case round =>
    obtain ⟨A, n, c, xs', B, m, d, ys', L, rfl, rfl, hA, hnc, hB, hmd, ho, hbw, hmg, hsz⟩ := hrel
    clear hmk hNi HR0 HOC
    have HA := Lib.hid hA
    have HB := Lib.hid hB
    have HO := Lib.hid ho
    have HW := Lib.hid hbw
    have HM := Lib.hid hmg
    have hlx := hA.1
    have hly := hB.1
    by_cases hn : 0 < n
    · by_cases hm : 0 < m
      · obtain ⟨b1, o1, rfl, hc1⟩ := hA.2 hn
        obtain ⟨b2, o2, rfl, hc2⟩ := hB.2 hm
        obtain ⟨x, xt, rfl⟩ : ∃ x xt, xs' = x :: xt := by cases xs' with | nil => simp at hlx; omega | cons x xt => exact ⟨x, xt, rfl⟩
        obtain ⟨y, yt, rfl⟩ : ∃ y yt, ys' = y :: yt := by cases ys' with | nil => simp at hly; omega | cons y yt => exact ⟨y, yt, rfl⟩
        have p1 : w.cell? ⟨b1, o1, none⟩ = some (.string x) := hc1 0 (by simp)
        have p2 : w.cell? ⟨b2, o2, none⟩ = some (.string y) := hc2 0 (by simp)
        have q1 : wr.cell? ⟨b1, o1, none⟩ = some (.string x) := by rw [hbw.cell (p := ⟨b1, o1, none⟩) (World.block_lt_of_cell? w _ p1)]; exact p1
        have q2 : wr.cell? ⟨b2, o2, none⟩ = some (.string y) := by rw [hbw.cell (p := ⟨b2, o2, none⟩) (World.block_lt_of_cell? w _ p2)]; exact p2
        have P1 := Lib.hid p1
        have P2 := Lib.hid p2
        have HAC := Lib.hid (show SlN w (cutA (some ⟨b1, o1, none⟩) c 1) (n - 1) xt from HA.out.cut c 1 hn hnc)
        have HBC := Lib.hid (show SlN w (cutA (some ⟨b2, o2, none⟩) d 1) (m - 1) yt from HB.out.cut d 1 hm hmd)
        have hn0 : (0 : Int) < (n : Int) := by omega
        have hm0 : (0 : Int) < (m : Int) := by omega
        have hnb : n ≤ 200000 := by omega
        have hmb : m ≤ 200000 := by omega
        clear hA hB ho hbw hmg hlx hly hc1 hc2 p1 p2
        cases h1 : Op.bytesLess x.toList y.toList with
        | true =>
          have hne : (x.toList == y.toList) = false := by
            cases hq : (x.toList == y.toList) with
            | false => rfl
            | true => rw [beq_iff_eq] at hq; rw [hq, bl_irrefl] at h1; cases h1
          have hne2 : (y.toList == x.toList) = false := by rw [Bool.beq_comm]; exact hne
          have HZ := Lib.hid (min_lt h1)
          have HMM := Lib.hid (show mergeL xs ys = (L ++ [x]) ++ mergeL xt (y :: yt) by rw [HM.out, merge_lt x y xt yt h1, List.append_assoc]; rfl)
          have e1 : (x.toList == x.toList) = true := by simp
          have e2 : (y.toList == x.toList) = false := hne2
          have E1 := Lib.hid e1
          have E2 := Lib.hid e2
          clear e1 e2 hne2
          go_wp2_with fail
          go_region_law ((refine step_min ?_ (.tmp 23) (.tmp 26) #[9, 9] ?_ x y x ?_ ?_ HZ.out ?_; (rfl); (rfl); (rfl); (rfl)))
          all_goals
            go_wp2_with (at_builtin; refine wpList_app rfl _ _ rfl w.heap.size w ?hb1 ?hb2 _ L rfl ?ho1 _ 1 1 [x] rfl ?hs1 (by omega) ?_)
            case hb1 => first | exact (HW.out.alloc HW.out.size _).drew | exact HW.out.drew.alloc HW.out.size _
            case hb2 => have := HW.out.size; simp; omega
            case ho1 => exact HO.out.alloc _
            case hs1 => exact sl_one _ x
            intro v2 w2 HO2 HB2 HZ2
            have r1 := (HB2.out.cell (p := ⟨b1, o1, none⟩) (World.block_lt_of_cell? w _ P1.out)).trans P1.out
            have r2 := (HB2.out.cell (p := ⟨b2, o2, none⟩) (World.block_lt_of_cell? w _ P2.out)).trans P2.out
            have R1 := Lib.hid r1
            have R2 := Lib.hid r2
            clear r1 r2
            go_wp2_with fail
            refine (past_any b1 o1 n c x x _ hn hnb R1.out).mono ?_
            rintro e w' ⟨rfl, rfl⟩
            rw [E1.out]
            go_wp2_with fail
            refine (past_any b2 o2 m d y x _ hm hmb R2.out).mono ?_
            rintro e w' ⟨rfl, rfl⟩
            rw [E2.out]
            go_wp2
            go_roundw
            case rel => exact ⟨_, n - 1, c - 1, xt, _, m, d, _, L ++ [x], rfl, rfl, HAC.out, by omega, HB.out, hmd, HO2.out, HB2.out, HMM.out, by simp; omega⟩
            case measure => simp [lenV]; omega
        | false =>
          cases h2 : (x.toList == y.toList) with
          | true =>
            have HZ := Lib.hid (min_eq h2)
            have HMM := Lib.hid (show mergeL xs ys = (L ++ [x]) ++ mergeL xt yt by rw [HM.out, merge_eq x y xt yt h1 h2, List.append_assoc]; rfl)
            have e1 : (x.toList == x.toList) = true := by simp
            have e2 : (y.toList == x.toList) = true := by rw [Bool.beq_comm]; exact h2
            have E1 := Lib.hid e1
            have E2 := Lib.hid e2
            clear e1 e2
            go_wp2_with fail
            go_region_law ((refine step_min ?_ (.tmp 23) (.tmp 26) #[9, 9] ?_ x y x ?_ ?_ HZ.out ?_; (rfl); (rfl); (rfl); (rfl)))
            all_goals
              go_wp2_with (at_builtin; refine wpList_app rfl _ _ rfl w.heap.size w ?hb1 ?hb2 _ L rfl ?ho1 _ 1 1 [x] rfl ?hs1 (by omega) ?_)
              case hb1 => first | exact (HW.out.alloc HW.out.size _).drew | exact HW.out.drew.alloc HW.out.size _
              case hb2 => have := HW.out.size; simp; omega
              case ho1 => exact HO.out.alloc _
              case hs1 => exact sl_one _ x
              intro v2 w2 HO2 HB2 HZ2
              have r1 := (HB2.out.cell (p := ⟨b1, o1, none⟩) (World.block_lt_of_cell? w _ P1.out)).trans P1.out
              have r2 := (HB2.out.cell (p := ⟨b2, o2, none⟩) (World.block_lt_of_cell? w _ P2.out)).trans P2.out
              have R1 := Lib.hid r1
              have R2 := Lib.hid r2
              clear r1 r2
              go_wp2_with fail
              refine (past_any b1 o1 n c x x _ hn hnb R1.out).mono ?_
              rintro e w' ⟨rfl, rfl⟩
              rw [E1.out]
              go_wp2_with fail
              refine (past_any b2 o2 m d y x _ hm hmb R2.out).mono ?_
              rintro e w' ⟨rfl, rfl⟩
              rw [E2.out]
              go_wp2
              go_roundw
              case rel => exact ⟨_, n - 1, c - 1, xt, _, m - 1, d - 1, yt, L ++ [x], rfl, rfl, HAC.out, by omega, HBC.out, by omega, HO2.out, HB2.out, HMM.out, by simp; omega⟩
              case measure => simp [lenV]; omega
          | false =>
            have HZ := Lib.hid (min_gt h1 h2)
            have HMM := Lib.hid (show mergeL xs ys = (L ++ [y]) ++ mergeL (x :: xt) yt by rw [HM.out, merge_gt x y xt yt h1 h2, List.append_assoc]; rfl)
            have e1 : (x.toList == y.toList) = false := h2
            have e2 : (y.toList == y.toList) = true := by simp
            have E1 := Lib.hid e1
            have E2 := Lib.hid e2
            clear e1 e2
            go_wp2_with fail
            go_region_law ((refine step_min ?_ (.tmp 23) (.tmp 26) #[9, 9] ?_ x y y ?_ ?_ HZ.out ?_; (rfl); (rfl); (rfl); (rfl)))
            all_goals
              go_wp2_with (at_builtin; refine wpList_app rfl _ _ rfl w.heap.size w ?hb1 ?hb2 _ L rfl ?ho1 _ 1 1 [y] rfl ?hs1 (by omega) ?_)
              case hb1 => first | exact (HW.out.alloc HW.out.size _).drew | exact HW.out.drew.alloc HW.out.size _
              case hb2 => have := HW.out.size; simp; omega
              case ho1 => exact HO.out.alloc _
              case hs1 => exact sl_one _ y
              intro v2 w2 HO2 HB2 HZ2
              have r1 := (HB2.out.cell (p := ⟨b1, o1, none⟩) (World.block_lt_of_cell? w _ P1.out)).trans P1.out
              have r2 := (HB2.out.cell (p := ⟨b2, o2, none⟩) (World.block_lt_of_cell? w _ P2.out)).trans P2.out
              have R1 := Lib.hid r1
              have R2 := Lib.hid r2
              clear r1 r2
              go_wp2_with fail
              refine (past_any b1 o1 n c x y _ hn hnb R1.out).mono ?_
              rintro e w' ⟨rfl, rfl⟩
              rw [E1.out]
              go_wp2_with fail
              refine (past_any b2 o2 m d y y _ hm hmb R2.out).mono ?_
              rintro e w' ⟨rfl, rfl⟩
              rw [E2.out]
              go_wp2
              go_roundw
              case rel => exact ⟨_, n, c, _, _, m - 1, d - 1, yt, L ++ [y], rfl, rfl, HA.out, hnc, HBC.out, by omega, HO2.out, HB2.out, HMM.out, by simp; omega⟩
              case measure => simp [lenV]; omega
      · have h0 : m = 0 := by omega
        subst h0
        have hy : ys' = [] := List.length_eq_zero_iff.1 hly
        subst hy
        have HMM := Lib.hid (HM.out.trans (by rw [merge_nil2]))
        clear hA hB ho hbw hmg
        go_wp2_with (first
          | (at_builtin; refine wpList_app rfl (.tmp 38) (.tmp 39) rfl w.heap.size w HW.out HW.out.size _ L rfl HO.out A n c xs' rfl (HA.out.later HW.out) (by omega) ?_; intro v2 w2 HO2 HB2 HZ2)
          | (at_builtin; refine wpList_app rfl (.tmp 41) (.tmp 42) rfl w.heap.size w HB2.out HZ2.out _ (L ++ xs') rfl HO2.out B 0 d [] rfl (HB.out.later HB2.out) (by rw [List.length_append, hlx]; omega) ?_; intro v3 w3 HO3 HB3 HZ3))
        go_ret
        exact ⟨v3, rfl, by have := TS.of_own HO3.out; rw [HMM.out]; simpa using this, HB3.out⟩
    · have h0 : n = 0 := by omega
      subst h0
      have hx : xs' = [] := List.length_eq_zero_iff.1 hlx
      subst hx
      have HMM := Lib.hid (HM.out.trans (by rw [merge_nil]))
      clear hA hB ho hbw hmg
      go_wp2_with (first
        | (at_builtin; refine wpList_app rfl (.tmp 38) (.tmp 39) rfl w.heap.size w HW.out HW.out.size _ L rfl HO.out A 0 c [] rfl (HA.out.later HW.out) (by omega) ?_; intro v2 w2 HO2 HB2 HZ2)
        | (at_builtin; refine wpList_app rfl (.tmp 41) (.tmp 42) rfl w.heap.size w HB2.out HZ2.out _ (L ++ []) rfl HO2.out B m d ys' rfl (HB.out.later HB2.out) (by rw [List.append_nil]; omega) ?_; intro v3 w3 HO3 HB3 HZ3))
      go_ret
      exact ⟨v3, rfl, by have := TS.of_own HO3.out; rw [HMM.out]; simpa using this, HB3.out⟩

theorem find_all (a : Option Addr) (len cap : Nat) (ss : List ByteArray) (x : ByteArray) (w : World) (hsl : SlN w a len ss) (hlm : len ≤ 1000000) (hr : Rise ss) :
    Calls Try.prog 13 #[.slice a len cap, .string x] w fun e w' => e = .returned (.tuple #[.int .i64 (lessN ss x : Int), .bool (inB ss x)]) ∧ w = w' := by
  rw [← in_met hr]
  exact find_any a len cap ss x (lessN ss x) w hsl hlm (cut_of ss x hr)
theorem with_all (a : Option Addr) (len cap : Nat) (ss : List ByteArray) (x : ByteArray) (w : World) (hsl : SlN w a len ss) (hlm : len ≤ 100000) (hlc : len ≤ cap) (hr : Rise ss) :
    Calls Try.prog 14 #[.slice a len cap, .string x] w (RetTS2 w (withL ss x) (!inB ss x)) := by
  cases hq : inB ss x with
  | true => rw [with_yes hq]; exact withYes_any a len cap ss x _ w hsl hlm (cut_of ss x hr) ((in_met hr).trans hq)
  | false => rw [with_no hq]; exact withNo_any a len cap ss x _ w hsl hlm hlc (cut_of ss x hr) ((in_met hr).trans hq)
theorem without_all (a : Option Addr) (len cap : Nat) (ss : List ByteArray) (x : ByteArray) (w : World) (hsl : SlN w a len ss) (hlm : len ≤ 100000) (hlc : len ≤ cap) (hr : Rise ss) :
    Calls Try.prog 15 #[.slice a len cap, .string x] w (RetTS2 w (onlyL ss [x]) (inB ss x)) := by
  cases hq : inB ss x with
  | true =>
    have hm := (in_met hr).trans hq
    rw [← wo_yes hr hm]
    exact withoutYes_any a len cap ss x _ w hsl hlm hlc (cut_of ss x hr) hm
  | false =>
    have h := withoutNo_any a len cap ss x _ w hsl hlm (cut_of ss x hr) ((in_met hr).trans hq)
    rw [← wo_no hq]
    exact h
/-- a call that answers true; one that answers a bool -/
def RetB (w : World) (b : Bool) (e : Ending) (w' : World) : Prop := e = .returned (.bool b) ∧ Below w.heap.size w w'
theorem texts_ts (va vb : Value) (L : List ByteArray) (w : World) (ha : TS w va L) (hb : TS w vb L) (hl : L.length ≤ 1000000) :
    Calls Try.prog 18 #[va, vb] w (RetB w true) := by
  obtain ⟨a, c, rfl, hs, _, _⟩ := ha
  obtain ⟨b, d, rfl, ht, _, _⟩ := hb
  refine (texts_same a c b d L.length L w hs ht hl).mono ?_
  rintro e w' ⟨rfl, q, rfl⟩
  exact ⟨rfl, bel_drewN (Below.refl _ _) q⟩
theorem rises_any (a : Option Addr) (len cap : Nat) (ss : List ByteArray) (w : World) (hsl : SlN w a len ss) (hlm : len ≤ maxLen) :
    Calls Try.prog 11 #[.slice a len cap] w (RetB w (riseB ss)) := by
  refine (refRises_any a len cap ss w hsl hlm).mono ?_
  rintro e w' ⟨rfl, q, rfl⟩
  exact ⟨rfl, bel_drewN (Below.refl _ _) q⟩
theorem own_zero_b (w : World) (B : Nat) (h : B ≤ w.heap.size) : OwnS (w.alloc (.cells #[] 9)) B (.slice (some ⟨w.heap.size, 0, none⟩) 0 0) [] := own_zero_at (MapKept.heap_alloc w _).1 h
theorem merge_len {a b : List ByteArray} (ha : Rise a) (hb : Rise b) : (mergeL a b).length ≤ a.length + b.length := by rw [← all_merge ha hb]; exact fold_len b a
end Go.Proofs.Ytlkhgjgefhcicaa
