/- Few of entries; keys.take; what a round of KeysTake holds, in one. Conditions: as in the texts it is made of. -/
import Derived.Test.YtbjngbacnkmjhaaOpc
import Derived.Test.YtbjngbacnkmjhaaKMa
import Derived.Test.YtbjngbacnkmjhaaAa
import Derived.Test.YtbjngbacnkmjhaaKMb
import Derived.Lib.MinMax
import Derived.OrdersHeld
import Derived.Test.YtbjngbacnkmjhaaProg
import Derived.Deep.RegionHeld3
namespace Go.Proofs.Ytbjngbacnkmjhaa
open Go.RowKit Vi

/-- what is taken: a node, an edge of one's own -/
def TkNX (x : Nd) (v : Value) (w : World) (e : Ending) (w' : World) : Prop :=
  ∃ a b : SlA, e = .returned (.tuple #[.agg #[.string x.1, slV a, slV b], v]) ∧ PO w' a b x.2.1 x.2.2 ∧ Below w.heap.size w w'
def TkEX (x : Ed) (v : Value) (w : World) (e : Ending) (w' : World) : Prop :=
  ∃ a b : SlA, e = .returned (.tuple #[.agg #[.string x.1, .string x.2.1, .string x.2.2.1, slV a, slV b], v]) ∧ PO w' a b x.2.2.2.1 x.2.2.2.2 ∧ Below w.heap.size w w'
theorem PO.of_rd {w : World} {B : Nat} {vL vP : Value} {ss : List ByteArray} {ps : List Pr} (h : RdOk w B vL vP ss ps) : ∃ a b : SlA, vL = slV a ∧ vP = slV b ∧ PO w a b ss ps := by
  obtain ⟨A, c, e, r, _, _⟩ := h.rl.rd stC_len
  obtain ⟨A2, c2, e2, r2, _, _⟩ := h.rp.rd prC_len
  refine ⟨⟨A, ss.length, c⟩, ⟨A2, ps.length, c2⟩, e, e2, ?_, ?_⟩
  · rw [show slV ⟨A, ss.length, c⟩ = vL from e.symm]; exact h.rl.mono (Nat.zero_le _)
  · rw [show slV ⟨A2, ps.length, c2⟩ = vP from e2.symm]; exact h.rp.mono (Nat.zero_le _)
theorem TakeN.yesX {ok bad : Value} {i S : ByteArray} {w : World} {ss : List ByteArray} {ps : List Pr} (h : IsN i S ss ps) (e : Ending) (w' : World) (k : TakeN ok bad i S w e w') : TkNX (i, ss, ps) ok w e w' := by
  rcases k with ⟨ss', ps', vL, vP, h1, h2, rfl, h4, h5⟩ | ⟨h1, _⟩
  · obtain ⟨rfl, rfl⟩ := h2 ss ps h
    obtain ⟨a, b, rfl, rfl, h6⟩ := PO.of_rd h4
    exact ⟨a, b, rfl, h6, h5⟩
  · exact absurd h (h1 _ _)
theorem TakeN.noX {ok bad : Value} {i S : ByteArray} {w : World} (h : ∀ ss ps, ¬ IsN i S ss ps) (e : Ending) (w' : World) (k : TakeN ok bad i S w e w') : TkNX (⟨#[]⟩, [], []) bad w e w' := by
  rcases k with ⟨ss', ps', vL, vP, h1, _⟩ | ⟨_, rfl, h3⟩
  · exact absurd h1 (h _ _)
  · exact ⟨⟨none, 0, 0⟩, ⟨none, 0, 0⟩, rfl, PO.nil _, h3⟩
theorem TakeE.yesX {ok bad : Value} {i S f g : ByteArray} {w : World} {ss : List ByteArray} {ps : List Pr} (h : IsE i S f g ss ps) (e : Ending) (w' : World) (k : TakeE ok bad i S w e w') : TkEX (i, f, g, ss, ps) ok w e w' := by
  rcases k with ⟨f', g', ss', ps', vL, vP, h1, h2, rfl, h4, h5⟩ | ⟨h1, _⟩
  · obtain ⟨rfl, rfl, rfl, rfl⟩ := h2 f g ss ps h
    obtain ⟨a, b, rfl, rfl, h6⟩ := PO.of_rd h4
    exact ⟨a, b, rfl, h6, h5⟩
  · exact absurd h (h1 _ _ _ _)
theorem TakeE.noX {ok bad : Value} {i S : ByteArray} {w : World} (h : ∀ f g ss ps, ¬ IsE i S f g ss ps) (e : Ending) (w' : World) (k : TakeE ok bad i S w e w') : TkEX (⟨#[]⟩, ⟨#[]⟩, ⟨#[]⟩, [], []) bad w e w' := by
  rcases k with ⟨f', g', ss', ps', vL, vP, h1, _⟩ | ⟨_, rfl, h3⟩
  · exact absurd h1 (h _ _ _ _)
  · exact ⟨⟨none, 0, 0⟩, ⟨none, 0, 0⟩, rfl, PO.nil _, h3⟩
end Go.Proofs.Ytbjngbacnkmjhaa
namespace Go.Proofs.Ytbjngbacnkmjhaa
open Go.RowKit Vi

/-- may a node and an edge make a key? -/
def okK (a b : ByteArray) : Bool := nm a && nm b
theorem okK_l {a b : ByteArray} (h : okK a b = true) : nm a = true := by unfold okK at h; rw [Bool.and_eq_true] at h; exact h.1
theorem okK_r {a b : ByteArray} (h : okK a b = true) : nm b = true := by unfold okK at h; rw [Bool.and_eq_true] at h; exact h.2
theorem okK_yes {a b : ByteArray} (h : okK a b = true) : orL [nck a, nck b] = 0 := by
  rw [nck_yes a (okK_l h), nck_yes b (okK_r h)]; rfl
theorem okK_no {a b : ByteArray} (h : okK a b = false) : orL [nck a, nck b] = 2 := by
  cases h1 : nm a with
  | false => rw [nck_no a h1]; rfl
  | true =>
    have h2 : nm b = false := by unfold okK at h; rw [h1] at h; simpa using h
    rw [nck_yes a h1, nck_no b h2]; rfl
theorem kbegin_any (a : ByteArray) (w : World) (ha : a.size ≤ 1000000) :
    Calls Try.prog 198 #[.string a] w fun e w' => e = .returned (.string (a ++ ⟨#[0]⟩)) ∧ w = w' := by
  have h1 : ¬ 9223372036854775807 < a.size + 1 := by omega
  go_enter Try.func198, Try.ntmps198
  go_wp2_with fail
  go_ret
  exact ⟨rfl, rfl⟩
set_option maxRecDepth 100000 in
set_option maxHeartbeats 1000000 in
theorem kof_yes (a b : ByteArray) (w : World) (ha : a.size ≤ 1000000) (hb : b.size ≤ 1000000) (h : okK a b = true) :
    Calls Try.prog 134 #[.string a, .string b] w fun e w' => e = .returned (.tuple #[.string (a ++ ⟨#[0]⟩ ++ b), .int .i64 0]) ∧ Below w.heap.size w w' := by
  have HN1 := Lib.hid (fun W : World => ncheck_any a W (by unfold maxLen; omega))
  have HN2 := Lib.hid (fun W : World => ncheck_any b W (by unfold maxLen; omega))
  have HG := Lib.hid (fun W : World => kbegin_any a W ha)
  have HZ := Lib.hid (okK_yes h)
  obtain ⟨x, hx⟩ : ∃ x, x = nck a := ⟨_, rfl⟩
  obtain ⟨y, hy⟩ : ∃ y, y = nck b := ⟨_, rfl⟩
  rw [← hx] at HN1 HZ
  rw [← hy] at HN2 HZ
  clear hx hy h
  have h1 : ¬ 9223372036854775807 < a.size + 1 := by omega
  have h2 : ¬ 9223372036854775807 < a.size + 1 + b.size := by omega
  go_enter Try.func134, Try.ntmps134
  go_wp2_with fail
  refine (HN1.out _).mono ?_
  rintro e w' ⟨rfl, rfl⟩
  go_wp2_with fail
  refine (HN2.out _).mono ?_
  rintro e w' ⟨rfl, rfl⟩
  have HF := Lib.hid (blk_new w (.cells #[.int .i64 x, .int .i64 y] 26 (0, 0)))
  have HB := Lib.hid ((Below.refl w.heap.size w).alloc (Nat.le_refl _) (.cells #[.int .i64 x, .int .i64 y] 26 (0, 0)))
  go_wp2_with fail
  refine (orE_any _ 0 2 2 [x, y] _ (rd_blk (f := ieC) (s := 1) (fun _ => rfl) [x, y] HF.out rfl) (by omega)).mono ?_
  rintro e w' ⟨rfl, rfl⟩
  rw [HZ.out]
  go_wp2_with fail
  refine (HG.out _).mono ?_
  rintro e w' ⟨rfl, rfl⟩
  go_wp2_with fail
  go_ret2
  exact ⟨rfl, HB.out⟩
/-- the chapter's example -/
theorem awake31_any (w : World) : Calls Try.prog 49 #[] w fun e w' => e = .returned (.bool true) ∧ Below w.heap.size w w' := by
  have HO := Lib.hid (fun W : World => kof_yes ⟨#[97]⟩ ⟨#[120]⟩ W (by decide) (by decide) (by decide))
  rw [show (⟨#[97]⟩ : ByteArray) ++ ⟨#[0]⟩ ++ ⟨#[120]⟩ = ⟨#[97, 0, 120]⟩ from rfl] at HO
  go_enter Try.func49, Try.ntmps49
  go_wp2_with fail
  refine (HO.out _).mono ?_
  rintro e w1 ⟨rfl, hb⟩
  go_wp2_with fail
  go_ret
  exact ⟨rfl, hb⟩
end Go.Proofs.Ytbjngbacnkmjhaa
namespace Go.Proofs.Ytbjngbacnkmjhaa
open Go.RowKit Vi

abbrev En := ByteArray × ByteArray
def enC (x : En) : List Value := [.string x.1, .string x.2]
def wsE (l : List En) : Nat := (l.map fun x => min x.1.size 10000 + min x.2.size 10000).sum
theorem wsE_take (l : List En) (k : Nat) {x : En} (h : l[k]? = some x) : wsE (l.take (k + 1)) = wsE (l.take k) + (min x.1.size 10000 + min x.2.size 10000) := by
  obtain ⟨hl, rfl⟩ := List.getElem?_eq_some_iff.1 h
  rw [List.take_succ_eq_append_getElem hl]; unfold wsE; rw [List.map_append, List.sum_append]; simp
theorem wsE_le (l : List En) : wsE l ≤ 20000 * l.length := by
  induction l with
  | nil => simp [wsE]
  | cons s r ih => unfold wsE at ih ⊢; simp only [List.map_cons, List.sum_cons, List.length_cons]; omega
theorem wsE_mem (l : List En) : ∀ x ∈ l, min x.1.size 10000 + min x.2.size 10000 ≤ wsE l := by
  induction l with
  | nil => intro x hx; cases hx
  | cons s r ih =>
    intro x hx
    unfold wsE at ih ⊢
    simp only [List.map_cons, List.sum_cons]
    rcases List.mem_cons.1 hx with rfl | hx
    · omega
    · have := ih x hx; omega
def gdL {α : Type} (rs : List (α × Bool)) : List α := if rs.all (·.2) = true then rs.map (·.1) else []
def gdZ {α : Type} (rs : List (α × Bool)) : Int := if rs.all (·.2) = true then 0 else 3
theorem gd_yes {α : Type} {rs : List (α × Bool)} (h : rs.all (·.2) = true) : gdL rs = rs.map (·.1) ∧ gdZ rs = 0 := by unfold gdL gdZ; rw [h]; exact ⟨rfl, rfl⟩
theorem gd_no {α : Type} {rs : List (α × Bool)} (h : rs.all (·.2) = false) : gdL rs = [] ∧ gdZ rs = 3 := by unfold gdL gdZ; rw [h]; exact ⟨rfl, rfl⟩
theorem ret2Z {v : Value} {a b : Int} (h : a = b) : Ending.returned (.tuple #[v, .int .i64 a]) = .returned (.tuple #[v, .int .i64 b]) := by rw [h]
def FewEn (n : Nat) (l : List En) (w : World) (e : Ending) (w' : World) : Prop := ∃ b : Bool, e = .returned (.bool b) ∧ (b = true → n ≤ 60 ∧ ∀ x ∈ l, x.1.size ≤ 6000 ∧ x.2.size ≤ 6000) ∧ Below w.heap.size w w'
theorem keq {a b : Int} (h : a = b) : Value.int .i64 a = Value.int .i64 b := by rw [h]
set_option maxRecDepth 100000 in
set_option maxHeartbeats 4000000 in
theorem few20_any (A : Option Addr) (n c : Nat) (l : List En) (w : World) (h : RdX enC 2 w A n l) (hm : n ≤ maxLen) :
    Calls Try.prog 48 #[.slice A n c, .int .i64 60] w (FewEn n l w) := by
  have H := Lib.hid h
  have HL := Lib.hid h.1
  unfold maxLen at hm
  clear h
  have HB1 := Lib.hid (Below.refl w.heap.size w)
  go_enter Try.func48, Try.ntmps48
  go_wp2_with fail
  go_loopw [5, 6] (fun s i wr => ∃ k m : Nat, s = .int .i64 (m : Int) ∧ i = .int .i64 (k : Int) ∧ k ≤ n ∧ k ≤ 61 ∧ Hid (m = wsE (l.take k)) ∧ Below w.heap.size w wr) (fun _ i _ => n - (intOf i).toNat)
  case atStart => exact ⟨0, 0, rfl, rfl, Nat.zero_le _, by omega, Lib.hid rfl, HB1.out⟩
  case round =>
    obtain ⟨k, m, rfl, rfl, hk, hk1, HM, hb⟩ := hrel
    have hmm : m ≤ 20000 * k := by rw [HM.out]; have := wsE_le (l.take k); rw [List.length_take] at this; omega
    have HB := Lib.hid hb
    clear hb
    by_cases hlt : k < n ∧ k ≤ 60
    · obtain ⟨hlt, h20⟩ := hlt
      have hd1 : decide ((k : Int) < (n : Int)) = true := decide_eq_true (by omega)
      have hd2 : decide ((k : Int) ≤ 60) = true := decide_eq_true (by omega)
      obtain ⟨b, off, hl, rfl, hbb, _⟩ := (H.out.below HB.out).at hlt
      obtain ⟨x, hx⟩ : ∃ x, l[k] = x := ⟨_, rfl⟩
      have HX := Lib.hid (show l[k]? = some x by rw [List.getElem?_eq_getElem hl, hx])
      have HT := Lib.hid (wsE_take l k HX.out)
      obtain ⟨s, v⟩ := x
      have hi0 : (0 : Int) ≤ (k : Int) := by omega
      clear hx
      have hv0 : IntKind.i64.wrap ((m : Int) + min (s.size : Int) 10000) = (m : Int) + min (s.size : Int) 10000 := IntWalk.i64_in _ (by omega)
      have hv1 : IntKind.i64.wrap (((m : Int) + min (s.size : Int) 10000) + min (v.size : Int) 10000) = ((m : Int) + min (s.size : Int) 10000) + min (v.size : Int) 10000 := IntWalk.i64_in _ (by omega)
      have hc101 : wr.cell? ⟨b, off + k * 2, none⟩ = some (.string s) := (H.out.below HB.out).cellAt HX.out hlt 0 _ rfl
      have hc102 : wr.cell? ⟨b, off + k * 2 + 1, none⟩ = some (.string v) := (H.out.below HB.out).cellAt HX.out hlt 1 _ rfl
      go_wp2_with fail
      have Rhc101 := fun d os => cell_regrown hc101 d os
      have Rhc102 := fun d os => cell_regrown hc102 d os
      refine wp_region_quiet_below (by kernel_rfl) (by kernel_rfl) ?_
      repeat (any_goals (first | go_big_quiet_step (fail) | quiet_step (fail) | (refine wpQuiet_step (fun K hK => ?_); go_simp; refine hK _ ?_; clear hK K)))
      refine wpQuiet_nil ?_
      intro w11 hw11
      have hb11 := below_anyY hw11
      clear hw11 Rhc101 Rhc102
      have HB2 := Lib.hid (HB.out.trans (hb11.mono HB.out.size))
      clear hb11 hv0 hv1 hc101 hc102
      go_wp2_with fail
      go_roundw
      case rel => exact ⟨k + 1, m + min s.size 10000 + min v.size 10000, keq (by omega), by go_num, by omega, by omega, Lib.hid (by rw [HT.out, ← HM.out, Nat.add_assoc]), HB2.out⟩
      case measure => simp [intOf] <;> omega
    · have hd0 : (decide ((k : Int) < (n : Int)) = false) ∨ (decide ((k : Int) < (n : Int)) = true ∧ decide ((k : Int) ≤ 60) = false) := by
        by_cases h1 : k < n
        · exact Or.inr ⟨decide_eq_true (by omega), decide_eq_false (by omega)⟩
        · exact Or.inl (decide_eq_false (by omega))
      by_cases h2 : n ≤ 60
      · have d2 : decide ((n : Int) ≤ 60) = true := decide_eq_true (by omega)
        by_cases h3 : m ≤ 6000
        · have d3 : decide ((m : Int) ≤ 6000) = true := decide_eq_true (by omega)
          have HF := Lib.hid (show ∀ x ∈ l, x.1.size ≤ 6000 ∧ x.2.size ≤ 6000 by
            intro x hx
            have h4 := wsE_mem l x hx
            have h5 : m = wsE l := by rw [HM.out, List.take_of_length_le (by rw [HL.out]; omega)]
            omega)
          rcases hd0 with hd1 | ⟨hd1, hd2⟩
          all_goals
            go_wp2_with fail
            all_goals
              go_ret
              exact ⟨_, rfl, (fun _ => ⟨h2, HF.out⟩), HB.out⟩
        · have d3 : decide ((m : Int) ≤ 6000) = false := decide_eq_false (by omega)
          rcases hd0 with hd1 | ⟨hd1, hd2⟩
          all_goals
            go_wp2_with fail
            all_goals
              go_ret
              exact ⟨_, rfl, (fun h => by cases h), HB.out⟩
      · have d2 : decide ((n : Int) ≤ 60) = false := decide_eq_false (by omega)
        rcases hd0 with hd1 | ⟨hd1, hd2⟩
        all_goals
          go_wp2_with fail
          all_goals
            go_ret
            exact ⟨_, rfl, (fun h => by cases h), HB.out⟩
/-- what an entry says, and whether it says anything -/
def TkNOf (x : En) (r : Nd × Bool) : Prop := (r.1.2.1.length ≤ 8 ∧ r.1.2.2.length ≤ 8) ∧ (∀ W, Calls Try.prog 140 #[.string x.1, .string x.2] W (TkNX r.1 (.int .i64 (if r.2 = true then 0 else 3)) W)) ∧ (∀ W, Calls Try.prog 50 #[.string x.1, .string x.2] W (TkNX r.1 (.bool r.2) W))
theorem tkN_of (x : En) (h1 : x.1.size ≤ 6000) (h2 : x.2.size ≤ 6000) : ∃ r, TkNOf x r := by
  have m1 : x.1.size ≤ maxLen := by unfold maxLen; omega
  by_cases h : ∃ ss ps, IsN x.1 x.2 ss ps
  · obtain ⟨ss, ps, h⟩ := h
    exact ⟨((x.1, ss, ps), true), ⟨h.small.1, h.small.2⟩, fun W => (tnode_any x.1 x.2 W m1 (by omega)).mono (TakeN.yesX h), fun W => (rtnode_any x.1 x.2 W m1 (by omega)).mono (TakeN.yesX h)⟩
  · have h : ∀ ss ps, ¬ IsN x.1 x.2 ss ps := fun ss ps k => h ⟨ss, ps, k⟩
    exact ⟨((⟨#[]⟩, [], []), false), ⟨by simp, by simp⟩, fun W => (tnode_any x.1 x.2 W m1 (by omega)).mono (TakeN.noX h), fun W => (rtnode_any x.1 x.2 W m1 (by omega)).mono (TakeN.noX h)⟩
theorem tkN_all (l : List En) (h : ∀ x ∈ l, x.1.size ≤ 6000 ∧ x.2.size ≤ 6000) : ∃ rs : List (Nd × Bool), rs.length = l.length ∧ ∀ (k : Nat) x r, l[k]? = some x → rs[k]? = some r → TkNOf x r := by
  induction l with
  | nil => exact ⟨[], rfl, fun k x r hx _ => by simp at hx⟩
  | cons y t ih =>
    obtain ⟨rs, h1, h2⟩ := ih (fun x hx => h x (List.mem_cons_of_mem _ hx))
    obtain ⟨r0, hr⟩ := tkN_of y (h y (by simp)).1 (h y (by simp)).2
    refine ⟨r0 :: rs, by simp [h1], fun k x r hx hr2 => ?_⟩
    cases k with
    | zero => simp at hx hr2; subst hx hr2; exact hr
    | succ k => simp at hx hr2; exact h2 k x r hx hr2
/-- what an entry says, and whether it says anything -/
def TkEOf (x : En) (r : Ed × Bool) : Prop := (r.1.2.2.2.1.length ≤ 8 ∧ r.1.2.2.2.2.length ≤ 8) ∧ (∀ W, Calls Try.prog 142 #[.string x.1, .string x.2] W (TkEX r.1 (.int .i64 (if r.2 = true then 0 else 3)) W)) ∧ (∀ W, Calls Try.prog 51 #[.string x.1, .string x.2] W (TkEX r.1 (.bool r.2) W))
theorem tkE_of (x : En) (h1 : x.1.size ≤ 6000) (h2 : x.2.size ≤ 6000) : ∃ r, TkEOf x r := by
  have m1 : x.1.size ≤ maxLen := by unfold maxLen; omega
  by_cases h : ∃ f g ss ps, IsE x.1 x.2 f g ss ps
  · obtain ⟨f, g, ss, ps, h⟩ := h
    exact ⟨((x.1, f, g, ss, ps), true), ⟨h.small.1, h.small.2⟩, fun W => (tedge_any x.1 x.2 W m1 (by omega)).mono (TakeE.yesX h), fun W => (rtedge_any x.1 x.2 W m1 (by omega)).mono (TakeE.yesX h)⟩
  · have h : ∀ f g ss ps, ¬ IsE x.1 x.2 f g ss ps := fun f g ss ps k => h ⟨f, g, ss, ps, k⟩
    exact ⟨((⟨#[]⟩, ⟨#[]⟩, ⟨#[]⟩, [], []), false), ⟨by simp, by simp⟩, fun W => (tedge_any x.1 x.2 W m1 (by omega)).mono (TakeE.noX h), fun W => (rtedge_any x.1 x.2 W m1 (by omega)).mono (TakeE.noX h)⟩
theorem tkE_all (l : List En) (h : ∀ x ∈ l, x.1.size ≤ 6000 ∧ x.2.size ≤ 6000) : ∃ rs : List (Ed × Bool), rs.length = l.length ∧ ∀ (k : Nat) x r, l[k]? = some x → rs[k]? = some r → TkEOf x r := by
  induction l with
  | nil => exact ⟨[], rfl, fun k x r hx _ => by simp at hx⟩
  | cons y t ih =>
    obtain ⟨rs, h1, h2⟩ := ih (fun x hx => h x (List.mem_cons_of_mem _ hx))
    obtain ⟨r0, hr⟩ := tkE_of y (h y (by simp)).1 (h y (by simp)).2
    refine ⟨r0 :: rs, by simp [h1], fun k x r hx hr2 => ?_⟩
    cases k with
    | zero => simp at hx hr2; subst hx hr2; exact hr
    | succ k => simp at hx hr2; exact h2 k x r hx hr2
def TookN (X : List Nd) (z : Int) (w : World) (e : Ending) (w' : World) : Prop := ∃ v R, e = .returned (.tuple #[v, .int .i64 z]) ∧ OwX ndC 3 81 w' w.heap.size v R ∧ NdsOwn w' R X ∧ Below w.heap.size w w'
set_option maxRecDepth 100000 in
set_option maxHeartbeats 4000000 in
theorem takeN_any (A : Option Addr) (n c : Nat) (l : List En) (rs : List (Nd × Bool)) (w : World) (h : RdX enC 2 w A n l) (hn : n ≤ 60) (hr : rs.length = l.length) (hk : ∀ (k : Nat) x r, l[k]? = some x → rs[k]? = some r → TkNOf x r) :
    Calls Try.prog 139 #[.slice A n c, .func (.func 140) #[] #[]] w (TookN (gdL rs) (gdZ rs) w) := by
  have H := Lib.hid h
  have HL := Lib.hid h.1
  have HR := Lib.hid hr
  have HK := Lib.hid hk
  clear h hr hk
  go_enter Try.func139, Try.ntmps139
  go_wp2_with fail
  go_loopw [6, 13] (fun v i wr => ∃ (k : Nat) (R : List NdR), i = .int .i64 (k : Int) ∧ k ≤ n ∧ OwX ndC 3 81 wr w.heap.size v R ∧ NdsOwn wr R ((rs.take k).map (·.1)) ∧ Hid ((rs.take k).all (·.2) = true) ∧ Below w.heap.size w wr) (fun _ i _ => n - (intOf i).toNat)
  case atStart => exact ⟨0, [], rfl, Nat.zero_le _, OwX.nil w, NdsOwn.nil w, Lib.hid rfl, Below.refl _ _⟩
  case round =>
    obtain ⟨k, R, rfl, hk, hox, hds, HA, hb⟩ := hrel
    have HB := Lib.hid hb
    have HO := Lib.hid hox
    have HD := Lib.hid hds
    have hsz := hb.size
    obtain ⟨av, nv, cv, rfl⟩ := hox.sl3
    clear hb hox hds
    by_cases hlt : k < n
    · have hd1 : decide ((k : Int) < (n : Int)) = true := decide_eq_true (by omega)
      have hi0 : (0 : Int) ≤ (k : Int) := by omega
      obtain ⟨b0, off, hl, rfl, hbb, _⟩ := (H.out.below HB.out).at hlt
      have hrl : k < rs.length := by rw [HR.out]; exact hl
      obtain ⟨x, hx⟩ : ∃ x, x = l[k] := ⟨_, rfl⟩
      obtain ⟨q, hq⟩ : ∃ q, q = rs[k] := ⟨_, rfl⟩
      have HX := Lib.hid (show l[k]? = some x by rw [List.getElem?_eq_getElem hl, hx])
      have HQ := Lib.hid (show rs[k]? = some q by rw [List.getElem?_eq_getElem hrl, hq])
      have HTA := Lib.hid (show rs.take (k + 1) = rs.take k ++ [q] by rw [List.take_succ_eq_append_getElem hrl, hq])
      have HMQ := Lib.hid (show q ∈ rs by rw [hq]; exact List.getElem_mem hrl)
      obtain ⟨hsm, hc, _⟩ := HK.out k x q HX.out HQ.out
      have HC := Lib.hid hc
      obtain ⟨ks, vs⟩ := x
      clear hx hq hc hsm
      obtain ⟨⟨j, ss, ps⟩, hq2⟩ := q
      cases hq2 with
      | false =>
        have HC : Hid (∀ W, Calls Try.prog 140 #[.string ks, .string vs] W (TkNX (j, ss, ps) (.int .i64 3) W)) := HC
        have HB0 := Lib.hid (Below.refl wr.heap.size wr)
        have hc101 : wr.cell? ⟨b0, off + k * 2, none⟩ = some (.string ks) := (H.out.below HB.out).cellAt HX.out hlt 0 _ rfl
        have hc102 : wr.cell? ⟨b0, off + k * 2 + 1, none⟩ = some (.string vs) := (H.out.below HB.out).cellAt HX.out hlt 1 _ rfl
        have HF103 := Lib.hid (blk_new wr (.cells #[.string ks, .string vs] 78 (0, 0)))
        have HB104 := Lib.hid (HB0.out.alloc HB0.out.size (.cells #[.string ks, .string vs] 78 (0, 0)))
        clear HB0
        have hc105 : (wr.alloc (.cells #[.string ks, .string vs] 78 (0, 0))).cell? ⟨wr.heap.size, 0, none⟩ = some (.string ks) := by rw [cell_of_row _ _ _ _ _ _ HF103.out]; rfl
        have hc106 : (wr.alloc (.cells #[.string ks, .string vs] 78 (0, 0))).cell? ⟨wr.heap.size, 1, none⟩ = some (.string vs) := by rw [cell_of_row _ _ _ _ _ _ HF103.out]; rfl
        go_wp2_with fail
        clear hc105 hc106
        clear hc101 hc102
        refine (HC.out (wr.alloc (.cells #[.string ks, .string vs] 78 (0, 0)))).mono ?_
        rintro e w11 ⟨⟨a1, a2, a3⟩, ⟨b1, b2, b3⟩, rfl, hpo, hb11⟩
        have HF107 := Lib.hid (blk_below HF103.out hb11)
        have HB108 := Lib.hid (HB104.out.trans (hb11.mono (by have := HB104.out.size; simp at this ⊢ <;> omega)))
        clear hb11 HB104 HF103
        have HPO := Lib.hid hpo
        clear hpo
        simp only [slV]
        have HO1 := Lib.hid (HO.out.kept HB108.out)
        have HD1 := Lib.hid (HD.out.below HB108.out)
        have HBa := Lib.hid (HB.out.trans (HB108.out.mono HB.out.size))
        have hz1 := HB108.out.size
        have HF := Lib.hid (gd_no (rs := rs) (by
          cases he : rs.all (·.2) with
          | false => rfl
          | true => exact absurd (List.all_eq_true.1 he _ HMQ.out) (by simp)))
        go_wp2_with fail
        go_ret2
        exact ⟨.slice none 0 0, [], ret2Z HF.out.2.symm, OwX.nil _, by rw [HF.out.1]; exact NdsOwn.nil _, HBa.out.alloc HBa.out.size _⟩
      | true =>
        have HC : Hid (∀ W, Calls Try.prog 140 #[.string ks, .string vs] W (TkNX (j, ss, ps) (.int .i64 0) W)) := HC
        have HB0 := Lib.hid (Below.refl wr.heap.size wr)
        have hc101 : wr.cell? ⟨b0, off + k * 2, none⟩ = some (.string ks) := (H.out.below HB.out).cellAt HX.out hlt 0 _ rfl
        have hc102 : wr.cell? ⟨b0, off + k * 2 + 1, none⟩ = some (.string vs) := (H.out.below HB.out).cellAt HX.out hlt 1 _ rfl
        have HF103 := Lib.hid (blk_new wr (.cells #[.string ks, .string vs] 78 (0, 0)))
        have HB104 := Lib.hid (HB0.out.alloc HB0.out.size (.cells #[.string ks, .string vs] 78 (0, 0)))
        clear HB0
        have hc105 : (wr.alloc (.cells #[.string ks, .string vs] 78 (0, 0))).cell? ⟨wr.heap.size, 0, none⟩ = some (.string ks) := by rw [cell_of_row _ _ _ _ _ _ HF103.out]; rfl
        have hc106 : (wr.alloc (.cells #[.string ks, .string vs] 78 (0, 0))).cell? ⟨wr.heap.size, 1, none⟩ = some (.string vs) := by rw [cell_of_row _ _ _ _ _ _ HF103.out]; rfl
        go_wp2_with fail
        clear hc105 hc106
        clear hc101 hc102
        refine (HC.out (wr.alloc (.cells #[.string ks, .string vs] 78 (0, 0)))).mono ?_
        rintro e w11 ⟨⟨a1, a2, a3⟩, ⟨b1, b2, b3⟩, rfl, hpo, hb11⟩
        have HF107 := Lib.hid (blk_below HF103.out hb11)
        have HB108 := Lib.hid (HB104.out.trans (hb11.mono (by have := HB104.out.size; simp at this ⊢ <;> omega)))
        clear hb11 HB104 HF103
        have HPO := Lib.hid hpo
        clear hpo
        simp only [slV]
        have HO1 := Lib.hid (HO.out.kept HB108.out)
        have HD1 := Lib.hid (HD.out.below HB108.out)
        have HBa := Lib.hid (HB.out.trans (HB108.out.mono HB.out.size))
        have hz1 := HB108.out.size
        have HE1 := Lib.hid (show (rs.take (k + 1)).all (·.2) = true by rw [HTA.out, List.all_append, HA.out]; rfl)
        have HF109 := Lib.hid (blk_alloc HF107.out (.cells #[.string j, .slice a1 a2 a3, .slice b1 b2 b3] 81 (0, 0)))
        have HF110 := Lib.hid (blk_new w11 (.cells #[.string j, .slice a1 a2 a3, .slice b1 b2 b3] 81 (0, 0)))
        have HB111 := Lib.hid (HB108.out.alloc HB108.out.size (.cells #[.string j, .slice a1 a2 a3, .slice b1 b2 b3] 81 (0, 0)))
        clear HB108
        have hc112 : (w11.alloc (.cells #[.string j, .slice a1 a2 a3, .slice b1 b2 b3] 81 (0, 0))).cell? ⟨w11.heap.size, 0, none⟩ = some (.string j) := by rw [cell_of_row _ _ _ _ _ _ HF110.out]; rfl
        have hc113 : (w11.alloc (.cells #[.string j, .slice a1 a2 a3, .slice b1 b2 b3] 81 (0, 0))).cell? ⟨w11.heap.size, 1, none⟩ = some (.slice a1 a2 a3) := by rw [cell_of_row _ _ _ _ _ _ HF110.out]; rfl
        have hc114 : (w11.alloc (.cells #[.string j, .slice a1 a2 a3, .slice b1 b2 b3] 81 (0, 0))).cell? ⟨w11.heap.size, 2, none⟩ = some (.slice b1 b2 b3) := by rw [cell_of_row _ _ _ _ _ _ HF110.out]; rfl
        have hrn : ((w11.alloc (.cells #[.string j, .slice a1 a2 a3, .slice b1 b2 b3] 81 (0, 0))).alloc (.cells #[.string j, .slice a1 a2 a3, .slice b1 b2 b3] 81 (0, 0))).heap[w11.heap.size + 1]? = some (.cells #[.string j, .slice a1 a2 a3, .slice b1 b2 b3] 81 (0, 0)) := blk_newN (by simp)
        go_wp2_with (at_builtin; refine wpList_appX rfl (.tmp 29) (.tmp 31) 62 81 _ 64 rfl Try.underlying62 info_ndB rfl (by omega) (by omega) ndC_len ndC_one w.heap.size w ((HBa.out.alloc HBa.out.size _).alloc (by have := HBa.out.size; simp at this ⊢ <;> omega) _) (by have := HBa.out.size; simp at this ⊢ <;> omega) (.slice av nv cv) R rfl ((HO1.out.alloc _).alloc _) (w11.heap.size + 1) 1 (j, ⟨a1, a2, a3⟩, ⟨b1, b2, b3⟩) _ 81 (0, 0) rfl hrn rfl (by rw [HD1.out.len, List.length_map, List.length_take]; omega) ?_)
        intro v2 w12 HO2 HB2 HZ2 HG2
        have hv2 := HO2.out.one
        have HDa := Lib.hid (((HD1.out.below ((Below.refl _ _).alloc (Nat.le_refl _) _)).below ((Below.refl _ _).alloc (Nat.le_refl _) _)).other ((HO1.out.alloc _).alloc _) (by decide) (by decide) HG2.out)
        have HPa := Lib.hid (((HPO.out.below ((Below.refl _ _).alloc (Nat.le_refl _) _)).below ((Below.refl _ _).alloc (Nat.le_refl _) _)).other ((HO1.out.alloc _).alloc _) (by decide) (by decide) HG2.out)
        go_wp2_with fail
        go_roundw
        case rel => exact ⟨k + 1, R ++ [(j, ⟨a1, a2, a3⟩, ⟨b1, b2, b3⟩)], by go_num, by omega, HO2.out, by rw [HTA.out, List.map_append]; exact HDa.out.snoc rfl HPa.out, HE1, HB2.out⟩
        case measure => simp [intOf] <;> omega
    · have hd1 : decide ((k : Int) < (n : Int)) = false := decide_eq_false (by omega)
      have HE := Lib.hid (show rs.take k = rs from List.take_of_length_le (by rw [HR.out, HL.out]; omega))
      have HT := Lib.hid (gd_yes (rs := rs) (by have q := HA.out; rw [HE.out] at q; exact q))
      rw [HE.out] at HD
      go_wp2_with fail
      go_ret2
      exact ⟨.slice av nv cv, R, ret2Z HT.out.2.symm, HO.out, by rw [HT.out.1]; exact HD.out, HB.out⟩
def TookE (X : List Ed) (z : Int) (w : World) (e : Ending) (w' : World) : Prop := ∃ v R, e = .returned (.tuple #[v, .int .i64 z]) ∧ OwX edC 5 85 w' w.heap.size v R ∧ EdsOwn w' R X ∧ Below w.heap.size w w'
set_option maxRecDepth 100000 in
set_option maxHeartbeats 4000000 in
theorem takeE_any (A : Option Addr) (n c : Nat) (l : List En) (rs : List (Ed × Bool)) (w : World) (h : RdX enC 2 w A n l) (hn : n ≤ 60) (hr : rs.length = l.length) (hk : ∀ (k : Nat) x r, l[k]? = some x → rs[k]? = some r → TkEOf x r) :
    Calls Try.prog 141 #[.slice A n c, .func (.func 142) #[] #[]] w (TookE (gdL rs) (gdZ rs) w) := by
  have H := Lib.hid h
  have HL := Lib.hid h.1
  have HR := Lib.hid hr
  have HK := Lib.hid hk
  clear h hr hk
  go_enter Try.func141, Try.ntmps141
  go_wp2_with fail
  go_loopw [6, 13] (fun v i wr => ∃ (k : Nat) (R : List EdR), i = .int .i64 (k : Int) ∧ k ≤ n ∧ OwX edC 5 85 wr w.heap.size v R ∧ EdsOwn wr R ((rs.take k).map (·.1)) ∧ Hid ((rs.take k).all (·.2) = true) ∧ Below w.heap.size w wr) (fun _ i _ => n - (intOf i).toNat)
  case atStart => exact ⟨0, [], rfl, Nat.zero_le _, OwX.nil w, EdsOwn.nil w, Lib.hid rfl, Below.refl _ _⟩
  case round =>
    obtain ⟨k, R, rfl, hk, hox, hds, HA, hb⟩ := hrel
    have HB := Lib.hid hb
    have HO := Lib.hid hox
    have HD := Lib.hid hds
    have hsz := hb.size
    obtain ⟨av, nv, cv, rfl⟩ := hox.sl3
    clear hb hox hds
    by_cases hlt : k < n
    · have hd1 : decide ((k : Int) < (n : Int)) = true := decide_eq_true (by omega)
      have hi0 : (0 : Int) ≤ (k : Int) := by omega
      obtain ⟨b0, off, hl, rfl, hbb, _⟩ := (H.out.below HB.out).at hlt
      have hrl : k < rs.length := by rw [HR.out]; exact hl
      obtain ⟨x, hx⟩ : ∃ x, x = l[k] := ⟨_, rfl⟩
      obtain ⟨q, hq⟩ : ∃ q, q = rs[k] := ⟨_, rfl⟩
      have HX := Lib.hid (show l[k]? = some x by rw [List.getElem?_eq_getElem hl, hx])
      have HQ := Lib.hid (show rs[k]? = some q by rw [List.getElem?_eq_getElem hrl, hq])
      have HTA := Lib.hid (show rs.take (k + 1) = rs.take k ++ [q] by rw [List.take_succ_eq_append_getElem hrl, hq])
      have HMQ := Lib.hid (show q ∈ rs by rw [hq]; exact List.getElem_mem hrl)
      obtain ⟨hsm, hc, _⟩ := HK.out k x q HX.out HQ.out
      have HC := Lib.hid hc
      obtain ⟨ks, vs⟩ := x
      clear hx hq hc hsm
      obtain ⟨⟨j, f, g, ss, ps⟩, hq2⟩ := q
      cases hq2 with
      | false =>
        have HC : Hid (∀ W, Calls Try.prog 142 #[.string ks, .string vs] W (TkEX (j, f, g, ss, ps) (.int .i64 3) W)) := HC
        have HB0 := Lib.hid (Below.refl wr.heap.size wr)
        have hc101 : wr.cell? ⟨b0, off + k * 2, none⟩ = some (.string ks) := (H.out.below HB.out).cellAt HX.out hlt 0 _ rfl
        have hc102 : wr.cell? ⟨b0, off + k * 2 + 1, none⟩ = some (.string vs) := (H.out.below HB.out).cellAt HX.out hlt 1 _ rfl
        have HF103 := Lib.hid (blk_new wr (.cells #[.string ks, .string vs] 78 (0, 0)))
        have HB104 := Lib.hid (HB0.out.alloc HB0.out.size (.cells #[.string ks, .string vs] 78 (0, 0)))
        clear HB0
        have hc105 : (wr.alloc (.cells #[.string ks, .string vs] 78 (0, 0))).cell? ⟨wr.heap.size, 0, none⟩ = some (.string ks) := by rw [cell_of_row _ _ _ _ _ _ HF103.out]; rfl
        have hc106 : (wr.alloc (.cells #[.string ks, .string vs] 78 (0, 0))).cell? ⟨wr.heap.size, 1, none⟩ = some (.string vs) := by rw [cell_of_row _ _ _ _ _ _ HF103.out]; rfl
        go_wp2_with fail
        clear hc105 hc106
        clear hc101 hc102
        refine (HC.out (wr.alloc (.cells #[.string ks, .string vs] 78 (0, 0)))).mono ?_
        rintro e w11 ⟨⟨a1, a2, a3⟩, ⟨b1, b2, b3⟩, rfl, hpo, hb11⟩
        have HF107 := Lib.hid (blk_below HF103.out hb11)
        have HB108 := Lib.hid (HB104.out.trans (hb11.mono (by have := HB104.out.size; simp at this ⊢ <;> omega)))
        clear hb11 HB104 HF103
        have HPO := Lib.hid hpo
        clear hpo
        simp only [slV]
        have HO1 := Lib.hid (HO.out.kept HB108.out)
        have HD1 := Lib.hid (HD.out.below HB108.out)
        have HBa := Lib.hid (HB.out.trans (HB108.out.mono HB.out.size))
        have hz1 := HB108.out.size
        have HF := Lib.hid (gd_no (rs := rs) (by
          cases he : rs.all (·.2) with
          | false => rfl
          | true => exact absurd (List.all_eq_true.1 he _ HMQ.out) (by simp)))
        go_wp2_with fail
        go_ret2
        exact ⟨.slice none 0 0, [], ret2Z HF.out.2.symm, OwX.nil _, by rw [HF.out.1]; exact EdsOwn.nil _, HBa.out.alloc HBa.out.size _⟩
      | true =>
        have HC : Hid (∀ W, Calls Try.prog 142 #[.string ks, .string vs] W (TkEX (j, f, g, ss, ps) (.int .i64 0) W)) := HC
        have HB0 := Lib.hid (Below.refl wr.heap.size wr)
        have hc101 : wr.cell? ⟨b0, off + k * 2, none⟩ = some (.string ks) := (H.out.below HB.out).cellAt HX.out hlt 0 _ rfl
        have hc102 : wr.cell? ⟨b0, off + k * 2 + 1, none⟩ = some (.string vs) := (H.out.below HB.out).cellAt HX.out hlt 1 _ rfl
        have HF103 := Lib.hid (blk_new wr (.cells #[.string ks, .string vs] 78 (0, 0)))
        have HB104 := Lib.hid (HB0.out.alloc HB0.out.size (.cells #[.string ks, .string vs] 78 (0, 0)))
        clear HB0
        have hc105 : (wr.alloc (.cells #[.string ks, .string vs] 78 (0, 0))).cell? ⟨wr.heap.size, 0, none⟩ = some (.string ks) := by rw [cell_of_row _ _ _ _ _ _ HF103.out]; rfl
        have hc106 : (wr.alloc (.cells #[.string ks, .string vs] 78 (0, 0))).cell? ⟨wr.heap.size, 1, none⟩ = some (.string vs) := by rw [cell_of_row _ _ _ _ _ _ HF103.out]; rfl
        go_wp2_with fail
        clear hc105 hc106
        clear hc101 hc102
        refine (HC.out (wr.alloc (.cells #[.string ks, .string vs] 78 (0, 0)))).mono ?_
        rintro e w11 ⟨⟨a1, a2, a3⟩, ⟨b1, b2, b3⟩, rfl, hpo, hb11⟩
        have HF107 := Lib.hid (blk_below HF103.out hb11)
        have HB108 := Lib.hid (HB104.out.trans (hb11.mono (by have := HB104.out.size; simp at this ⊢ <;> omega)))
        clear hb11 HB104 HF103
        have HPO := Lib.hid hpo
        clear hpo
        simp only [slV]
        have HO1 := Lib.hid (HO.out.kept HB108.out)
        have HD1 := Lib.hid (HD.out.below HB108.out)
        have HBa := Lib.hid (HB.out.trans (HB108.out.mono HB.out.size))
        have hz1 := HB108.out.size
        have HE1 := Lib.hid (show (rs.take (k + 1)).all (·.2) = true by rw [HTA.out, List.all_append, HA.out]; rfl)
        have HF109 := Lib.hid (blk_alloc HF107.out (.cells #[.string j, .string f, .string g, .slice a1 a2 a3, .slice b1 b2 b3] 85 (0, 0)))
        have HF110 := Lib.hid (blk_new w11 (.cells #[.string j, .string f, .string g, .slice a1 a2 a3, .slice b1 b2 b3] 85 (0, 0)))
        have HB111 := Lib.hid (HB108.out.alloc HB108.out.size (.cells #[.string j, .string f, .string g, .slice a1 a2 a3, .slice b1 b2 b3] 85 (0, 0)))
        clear HB108
        have hc112 : (w11.alloc (.cells #[.string j, .string f, .string g, .slice a1 a2 a3, .slice b1 b2 b3] 85 (0, 0))).cell? ⟨w11.heap.size, 0, none⟩ = some (.string j) := by rw [cell_of_row _ _ _ _ _ _ HF110.out]; rfl
        have hc113 : (w11.alloc (.cells #[.string j, .string f, .string g, .slice a1 a2 a3, .slice b1 b2 b3] 85 (0, 0))).cell? ⟨w11.heap.size, 1, none⟩ = some (.string f) := by rw [cell_of_row _ _ _ _ _ _ HF110.out]; rfl
        have hc114 : (w11.alloc (.cells #[.string j, .string f, .string g, .slice a1 a2 a3, .slice b1 b2 b3] 85 (0, 0))).cell? ⟨w11.heap.size, 2, none⟩ = some (.string g) := by rw [cell_of_row _ _ _ _ _ _ HF110.out]; rfl
        have hc115 : (w11.alloc (.cells #[.string j, .string f, .string g, .slice a1 a2 a3, .slice b1 b2 b3] 85 (0, 0))).cell? ⟨w11.heap.size, 3, none⟩ = some (.slice a1 a2 a3) := by rw [cell_of_row _ _ _ _ _ _ HF110.out]; rfl
        have hc116 : (w11.alloc (.cells #[.string j, .string f, .string g, .slice a1 a2 a3, .slice b1 b2 b3] 85 (0, 0))).cell? ⟨w11.heap.size, 4, none⟩ = some (.slice b1 b2 b3) := by rw [cell_of_row _ _ _ _ _ _ HF110.out]; rfl
        have hrn : ((w11.alloc (.cells #[.string j, .string f, .string g, .slice a1 a2 a3, .slice b1 b2 b3] 85 (0, 0))).alloc (.cells #[.string j, .string f, .string g, .slice a1 a2 a3, .slice b1 b2 b3] 85 (0, 0))).heap[w11.heap.size + 1]? = some (.cells #[.string j, .string f, .string g, .slice a1 a2 a3, .slice b1 b2 b3] 85 (0, 0)) := blk_newN (by simp)
        go_wp2_with (at_builtin; refine wpList_appX rfl (.tmp 29) (.tmp 31) 63 85 _ 96 rfl Try.underlying63 info_edB rfl (by omega) (by omega) edC_len edC_one w.heap.size w ((HBa.out.alloc HBa.out.size _).alloc (by have := HBa.out.size; simp at this ⊢ <;> omega) _) (by have := HBa.out.size; simp at this ⊢ <;> omega) (.slice av nv cv) R rfl ((HO1.out.alloc _).alloc _) (w11.heap.size + 1) 1 (j, f, g, ⟨a1, a2, a3⟩, ⟨b1, b2, b3⟩) _ 85 (0, 0) rfl hrn rfl (by rw [HD1.out.len, List.length_map, List.length_take]; omega) ?_)
        intro v2 w12 HO2 HB2 HZ2 HG2
        have hv2 := HO2.out.one
        have HDa := Lib.hid (((HD1.out.below ((Below.refl _ _).alloc (Nat.le_refl _) _)).below ((Below.refl _ _).alloc (Nat.le_refl _) _)).other ((HO1.out.alloc _).alloc _) (by decide) (by decide) HG2.out)
        have HPa := Lib.hid (((HPO.out.below ((Below.refl _ _).alloc (Nat.le_refl _) _)).below ((Below.refl _ _).alloc (Nat.le_refl _) _)).other ((HO1.out.alloc _).alloc _) (by decide) (by decide) HG2.out)
        go_wp2_with fail
        go_roundw
        case rel => exact ⟨k + 1, R ++ [(j, f, g, ⟨a1, a2, a3⟩, ⟨b1, b2, b3⟩)], by go_num, by omega, HO2.out, by rw [HTA.out, List.map_append]; exact HDa.out.snoc rfl rfl rfl HPa.out, HE1, HB2.out⟩
        case measure => simp [intOf] <;> omega
    · have hd1 : decide ((k : Int) < (n : Int)) = false := decide_eq_false (by omega)
      have HE := Lib.hid (show rs.take k = rs from List.take_of_length_le (by rw [HR.out, HL.out]; omega))
      have HT := Lib.hid (gd_yes (rs := rs) (by have q := HA.out; rw [HE.out] at q; exact q))
      rw [HE.out] at HD
      go_wp2_with fail
      go_ret2
      exact ⟨.slice av nv cv, R, ret2Z HT.out.2.symm, HO.out, by rw [HT.out.1]; exact HD.out, HB.out⟩
end Go.Proofs.Ytbjngbacnkmjhaa
namespace Go.Proofs.Ytbjngbacnkmjhaa
open Go.RowKit Vi

set_option maxRecDepth 100000 in
theorem takesN_any (A : Option Addr) (n c : Nat) (l : List En) (rs : List (Nd × Bool)) (w : World) (h : RdX enC 2 w A n l) (hn : n ≤ 60) (hr : rs.length = l.length) (hk : ∀ (k : Nat) x r, l[k]? = some x → rs[k]? = some r → TkNOf x r) :
    Calls Try.prog 52 #[.slice A n c] w (TookN (gdL rs) (gdZ rs) w) := by
  have HC := Lib.hid (takeN_any A n c l rs w h hn hr hk)
  clear h hr hk
  generalize gdL rs = X at *
  generalize gdZ rs = z at *
  go_enter Try.func52, Try.ntmps52
  go_wp2_with fail
  refine HC.out.mono ?_
  rintro e w1 ⟨v, R, rfl, ho, hd, hb⟩
  have HO := Lib.hid ho
  have HD := Lib.hid hd
  have HB := Lib.hid hb
  obtain ⟨a1, a2, a3, rfl⟩ := ho.sl3
  clear ho hd hb
  go_wp2_with fail
  go_ret2
  exact ⟨.slice a1 a2 a3, R, rfl, HO.out, HD.out, HB.out⟩
set_option maxRecDepth 100000 in
theorem takesE_any (A : Option Addr) (n c : Nat) (l : List En) (rs : List (Ed × Bool)) (w : World) (h : RdX enC 2 w A n l) (hn : n ≤ 60) (hr : rs.length = l.length) (hk : ∀ (k : Nat) x r, l[k]? = some x → rs[k]? = some r → TkEOf x r) :
    Calls Try.prog 53 #[.slice A n c] w (TookE (gdL rs) (gdZ rs) w) := by
  have HC := Lib.hid (takeE_any A n c l rs w h hn hr hk)
  clear h hr hk
  generalize gdL rs = X at *
  generalize gdZ rs = z at *
  go_enter Try.func53, Try.ntmps53
  go_wp2_with fail
  refine HC.out.mono ?_
  rintro e w1 ⟨v, R, rfl, ho, hd, hb⟩
  have HO := Lib.hid ho
  have HD := Lib.hid hd
  have HB := Lib.hid hb
  obtain ⟨a1, a2, a3, rfl⟩ := ho.sl3
  clear ho hd hb
  go_wp2_with fail
  go_ret2
  exact ⟨.slice a1 a2 a3, R, rfl, HO.out, HD.out, HB.out⟩
end Go.Proofs.Ytbjngbacnkmjhaa
namespace Go.Proofs.Ytbjngbacnkmjhaa
open Go

section
variable {P : Program} {ops : Array Oper} {Q : Exit → Act → World → Prop} {md : Region.Mode} {S : Array Bool → World → Prop}

/-- what has come up has not come up ahead of what it waits for -/
def ShutL (md : Region.Mode) (ops : Array Oper) (L : Array Bool) : Prop := ∀ k ok, ops[k]? = some ok → L.getD k false = true → ∀ e ∈ ok.after, Region.binds md e = true → L.getD e.on false = true
/-- whichever order is picked from here on; S of what has come up holds behind each -/
def wpAnyL (P : Program) (md : Region.Mode) (ops : Array Oper) (Q : Exit → Act → World → Prop) (S : Array Bool → World → Prop) : Nat → Array Bool → Act → World → Prop
  | 0, L, a, w => Region.ready md ops L = [] ∧ Q .normal a w
  | f + 1, L, a, w => (Region.ready md ops L = [] → Q .normal a w) ∧
      ∀ i ∈ Region.ready md ops L, wpOp P ops Q i (fun a' w' => S (L.setIfInBounds i true) w' ∧ wpAnyL P md ops Q S f (L.setIfInBounds i true) a' w') a w
theorem wpAny_of_L : ∀ (f : Nat) (L : Array Bool) (a : Act) (w : World), wpAnyL P md ops Q S f L a w → wpAny P md ops Q f L a w
  | 0, _, _, _, h => h
  | f + 1, _, _, _, h => ⟨h.1, fun i hi => wpOp_mono (fun a' w' h' => wpAny_of_L f _ a' w' h'.2) (h.2 i hi)⟩
/-- the worlds in which an operation that has not come up may come up -/
def SI (md : Region.Mode) (ops : Array Oper) (S : Array Bool → World → Prop) (i : Nat) (w : World) : Prop := ∃ L, ShutL md ops L ∧ L.getD i true = false ∧ S L w
theorem getD_set (L : Array Bool) (j k : Nat) (hne : j ≠ k) : (L.setIfInBounds j true).getD k true = L.getD k true := by
  simp [Array.getD_eq_getD_getElem?, hne]
theorem getF_set (L : Array Bool) (j k : Nat) (hne : j ≠ k) : (L.setIfInBounds j true).getD k false = L.getD k false := by
  simp [Array.getD_eq_getD_getElem?, hne]
theorem getF_on (L : Array Bool) (j : Nat) (h : j < L.size) : (L.setIfInBounds j true).getD j false = true := by
  simp [Array.getD_eq_getD_getElem?, h]
theorem ShutL.set {L : Array Bool} (h : ShutL md ops L) {j : Nat} (hj : j ∈ Region.ready md ops L) : ShutL md ops (L.setIfInBounds j true) := by
  intro k ok hk hl e he hb
  obtain ⟨hun, oj, hoj, hall⟩ := mem_ready.1 hj
  have hjs : j < L.size := by
    rcases Nat.lt_or_ge j L.size with h' | h'
    · exact h'
    · simp [Array.getElem?_eq_none h'] at hun
  have step : ∀ m, L.getD m false = true → (L.setIfInBounds j true).getD m false = true := fun m hm => by
    by_cases hjm : j = m
    · subst hjm; exact getF_on L j hjs
    · rw [getF_set L j m hjm]; exact hm
  by_cases hjk : j = k
  · subst hjk
    rw [hoj] at hk
    injection hk with hk
    subst hk
    apply step
    simpa using hall e he hb
  · rw [getF_set L j k hjk] at hl
    exact step _ (h k ok hk hl e he hb)
theorem ShutL.none (n : Nat) : ShutL md ops (Array.replicate n false) := by
  intro k ok _ hl
  simp only [Array.getD_eq_getD_getElem?, Array.getElem?_replicate] at hl
  split at hl <;> cases hl
theorem wpAnyL_first {i : Nat} {oi : Oper} {v : Value} (hi : ops[i]? = some oi) (hsel : ∀ (j : Nat) (o : Oper) cs b, ops[j]? = some o → o.op ≠ .select cs b)
    (hQ : ∀ c a w, Q (.panic c) (a.put oi.dst v) w → Q (.panic c) a w) (hSi : ∀ L w, S (L.setIfInBounds i true) w ↔ S L w) :
    ∀ (f : Nat) (L : Array Bool) (a : Act) (w : World),
      (∀ j oj, ops[j]? = some oj → j ≠ i → L.getD j true = false → (∀ e ∈ oj.after, Region.binds md e = true → e.on ≠ i) → oi.apart ops oj = true) →
      i ∈ Region.ready md ops L → ShutL md ops L → YieldsIf P ops (SI md ops S i) oi v a → S L w →
      wpAnyL P md ops Q S f (L.setIfInBounds i true) (a.put oi.dst v) w → wpAnyL P md ops Q S (f + 1) L a w := by
  intro f
  induction f with
  | zero =>
    intro L a w _ hr hc hy hS H
    refine ⟨fun h => (by rw [h] at hr; cases hr), fun j hj => ?_⟩
    by_cases hji : j = i
    · subst hji; exact hy.wpOp hi ⟨L, hc, (mem_ready.1 hr).1, hS⟩ ⟨(hSi L w).2 hS, H⟩
    · have := ready_mono hj hji
      rw [H.1] at this
      cases this
  | succ f ih =>
    intro L a w hfree hr hc hy hS H
    refine ⟨fun h => (by rw [h] at hr; cases hr), fun j hj => ?_⟩
    by_cases hji : j = i
    · subst hji; exact hy.wpOp hi ⟨L, hc, (mem_ready.1 hr).1, hS⟩ ⟨(hSi L w).2 hS, H⟩
    · have h1 := H.2 j (ready_mono hj hji)
      obtain ⟨hjun, oj, hoj, hall⟩ := mem_ready.1 hj
      have hnot : ∀ e ∈ oj.after, Region.binds md e = true → e.on ≠ i := fun e he hb heq => by
        have h1 := hall e he hb
        have h0 := (mem_ready.1 hr).1
        rw [heq] at h1
        rcases Nat.lt_or_ge i L.size with h' | h'
        · simp [h'] at h0 h1; rw [h0] at h1; cases h1
        · simp [Array.getElem?_eq_none h'] at h1
      have h2 := wpOp_putIf hoj (hfree j oj hoj hji hjun hnot) (fun cs b => hsel i oi cs b hi) (fun cs b => hsel j oj cs b hoj) hQ hy h1
      refine wpOp_mono (fun a' w' h3 => ?_) h2
      have hs3 : S (L.setIfInBounds j true) w' := by
        have q := h3.2.1
        rw [Array.setIfInBounds_comm _ _ (Ne.symm hji)] at q
        exact (hSi _ _).1 q
      refine ⟨hs3, ih (L.setIfInBounds j true) a' w' (fun k ok hk hki hun hno => ?_) (ready_mono hr (Ne.symm hji)) (hc.set hj) h3.1 hs3 ?_⟩
      · refine hfree k ok hk hki ?_ hno
        by_cases hjk : j = k
        · subst hjk; exact hjun
        · rw [getD_set L j k hjk] at hun; exact hun
      · rw [Array.setIfInBounds_comm _ _ hji]
        exact h3.2.2
/-- take number i first -/
theorem wpAnyL_take {i : Nat} {oi : Oper} {v : Value} {f : Nat} {L : Array Bool} {a : Act} {w : World} (hi : ops[i]? = some oi)
    (hs : Region.noSelect ops = true) (hf : Region.free md ops L i = true) (hr : (Region.ready md ops L).contains i = true)
    (hQ : ∀ c a w, Q (.panic c) (a.put oi.dst v) w → Q (.panic c) a w) (hSi : ∀ L w, S (L.setIfInBounds i true) w ↔ S L w) (hc : ShutL md ops L) (hy : YieldsIf P ops (SI md ops S i) oi v a) (hS : S L w)
    (h : ShutL md ops (L.setIfInBounds i true) → S (L.setIfInBounds i true) w → wpAnyL P md ops Q S f (L.setIfInBounds i true) (a.put oi.dst v) w) : wpAnyL P md ops Q S (f + 1) L a w :=
  wpAnyL_first hi (Region.noSelect_spec hs) hQ hSi f L a w (Region.free_spec hi hf) (by simpa using hr) hc hy hS (h (hc.set (by simpa using hr)) ((hSi _ _).2 hS))
/-- whichever of those that may come up comes up -/
theorem wpAnyL_all {rs : List Nat} {f : Nat} {L : Array Bool} {a : Act} {w : World} (hr : Region.ready md ops L = rs) (hne : rs ≠ []) (hc : ShutL md ops L)
    (h : ∀ i ∈ rs, wpOp P ops Q i (fun a' w' => S (L.setIfInBounds i true) w' ∧ (ShutL md ops (L.setIfInBounds i true) → wpAnyL P md ops Q S f (L.setIfInBounds i true) a' w')) a w) : wpAnyL P md ops Q S (f + 1) L a w :=
  ⟨fun h0 => absurd (hr ▸ h0) hne, fun i hi => wpOp_mono (fun _ _ q => ⟨q.1, q.2 (hc.set hi)⟩) (h i (hr ▸ hi))⟩
theorem wpAnyL_done {L : Array Bool} {a : Act} {w : World} (hr : Region.ready md ops L = []) (h : Q .normal a w) : ∀ f, wpAnyL P md ops Q S f L a w
  | 0 => ⟨hr, h⟩
  | _ + 1 => ⟨fun _ => h, by rw [hr]; simp⟩
theorem wp_region_L {id : Nat} {a : Act} {w : World} (hm : P.follows .mixedOrders = true)
    (h : wpAnyL P .any ops Q S ops.size (Array.replicate ops.size false) a { w with drawn := w.drawn + 1 }) : (Code.region id ops true).wp P Q a w :=
  wp_region_any hm (wpAny_of_L _ _ _ _ h)
end
end Go.Proofs.Ytbjngbacnkmjhaa
namespace Go.Proofs.Ytbjngbacnkmjhaa
open Go

section
variable {P : Program} {ops : Array Oper} {Q : Exit → Act → World → Prop} {md : Region.Mode} {S : Array Bool → World → Prop}
def AllReadyL (P : Program) (md : Region.Mode) (ops : Array Oper) (Q : Exit → Act → World → Prop) (S : Array Bool → World → Prop) (fuel : Nat) (L : Array Bool) (a : Act) (w : World) (rs : List Nat) : Prop :=
  ∀ i ∈ rs, wpOp P ops Q i (fun a' w' => S (L.setIfInBounds i true) w' ∧ (ShutL md ops (L.setIfInBounds i true) → wpAnyL P md ops Q S fuel (L.setIfInBounds i true) a' w')) a w
theorem AllReadyL.nil {fuel : Nat} {L : Array Bool} {a : Act} {w : World} : AllReadyL P md ops Q S fuel L a w [] := fun _ h => by cases h
theorem AllReadyL.cons {fuel : Nat} {L : Array Bool} {a : Act} {w : World} {i : Nat} {o : Oper} {rs : List Nat} (ho : ops[i]? = some o)
    (h : ∀ K' : Act → World → Prop, Shut (∀ a w, S (L.setIfInBounds i true) w → (ShutL md ops (L.setIfInBounds i true) → wpAnyL P md ops Q S fuel (L.setIfInBounds i true) a w) → K' a w) → if Region.wanted o (yielded ops a.tmps) = true then Oper.wp P o a w K' Q else K' (a.put o.dst undef) w)
    (hs : AllReadyL P md ops Q S fuel L a w rs) : AllReadyL P md ops Q S fuel L a w (i :: rs) := fun j hj => by
  rcases List.mem_cons.1 hj with rfl | hj
  · exact wpOp_step ho (fun K' hK => h K' (fun a w hS hW => hK a w ⟨hS, hW⟩))
  · exact hs j hj
theorem wpAnyL_ready {rs : List Nat} {fuel : Nat} {L : Array Bool} {a : Act} {w : World} (hr : Region.ready md ops L = rs) (hne : rs ≠ []) (hc : ShutL md ops L)
    (h : AllReadyL P md ops Q S fuel L a w rs) : wpAnyL P md ops Q S (fuel + 1) L a w := wpAnyL_all hr hne hc h
theorem wp_region_L_drew {id : Nat} {a : Act} {w : World} (hm : P.follows .mixedOrders = true) (hS : S (Array.replicate ops.size false) w.drew)
    (h : S (Array.replicate ops.size false) w.drew → ShutL .any ops (Array.replicate ops.size false) → wpAnyL P .any ops Q S ops.size (Array.replicate ops.size false) a w.drew) : (Code.region id ops true).wp P Q a w :=
  wp_region_L hm (h hS (ShutL.none _))
/-- k waits for i, in so many steps -/
def waits (md : Region.Mode) (ops : Array Oper) : Nat → Nat → Nat → Bool
  | 0, _, _ => false
  | f + 1, k, i => match ops[k]? with
    | some o => o.after.toList.any fun e => Region.binds md e && (e.on == i || waits md ops f e.on i)
    | none => false
theorem shut_of {L : Array Bool} (hs : ShutL md ops L) {i : Nat} (hi : L.getD i true = false) : ∀ (f k : Nat), waits md ops f k i = true → L.getD k false = false
  | 0, k, h => by simp [waits] at h
  | f + 1, k, h => by
    cases hk : L.getD k false with
    | false => rfl
    | true =>
      exfalso
      unfold waits at h
      split at h
      · next o ho =>
        obtain ⟨e, he, hb⟩ := List.any_eq_true.1 h
        rw [Bool.and_eq_true, Bool.or_eq_true] at hb
        have h1 := hs k o ho hk e (by simpa using he) hb.1
        rcases hb.2 with q | q
        · have : e.on = i := by simpa using q
          rw [this] at h1
          rw [Array.getD_eq_getD_getElem?] at h1 hi
          cases hq : L[i]? with
          | none => rw [hq] at hi; simp at hi
          | some b => rw [hq] at h1 hi; simp at h1 hi; rw [h1] at hi; cases hi
        · rw [shut_of hs hi f e.on q] at h1; cases h1
      · cases h
end
/-- two cells hold what they hold as long as the stores k1, k2 have not come up -/
structure SO (g1 o1 g2 o2 : Nat) (x1 x2 : Value) (k1 k2 : Nat) (L : Array Bool) (w : World) : Prop where
  one : L.getD k1 false = false → w.cell? ⟨g1, o1, none⟩ = some x1
  two : L.getD k2 false = false → w.cell? ⟨g2, o2, none⟩ = some x2
theorem SO.set {g1 o1 g2 o2 : Nat} {x1 x2 : Value} {k1 k2 i : Nat} (h1 : i ≠ k1) (h2 : i ≠ k2) (L : Array Bool) (w : World) : SO g1 o1 g2 o2 x1 x2 k1 k2 (L.setIfInBounds i true) w ↔ SO g1 o1 g2 o2 x1 x2 k1 k2 L w :=
  ⟨fun h => ⟨fun q => h.one (by rw [getF_set L i k1 h1]; exact q), fun q => h.two (by rw [getF_set L i k2 h2]; exact q)⟩,
   fun h => ⟨fun q => h.one (by rw [getF_set L i k1 h1] at q; exact q), fun q => h.two (by rw [getF_set L i k2 h2] at q; exact q)⟩⟩
end Go.Proofs.Ytbjngbacnkmjhaa
namespace Go.Proofs.Ytbjngbacnkmjhaa
open Go.RowKit Vi

theorem OwX.kkT {α : Type} {f : α → List Value} {s : Nat} {T : TypeId} {w W : World} {B g : Nat} {v : Value} {l : List α} {cs : Array Value} {T' : TypeId} {fr : Nat × Nat} (h : OwX f s T w B v l) (k : KK [g] w W) (hg : w.heap[g]? = some (.cells cs T' fr)) (hT : T ≠ T') : OwX f s T W B v l := by
  rcases h with ⟨h1, h | ⟨b, cap, cur, h2, h3, h4, h5⟩⟩
  · exact ⟨h1, .inl h⟩
  · exact ⟨h1, .inr ⟨b, cap, cur, h2, h3, k.blk h4 (fun e => by
      have e1 : b = g := by simpa using e
      subst e1
      rw [hg] at h4
      cases h4
      exact hT rfl), h5⟩⟩
theorem PO.kkT {w W : World} {g : Nat} {a b : SlA} {ss : List ByteArray} {ps : List Pr} {cs : Array Value} {T' : TypeId} {fr : Nat × Nat} (h : PO w a b ss ps) (k : KK [g] w W) (hg : w.heap[g]? = some (.cells cs T' fr)) (h1 : 9 ≠ T') (h2 : 187 ≠ T') : PO W a b ss ps := ⟨h.l.kkT k hg h1, h.p.kkT k hg h2⟩
theorem NdsOwn.kkT {w W : World} {g : Nat} {R : List NdR} {X : List Nd} {cs : Array Value} {T' : TypeId} {fr : Nat × Nat} (h : NdsOwn w R X) (k : KK [g] w W) (hg : w.heap[g]? = some (.cells cs T' fr)) (q1 : 9 ≠ T') (q2 : 187 ≠ T') : NdsOwn W R X :=
  ⟨h.len, fun i r x h1 h2 => ⟨(h.at' i r x h1 h2).1, (h.at' i r x h1 h2).2.kkT k hg q1 q2⟩⟩
theorem EdsOwn.kkT {w W : World} {g : Nat} {R : List EdR} {X : List Ed} {cs : Array Value} {T' : TypeId} {fr : Nat × Nat} (h : EdsOwn w R X) (k : KK [g] w W) (hg : w.heap[g]? = some (.cells cs T' fr)) (q1 : 9 ≠ T') (q2 : 187 ≠ T') : EdsOwn W R X :=
  ⟨h.len, fun i r x h1 h2 => ⟨(h.at' i r x h1 h2).1, (h.at' i r x h1 h2).2.1, (h.at' i r x h1 h2).2.2.1, (h.at' i r x h1 h2).2.2.2.kkT k hg q1 q2⟩⟩
def badOf {α : Type} (rs : List (α × Bool)) : Bool := !rs.all (·.2)
theorem badOf_snoc {α : Type} (rs : List (α × Bool)) (q : α × Bool) : badOf (rs ++ [q]) = (badOf rs || !q.2) := by
  unfold badOf
  obtain ⟨a, b⟩ := q
  rw [List.all_append]
  simp only [List.all_cons, List.all_nil, Bool.and_true]
  cases rs.all (·.2) <;> cases b <;> rfl
/-- the graph's box, both rows, what the round has taken -/
structure KW (gb : Nat) (gv gv2 v v2 : Value) (R : List NdR) (X : List Nd) (R2 : List EdR) (Y : List Ed) (w W : World) : Prop where
  g : W.heap[gb]? = some (.cells #[gv, gv2] 65 (0, 0))
  on : OwX ndC 3 81 W w.heap.size v R
  oe : OwX edC 5 85 W w.heap.size v2 R2
  dn : NdsOwn W R X
  de : EdsOwn W R2 Y
  bel : Below w.heap.size w W
section
variable {gb : Nat} {gv gv2 v v2 : Value} {R : List NdR} {X : List Nd} {R2 : List EdR} {Y : List Ed} {w W W' : World}
theorem KW.later (h : KW gb gv gv2 v v2 R X R2 Y w W) (hb : Below W.heap.size W W') : KW gb gv gv2 v v2 R X R2 Y w W' :=
  ⟨blk_below h.g hb, h.on.kept hb, h.oe.kept hb, h.dn.below hb, h.de.below hb, h.bel.trans (hb.mono h.bel.size)⟩
theorem KW.drew (h : KW gb gv gv2 v v2 R X R2 Y w W) : KW gb gv gv2 v v2 R X R2 Y w W.drew := h.later (Below.refl _ _).drew
theorem KW.alloc (h : KW gb gv gv2 v v2 R X R2 Y w W) (o : Obj) : KW gb gv gv2 v v2 R X R2 Y w (W.alloc o) := h.later ((Below.refl _ _).alloc (Nat.le_refl _) _)
theorem KW.appN (h : KW gb gv gv2 v v2 R X R2 Y w W) {v' : Value} {r : NdR} {x : Nd} (ho : OwX ndC 3 81 W' w.heap.size v' (R ++ [r])) (hg : W.grownBy W' v.ownBlock) (hb : Below w.heap.size w W') (h1 : r.1 = x.1) (hp : PO W r.2.1 r.2.2 x.2.1 x.2.2) : KW gb gv gv2 v' v2 (R ++ [r]) (X ++ [x]) R2 Y w W' :=
  ⟨h.on.box hg h.g (Or.inl (by decide)), ho, h.oe.other h.on (by decide) hg, (h.dn.other h.on (by decide) (by decide) hg).snoc h1 (hp.other h.on (by decide) (by decide) hg), h.de.other h.on (by decide) (by decide) hg, hb⟩
theorem KW.appE (h : KW gb gv gv2 v v2 R X R2 Y w W) {v' : Value} {r : EdR} {x : Ed} (ho : OwX edC 5 85 W' w.heap.size v' (R2 ++ [r])) (hg : W.grownBy W' v2.ownBlock) (hb : Below w.heap.size w W') (h1 : r.1 = x.1) (h2 : r.2.1 = x.2.1) (h3 : r.2.2.1 = x.2.2.1) (hp : PO W r.2.2.2.1 r.2.2.2.2 x.2.2.2.1 x.2.2.2.2) : KW gb gv gv2 v v' R X (R2 ++ [r]) (Y ++ [x]) w W' :=
  ⟨h.oe.box hg h.g (Or.inl (by decide)), h.on.other h.oe (by decide) hg, ho, h.dn.other h.oe (by decide) (by decide) hg, (h.de.other h.oe (by decide) (by decide) hg).snoc h1 h2 h3 (hp.other h.oe (by decide) (by decide) hg), hb⟩
theorem KW.stored (h : KW gb gv gv2 v v2 R X R2 Y w W) (hgb : w.heap.size ≤ gb) : KW gb v v2 v v2 R X R2 Y w ((W.setCell ⟨gb, 0, none⟩ v).setCell ⟨gb, 1, none⟩ v2) := by
  have k : KK [gb] W ((W.setCell ⟨gb, 0, none⟩ v).setCell ⟨gb, 1, none⟩ v2) := ((KK.refl [gb] W).set (b := gb) (by simp) 0 v).set (b := gb) (by simp) 1 v2
  exact ⟨by have q := heap_setCell_at (i := 1) (u := v2) (heap_setCell_at (i := 0) (u := v) h.g); exact q, h.on.kkT k h.g (by decide), h.oe.kkT k h.g (by decide), h.dn.kkT k h.g (by decide) (by decide), h.de.kkT k h.g (by decide) (by decide), k.below h.bel (by simp; omega) h.bel.size⟩
end
theorem gr_own {W : World} {B B2 : Nat} {v v2 : Value} {R : List NdR} {X : List Nd} {R2 : List EdR} {Y : List Ed} (h : OwX ndC 3 81 W B v R) (hd : NdsOwn W R X) (h2 : OwX edC 5 85 W B2 v2 R2) (hd2 : EdsOwn W R2 Y) : ∃ (A A2 : Option Addr) (c c2 : Nat), v = .slice A X.length c ∧ v2 = .slice A2 Y.length c2 ∧ GrIs W A X.length A2 Y.length X Y := by
  obtain ⟨A5, d5, he5, hr5, _, _⟩ := h.rd ndC_len
  obtain ⟨A6, d6, he6, hr6, _, _⟩ := h2.rd edC_len
  rw [hd.len] at he5 hr5
  rw [hd2.len] at he6 hr6
  exact ⟨A5, A6, d5, d6, he5, he6, ⟨_, hr5, hd.is⟩, ⟨_, hr6, hd2.is⟩⟩
theorem same_own {W : World} {B B2 B3 B4 : Nat} {v v2 u u2 : Value} {R Q : List NdR} {X : List Nd} {R2 Q2 : List EdR} {Y : List Ed} (h : OwX ndC 3 81 W B v R) (hd : NdsOwn W R X) (h2 : OwX edC 5 85 W B2 v2 R2) (hd2 : EdsOwn W R2 Y)
    (k : OwX ndC 3 81 W B3 u Q) (kd : NdsOwn W Q X) (k2 : OwX edC 5 85 W B4 u2 Q2) (kd2 : EdsOwn W Q2 Y) (hn : X.length ≤ 1000000) (hn2 : Y.length ≤ 1000000) (hx : ndSm X) (hy : edSm Y) :
    Calls Try.prog 40 #[.agg #[v, v2], .agg #[u, u2]] W fun e w' => e = .returned (.bool true) ∧ Below W.heap.size W w' := by
  obtain ⟨A, A2, c, c2, rfl, rfl, hg⟩ := gr_own h hd h2 hd2
  obtain ⟨D, D2, d, d2, rfl, rfl, kg⟩ := gr_own k kd k2 kd2
  exact same26_yes A A2 D D2 X.length c Y.length c2 d d2 X Y W hg kg hn hn2 hx hy
theorem rsSm {l : List En} {rs : List (Nd × Bool)} (hr : rs.length = l.length) (h : ∀ (k : Nat) x r, l[k]? = some x → rs[k]? = some r → TkNOf x r) : ndSm (rs.map (·.1)) := by
  intro x hx
  obtain ⟨r, hr1, rfl⟩ := List.mem_map.1 hx
  obtain ⟨k, hk, rfl⟩ := List.getElem_of_mem hr1
  have q := (h k l[k] rs[k] (List.getElem?_eq_getElem (by omega)) (List.getElem?_eq_getElem hk)).1
  exact ⟨by omega, by omega⟩
theorem tsSm {l : List En} {rs : List (Ed × Bool)} (hr : rs.length = l.length) (h : ∀ (k : Nat) x r, l[k]? = some x → rs[k]? = some r → TkEOf x r) : edSm (rs.map (·.1)) := by
  intro x hx
  obtain ⟨r, hr1, rfl⟩ := List.mem_map.1 hx
  obtain ⟨k, hk, rfl⟩ := List.getElem_of_mem hr1
  have q := (h k l[k] rs[k] (List.getElem?_eq_getElem (by omega)) (List.getElem?_eq_getElem hk)).1
  exact ⟨by omega, by omega⟩
/-- what has not been read yet holds -/
structure SK (gb nb eb : Nat) (go no eo : Obj) (L : Array Bool) (W : World) : Prop where
  g : L.getD 11 false = false → W.heap[gb]? = some go
  n : L.getD 4 false = false → W.heap[nb]? = some no
  e : L.getD 9 false = false → W.heap[eb]? = some eo
theorem SK.set {gb nb eb : Nat} {go no eo : Obj} {i : Nat} (h1 : i ≠ 11) (h2 : i ≠ 4) (h3 : i ≠ 9) (L : Array Bool) (w : World) : SK gb nb eb go no eo (L.setIfInBounds i true) w ↔ SK gb nb eb go no eo L w :=
  ⟨fun h => ⟨fun q => h.g (by rw [getF_set L i 11 h1]; exact q), fun q => h.n (by rw [getF_set L i 4 h2]; exact q), fun q => h.e (by rw [getF_set L i 9 h3]; exact q)⟩,
   fun h => ⟨fun q => h.g (by rw [getF_set L i 11 h1] at q; exact q), fun q => h.n (by rw [getF_set L i 4 h2] at q; exact q), fun q => h.e (by rw [getF_set L i 9 h3] at q; exact q)⟩⟩
theorem SK.gOf {md : Region.Mode} {ops : Array Oper} {gb nb eb i : Nat} {go no eo : Obj} {w : World} (h : SI md ops (SK gb nb eb go no eo) i w) (f : Nat) (hw : waits md ops f 11 i = true) : w.heap[gb]? = some go := by
  obtain ⟨L, hs, hi, hS⟩ := h
  exact hS.g (shut_of hs hi f 11 hw)
theorem SK.nOf {md : Region.Mode} {ops : Array Oper} {gb nb eb i : Nat} {go no eo : Obj} {w : World} (h : SI md ops (SK gb nb eb go no eo) i w) (f : Nat) (hw : waits md ops f 4 i = true) : w.heap[nb]? = some no := by
  obtain ⟨L, hs, hi, hS⟩ := h
  exact hS.n (shut_of hs hi f 4 hw)
theorem SK.eOf {md : Region.Mode} {ops : Array Oper} {gb nb eb i : Nat} {go no eo : Obj} {w : World} (h : SI md ops (SK gb nb eb go no eo) i w) (f : Nat) (hw : waits md ops f 9 i = true) : w.heap[eb]? = some eo := by
  obtain ⟨L, hs, hi, hS⟩ := h
  exact hS.e (shut_of hs hi f 9 hw)
end Go.Proofs.Ytbjngbacnkmjhaa
