/- Several texts of one family, merged for a claim. Conditions as in its parts. -/
import Derived.Test.YtiflieaemgamkaaDoorProg
import Derived.WalkKit
import Derived.Lib.Hide
import Derived.Maps.AppendAt
import Derived.Laws.OwnMore
import Derived.OwnWalk
import Derived.Deep.RegionLaw
import Derived.Below
import Derived.Test.YtiflieaemgamkaaDoorHi
import Derived.Deep.QuietTactic
import Derived.BigQuiet
namespace Go.Proofs.YtiflieaemgamkaaDoor
open Go.RowKit

/-- a row of the call's own, with these cells -/
def Own (T : TypeId) (w : World) (B : Nat) (v : Value) (xs : List Value) : Prop := w.ownsRow B T 1 v xs.length xs
/-- what lies from a place on -/
def Lay (w : World) (a : Addr) (news : List Value) : Prop := ∀ j u, news[j]? = some u → w.cell? (a.add j) = some u
theorem Own.alloc {T : TypeId} {w : World} {B : Nat} {v : Value} {xs : List Value} (h : Own T w B v xs) (o : Obj) : Own T (w.alloc o) B v xs := World.ownsRow.alloc h o
theorem Own.nil (T : TypeId) (w : World) (B : Nat) : Own T w B (.slice none 0 0) [] := World.ownsRow_nil w B T 1
theorem Own.drew {T : TypeId} {w : World} {B : Nat} {v : Value} {xs : List Value} (h : Own T w B v xs) : Own T w.drew B v xs := h
theorem Lay.new (w : World) (cs : List Value) (T : TypeId) : Lay (w.alloc (.cells cs.toArray T)) ⟨w.heap.size, 0, none⟩ cs := fun j u hj => by
  rw [Addr.add_lit, Nat.zero_add, cell_of_row _ _ _ _ _ _ (heap_alloc_new w (.cells cs.toArray T))]
  simpa using hj
theorem Own.kept {T : TypeId} {w w' : World} {B : Nat} {v : Value} {xs : List Value} (h : Own T w B v xs) (hb : Below w.heap.size w w') : Own T w' B v xs := by
  rcases h with ⟨h1, h | ⟨g, cap, cur, h2, h3, h4, h5⟩⟩
  · exact ⟨h1, .inl h⟩
  · refine ⟨h1, .inr ⟨g, cap, cur, h2, h3, ?_, h5⟩⟩
    rw [hb.block g (by
      rcases Nat.lt_or_ge g w.heap.size with q | q
      · exact q
      · rw [Array.getElem?_eq_none q] at h4
        cases h4)]
    exact h4
theorem Own.cellAt {T : TypeId} {w : World} {B : Nat} {v : Value} {xs : List Value} (h : Own T w B v xs) (hp : 0 < xs.length) : ∃ g cap, v = .slice (some ⟨g, 0, none⟩) xs.length cap ∧ B ≤ g ∧ xs.length ≤ cap ∧ cap ≤ maxLen ∧ ∀ j (_ : j < xs.length), w.cell? ⟨g, j, none⟩ = some xs[j] := by
  rcases h.2 with ⟨_, h0⟩ | ⟨g, cap, cur, h2, h3, h4, h5, h6, h7, h8⟩
  · omega
  · refine ⟨g, cap, h2, h3, h5, h6, fun j hj => ?_⟩
    rw [cell_of_row _ _ _ _ _ _ h4]
    have e : cur.toList[j]? = xs[j]? := by
      rw [← h8, List.getElem?_take, if_pos (by omega)]
    rw [List.getElem?_eq_getElem hj] at e
    simpa using e

theorem run_appV {w : World} {t e : TypeId} {z : Value} {bytes : Nat} (hu : Tryd.prog.underlying t = some (.slice e)) (hinfo : (Tryd.prog.info? e).map (fun i => (i.zero, i.size, i.bytes)) = some (some z, 1, bytes)) (hz : z.cells.size = 1) (hby : bytes ≤ 16)
    (ty : TypeId) (base : Nat) (v : Value) (xs : List Value) (hown : Own e w base v xs) (A : Addr) (c : Nat) (news : List Value) (hl : Lay w A news) (h1 : ∀ u ∈ news, u.oneCell' = true)
    (hm : xs.length + news.length ≤ 3000000) (hbase : base ≤ w.heap.size) :
    ∃ v' w', (Builtin.append_ #[t, t] ty #[v, .slice (some A) news.length c]).run Tryd.prog w = .ok v' w' ∧ Own e w' base v' (xs ++ news) ∧ w.grownBy w' v.ownBlock := by
  obtain ⟨i0, hi, hz0, hz1, hz2⟩ := info_parts hinfo
  have hmul : (xs.length + news.length) * bytes ≤ 3000000 * 16 := Nat.mul_le_mul hm hby
  obtain ⟨v', w', hr, h2, h3, _, _⟩ := run_append_own_at (P := Tryd.prog) w base t ty e i0 z 1 bytes hu hi hz0 hz1 hz2 hz (by decide) v xs.length xs hown A news.length c news
    (by omega) hl h1 (by unfold maxLen; omega) (by omega) hbase
  refine ⟨v', w', hr, ?_, h3⟩
  unfold Own
  rw [List.length_append]
  exact h2
theorem step_appV {ops : Array Oper} {o : Oper} {a : Act} {K : Act → World → Prop} {Q : Exit → Act → World → Prop} {E : Prop} {w : World} (hgd : o.guard = none) (s x : Operand) (t e : TypeId) (z : Value) (bytes : Nat)
    (ho : o.op = .call { callee := .builtin .append, args := #[s, x], argTypes := #[t, t] })
    (hu : Tryd.prog.underlying t = some (.slice e)) (hinfo : (Tryd.prog.info? e).map (fun i => (i.zero, i.size, i.bytes)) = some (some z, 1, bytes)) (hz : z.cells.size = 1) (hby : bytes ≤ 16)
    (B : Nat) (w0 : World) (hb : Below B w0 w) (hB : B ≤ w.heap.size) (v : Value) (xs : List Value) (hs : a.eval s = v) (hown : Own e w B v xs)
    (A : Addr) (m c : Nat) (news : List Value) (hx : a.eval x = .slice (some A) m c) (hml : m = news.length) (hl : Lay w A news) (h1 : ∀ u ∈ news, u.oneCell' = true) (hm : xs.length + news.length ≤ 3000000)
    (h : ∀ v' w', Hid (Own e w' B v' (xs ++ news)) → Hid (Below B w0 w') → Hid (B ≤ w'.heap.size) → K (a.put o.dst v') w') :
    if Region.wanted o (yielded ops a.tmps) = true then Oper.wp Tryd.prog o a w K Q else E := by
  subst hml
  have hw : Region.wanted o (yielded ops a.tmps) = true := by simp [Region.wanted, hgd]
  rw [if_pos hw]
  obtain ⟨v', w', hr, h2, h3⟩ := run_appV hu hinfo hz hby o.type B v xs hown A c news hl h1 hm hB
  unfold Oper.wp execOp
  simp only [ho, resolve, invoke, builtin, Sem.run_bind, Sem.run_pure, Result.andThen_ok, List.map_toArray, List.map_cons, List.map_nil, hs, hx, hr]
  exact h v' w' h2 (hb.grown h3 hB (fun k hk => (World.ownsRow.lt hown k hk).1)) (Nat.le_trans hB h3.size)
theorem wpList_appV {ops : Array Oper} {rest : List Oper} {o : Oper} {a : Act} {Q : Exit → Act → World → Prop} {w : World} (hgd : o.guard = none) (s x : Operand) (t e : TypeId) (z : Value) (bytes : Nat)
    (ho : o.op = .call { callee := .builtin .append, args := #[s, x], argTypes := #[t, t] })
    (hu : Tryd.prog.underlying t = some (.slice e)) (hinfo : (Tryd.prog.info? e).map (fun i => (i.zero, i.size, i.bytes)) = some (some z, 1, bytes)) (hz : z.cells.size = 1) (hby : bytes ≤ 16)
    (B : Nat) (w0 : World) (hb : Below B w0 w) (hB : B ≤ w.heap.size) (v : Value) (xs : List Value) (hs : a.eval s = v) (hown : Own e w B v xs)
    (A : Addr) (m c : Nat) (news : List Value) (hx : a.eval x = .slice (some A) m c) (hml : m = news.length) (hl : Lay w A news) (h1 : ∀ u ∈ news, u.oneCell' = true) (hm : xs.length + news.length ≤ 3000000)
    (h : ∀ v' w', Hid (Own e w' B v' (xs ++ news)) → Hid (Below B w0 w') → Hid (B ≤ w'.heap.size) → wpList Tryd.prog ops Q rest (a.put o.dst v') w') : wpList Tryd.prog ops Q (o :: rest) a w := by
  subst hml
  refine wpList_plain hgd fun K hK => ?_
  obtain ⟨v', w', hr, h2, h3⟩ := run_appV hu hinfo hz hby o.type B v xs hown A c news hl h1 hm hB
  unfold Oper.wp execOp
  simp only [ho, resolve, invoke, builtin, Sem.run_bind, Sem.run_pure, Result.andThen_ok, List.map_toArray, List.map_cons, List.map_nil, hs, hx, hr]
  exact hK _ _ (h v' w' h2 (hb.grown h3 hB (fun k hk => (World.ownsRow.lt hown k hk).1)) (Nat.le_trans hB h3.size))
theorem wpList_appG {ops : Array Oper} {rest : List Oper} {o : Oper} {a : Act} {Q : Exit → Act → World → Prop} {w : World} (hgd : o.guard = none) (s x : Operand) (t e : TypeId) (z : Value) (bytes : Nat)
    (ho : o.op = .call { callee := .builtin .append, args := #[s, x], argTypes := #[t, t] })
    (hu : Tryd.prog.underlying t = some (.slice e)) (hinfo : (Tryd.prog.info? e).map (fun i => (i.zero, i.size, i.bytes)) = some (some z, 1, bytes)) (hz : z.cells.size = 1) (hby : bytes ≤ 16)
    (B : Nat) (w0 : World) (hb : Below B w0 w) (hB : B ≤ w.heap.size) (v : Value) (xs : List Value) (hs : a.eval s = v) (hown : Own e w B v xs)
    (A : Addr) (m c : Nat) (news : List Value) (hx : a.eval x = .slice (some A) m c) (hml : m = news.length) (hl : Lay w A news) (h1 : ∀ u ∈ news, u.oneCell' = true) (hm : xs.length + news.length ≤ 3000000)
    (h : ∀ v' w', Hid (Own e w' B v' (xs ++ news)) → Hid (Below B w0 w') → Hid (B ≤ w'.heap.size) → Hid (w.grownBy w' v.ownBlock) → wpList Tryd.prog ops Q rest (a.put o.dst v') w') : wpList Tryd.prog ops Q (o :: rest) a w := by
  subst hml
  refine wpList_plain hgd fun K hK => ?_
  obtain ⟨v', w', hr, h2, h3⟩ := run_appV hu hinfo hz hby o.type B v xs hown A c news hl h1 hm hB
  unfold Oper.wp execOp
  simp only [ho, resolve, invoke, builtin, Sem.run_bind, Sem.run_pure, Result.andThen_ok, List.map_toArray, List.map_cons, List.map_nil, hs, hx, hr]
  exact hK _ _ (h v' w' h2 (hb.grown h3 hB (fun k hk => (World.ownsRow.lt hown k hk).1)) (Nat.le_trans hB h3.size) h3)
theorem own_ne {T T' : TypeId} {w : World} {B : Nat} {v : Value} {xs : List Value} (h : Own T w B v xs) {M : Nat} {cs : Array Value} {fz : Nat × Nat} (hM : w.heap[M]? = some (.cells cs T' fz)) (hne : T ≠ T') : some M ≠ v.ownBlock := by
  rcases h.2 with ⟨rfl, _⟩ | ⟨g, cap, cur, rfl, _, h4, _⟩
  · simp [Value.ownBlock]
  · intro e
    have e2 : M = g := by simpa [Value.ownBlock] using e
    subst e2
    rw [hM] at h4
    injection h4 with h4
    injection h4 with _ h5 _
    exact hne h5.symm
end Go.Proofs.YtiflieaemgamkaaDoor

namespace Go.Proofs.YtiflieaemgamkaaDoor.Hm
open Go.RowKit

def hexd (n : Nat) : UInt8 := if n < 10 then UInt8.ofNat (48 + n) else UInt8.ofNat (87 + n)
def hexL (l : List UInt8) : List UInt8 := l.flatMap fun c => [hexd (c.toNat / 16), hexd (c.toNat % 16)]
theorem hexL_len (l : List UInt8) : (hexL l).length = 2 * l.length := by
  induction l with
  | nil => rfl
  | cons c l ih => simp [hexL] at ih ⊢; omega
theorem hexL_snoc (l : List UInt8) (c : UInt8) : hexL (l ++ [c]) = hexL l ++ [hexd (c.toNat / 16), hexd (c.toNat % 16)] := by
  simp [hexL]
/-- which digit a byte is -/
def dig (c : UInt8) : Option Nat := if 48 ≤ c.toNat ∧ c.toNat ≤ 57 then some (c.toNat - 48) else if 97 ≤ c.toNat ∧ c.toNat ≤ 102 then some (c.toNat - 87) else none
def unhexL : List UInt8 → Option (List UInt8)
  | [] => some []
  | [_] => none
  | a :: b :: r => match dig a, dig b with
    | some x, some y => (unhexL r).map (UInt8.ofNat (16 * x + y) :: ·)
    | _, _ => none
theorem dig_hexd : ∀ n, n < 16 → dig (hexd n) = some n := by decide
theorem unhex_hex (l : List UInt8) : unhexL (hexL l) = some l := by
  induction l with
  | nil => rfl
  | cons c l ih =>
    have h : hexL (c :: l) = hexd (c.toNat / 16) :: hexd (c.toNat % 16) :: hexL l := rfl
    have hc : c.toNat < 256 := c.toNat_lt
    rw [h, unhexL, dig_hexd _ (by omega), dig_hexd _ (by omega)]
    simp only
    rw [ih, show 16 * (c.toNat / 16) + c.toNat % 16 = c.toNat by omega]
    simp
theorem hexd_dig : ∀ c : UInt8, ∀ x, dig c = some x → x < 16 ∧ hexd x = c := by
  intro c x h
  have hc : c.toNat < 256 := c.toNat_lt
  unfold dig at h
  split at h
  · rename_i hh
    injection h with h
    subst h
    refine ⟨by omega, ?_⟩
    unfold hexd
    rw [if_pos (by omega), show 48 + (c.toNat - 48) = c.toNat by omega]
    simp
  · split at h
    · rename_i hh
      injection h with h
      subst h
      refine ⟨by omega, ?_⟩
      unfold hexd
      rw [if_neg (by omega), show 87 + (c.toNat - 87) = c.toNat by omega]
      simp
    · cases h
theorem hex_unhex : ∀ (n : Nat) (t l : List UInt8), t.length ≤ n → unhexL t = some l → hexL l = t
  | _, [], l, _, h => by simp [unhexL] at h; subst h; rfl
  | _, [_], l, _, h => by simp [unhexL] at h
  | 0, _ :: _ :: _, _, hn, _ => by simp at hn
  | n + 1, a :: b :: r, l, hn, h => by
    rw [unhexL] at h
    cases ha : dig a with
    | none => rw [ha] at h; cases h
    | some x =>
      cases hb : dig b with
      | none => rw [ha, hb] at h; cases h
      | some y =>
        rw [ha, hb] at h
        simp only [Option.map_eq_some_iff] at h
        obtain ⟨m, hm, rfl⟩ := h
        obtain ⟨x1, x2⟩ := hexd_dig a x ha
        obtain ⟨y1, y2⟩ := hexd_dig b y hb
        have hq : (UInt8.ofNat (16 * x + y)).toNat = 16 * x + y := by rw [UInt8.toNat_ofNat']; omega
        show hexd ((UInt8.ofNat (16 * x + y)).toNat / 16) :: hexd ((UInt8.ofNat (16 * x + y)).toNat % 16) :: hexL m = _
        rw [hq, show (16 * x + y) / 16 = x by omega, show (16 * x + y) % 16 = y by omega, x2, y2, hex_unhex n r m (by simp at hn; omega) hm]
end Go.Proofs.YtiflieaemgamkaaDoor.Hm

namespace Go.Proofs.YtiflieaemgamkaaDoor
open Go.RowKit Hm

theorem run_dig (k : IntKind) (n : Nat) (hn : n < 16) (z : Int) (hz : z = (n : Int)) (W : World) : (Instr.index 9 (.string ⟨#[48, 49, 50, 51, 52, 53, 54, 55, 56, 57, 97, 98, 99, 100, 101, 102]⟩) (.int k z)).run Tryd.prog W = .ok (.int .u8 ((hexd n).toNat : Int)) W := by
  subst hz
  rw [run_index_string W _ _ k _ Tryd.underlying9]
  rcases (show n = 0 ∨ n = 1 ∨ n = 2 ∨ n = 3 ∨ n = 4 ∨ n = 5 ∨ n = 6 ∨ n = 7 ∨ n = 8 ∨ n = 9 ∨ n = 10 ∨ n = 11 ∨ n = 12 ∨ n = 13 ∨ n = 14 ∨ n = 15 by omega) with rfl | rfl | rfl | rfl | rfl | rfl | rfl | rfl | rfl | rfl | rfl | rfl | rfl | rfl | rfl | rfl <;> rfl
theorem info_b8 : (Tryd.prog.info? 5).map (fun i => (i.zero, i.size, i.bytes)) = some (some (.int .u8 0), 1, 1) := by kernel_rfl
theorem conv_ownB {w : World} {B : Nat} {v : Value} {xs : List UInt8} (h : Own 5 w B v (xs.map u8v)) :
    (convert 89 9 v).run Tryd.prog w = .ok (.string ⟨xs.toArray⟩) w := by
  rcases Nat.eq_zero_or_pos xs.length with h0 | hp
  · have hx : xs = [] := List.length_eq_zero_iff.1 h0
    subst hx
    rcases h.2 with ⟨rfl, _⟩ | ⟨g, cap, cur, rfl, _⟩
    · exact run_convert_bytes_nil _ _ _ Tryd.underlying89 Tryd.underlying5 _ _ _ Tryd.underlying9
    · exact run_convert_bytes_back w 89 9 5 ⟨g, 0, none⟩ cap [] Tryd.underlying89 Tryd.underlying5 Tryd.underlying9 (fun j hj => by simp at hj)
  · obtain ⟨g, cap, rfl, _, _, _, hc⟩ := h.cellAt (by simpa using hp)
    have e := run_convert_bytes_back (P := Tryd.prog) w 89 9 5 ⟨g, 0, none⟩ cap xs Tryd.underlying89 Tryd.underlying5 Tryd.underlying9 (fun j hj => by
      rw [Addr.add_lit, Nat.zero_add, hc j (by simpa using hj)]
      simp [u8v])
    rw [List.length_map]
    exact e
theorem and15 (c : UInt8) : bits BinOp.and IntKind.u8 (c.toNat : Int) 15 = ((c.toNat % 16 : Nat) : Int) := by
  have h := u8_and_nat c.toNat 15 c.toNat_lt (by omega)
  rw [show (15 : Nat) = 2 ^ 4 - 1 by rfl, Nat.and_two_pow_sub_one_eq_mod] at h
  exact h
end Go.Proofs.YtiflieaemgamkaaDoor

namespace Go.Proofs.YtiflieaemgamkaaDoor
open Go.RowKit Hm

/-- what a digit counts, or -1 -/
def digI (c : UInt8) : Int := match dig c with | some x => (x : Int) | none => -1
theorem digI_lo (c : UInt8) (h1 : 48 ≤ c.toNat) (h2 : c.toNat ≤ 57) : digI c = (c.toNat : Int) - 48 := by
  unfold digI dig
  rw [if_pos ⟨h1, h2⟩]
  show ((c.toNat - 48 : Nat) : Int) = _
  omega
theorem digI_hi (c : UInt8) (h1 : 97 ≤ c.toNat) (h2 : c.toNat ≤ 102) : digI c = (c.toNat : Int) - 97 + 10 := by
  unfold digI dig
  rw [if_neg (by omega), if_pos ⟨h1, h2⟩]
  show ((c.toNat - 87 : Nat) : Int) = _
  omega
theorem digI_no (c : UInt8) (h1 : ¬ (48 ≤ c.toNat ∧ c.toNat ≤ 57)) (h2 : ¬ (97 ≤ c.toNat ∧ c.toNat ≤ 102)) : digI c = -1 := by
  unfold digI dig
  rw [if_neg h1, if_neg h2]
theorem digI_bd (c : UInt8) : -1 ≤ digI c ∧ digI c ≤ 15 := by
  by_cases h1 : 48 ≤ c.toNat ∧ c.toNat ≤ 57
  · rw [digI_lo c h1.1 h1.2]; omega
  · by_cases h2 : 97 ≤ c.toNat ∧ c.toNat ≤ 102
    · rw [digI_hi c h2.1 h2.2]; omega
    · rw [digI_no c h1 h2]; omega
theorem digI_some (c : UInt8) (x : Nat) (h : dig c = some x) : digI c = (x : Int) := by unfold digI; rw [h]
theorem digI_none (c : UInt8) (h : dig c = none) : digI c = -1 := by unfold digI; rw [h]
theorem retI {k : IntKind} {a b : Int} (h : a = b) : Ending.returned (.int k a) = .returned (.int k b) := by rw [h]
/-- the document's: 16, if it is none -/
def plcI (c : UInt8) : Int := match dig c with | some x => (x : Int) | none => 16
theorem plcI_some (c : UInt8) (x : Nat) (h : dig c = some x) : plcI c = (x : Int) := by unfold plcI; rw [h]
theorem plcI_none (c : UInt8) (h : dig c = none) : plcI c = 16 := by unfold plcI; rw [h]
theorem plcI_bd (c : UInt8) : 0 ≤ plcI c ∧ plcI c ≤ 16 := by
  unfold plcI
  cases h : dig c with
  | none => simp
  | some x => have := (hexd_dig c x h).1; simp only; omega
theorem dig_is (c : UInt8) (k : Nat) (hk : k < 16) : (hexd k = c) = (dig c = some k) := by
  apply propext
  constructor
  · intro h; rw [← h]; exact dig_hexd k hk
  · intro h; exact (hexd_dig c k h).2
theorem eq_u8 (a b : UInt8) (h : a ≠ b) : ((a.toNat : Int) == (b.toNat : Int)) = false := by
  rw [beq_eq_false_iff_ne]
  intro e
  exact h (UInt8.toNat_inj.1 (by omega))
end Go.Proofs.YtiflieaemgamkaaDoor

namespace Go.Proofs.YtiflieaemgamkaaDoor
open Go.RowKit Hm

theorem unhexL_app : ∀ (t r m : List UInt8), unhexL t = some m → unhexL (t ++ r) = (unhexL r).map (m ++ ·)
  | [], r, m, h => by
    simp [unhexL] at h
    subst h
    simp
  | [_], _, _, h => by simp [unhexL] at h
  | a :: b :: t, r, m, h => by
    rw [unhexL] at h
    show unhexL (a :: b :: (t ++ r)) = _
    rw [unhexL]
    cases ha : dig a with
    | none => rw [ha] at h; cases h
    | some x =>
      cases hb : dig b with
      | none => rw [ha, hb] at h; cases h
      | some y =>
        rw [ha, hb] at h
        simp only [Option.map_eq_some_iff] at h
        obtain ⟨q, hq, rfl⟩ := h
        simp only
        rw [unhexL_app t r q hq, Option.map_map]
        rfl
theorem unhexL_odd : ∀ (t : List UInt8), t.length % 2 = 1 → unhexL t = none
  | [], h => by simp at h
  | [_], _ => rfl
  | a :: b :: t, h => by
    rw [unhexL, unhexL_odd t (by simp at h; omega)]
    split <;> simp
def unhexV (l : List UInt8) : Value := match unhexL l with
  | some m => .tuple #[.string ⟨m.toArray⟩, .bool true]
  | none => .tuple #[.string ⟨#[]⟩, .bool false]
theorem unhexV_some (l m : List UInt8) (h : unhexL l = some m) : unhexV l = .tuple #[.string ⟨m.toArray⟩, .bool true] := by unfold unhexV; rw [h]
theorem unhexV_none (l : List UInt8) (h : unhexL l = none) : unhexV l = .tuple #[.string ⟨#[]⟩, .bool false] := by unfold unhexV; rw [h]
theorem take2 (l : List UInt8) (p : Nat) (a b : UInt8) (ha : l[p]? = some a) (hb : l[p + 1]? = some b) : l.take (p + 2) = l.take p ++ [a, b] := by
  have h1 : p < l.length := by
    rcases Nat.lt_or_ge p l.length with h | h
    · exact h
    · rw [List.getElem?_eq_none h] at ha; cases ha
  have h2 : p + 1 < l.length := by
    rcases Nat.lt_or_ge (p + 1) l.length with h | h
    · exact h
    · rw [List.getElem?_eq_none h] at hb; cases hb
  rw [List.getElem?_eq_getElem h1] at ha
  rw [List.getElem?_eq_getElem h2] at hb
  rw [List.take_succ_eq_append_getElem h2, List.take_succ_eq_append_getElem h1, Option.some.inj ha, Option.some.inj hb]
  simp
theorem unhexL_two (l m : List UInt8) (p : Nat) (a b : UInt8) (x y : Nat) (ha : l[p]? = some a) (hb : l[p + 1]? = some b) (hx : dig a = some x) (hy : dig b = some y) (h : unhexL (l.take p) = some m) : unhexL (l.take (p + 2)) = some (m ++ [UInt8.ofNat (16 * x + y)]) := by
  rw [take2 l p a b ha hb, unhexL_app _ _ m h]
  simp [unhexL, hx, hy]
theorem unhexL_bad (l m : List UInt8) (p : Nat) (a b : UInt8) (ha : l[p]? = some a) (hb : l[p + 1]? = some b) (hn : dig a = none ∨ dig b = none) (h : unhexL (l.take p) = some m) : unhexL l = none := by
  have e : l = l.take p ++ (a :: b :: l.drop (p + 2)) := by
    have h1 := take2 l p a b ha hb
    have h2 := List.take_append_drop (p + 2) l
    rw [h1] at h2
    rw [List.append_assoc] at h2
    exact h2.symm
  rw [e, unhexL_app _ _ m h, unhexL]
  rcases hn with hn | hn
  · rw [hn]; rfl
  · rw [hn]
    cases dig a <;> rfl
theorem unhexL_len : ∀ (n : Nat) (t m : List UInt8), t.length ≤ n → unhexL t = some m → t.length = 2 * m.length
  | _, [], m, _, h => by simp [unhexL] at h; subst h; rfl
  | _, [_], m, _, h => by simp [unhexL] at h
  | 0, _ :: _ :: _, _, hn, _ => by simp at hn
  | n + 1, a :: b :: r, m, hn, h => by
    rw [unhexL] at h
    cases ha : dig a with
    | none => rw [ha] at h; cases h
    | some x =>
      cases hb : dig b with
      | none => rw [ha, hb] at h; cases h
      | some y =>
        rw [ha, hb] at h
        simp only [Option.map_eq_some_iff] at h
        obtain ⟨q, hq, rfl⟩ := h
        have := unhexL_len n r q (by simp at hn; omega) hq
        simp
        omega
theorem or16 : ∀ x : Fin 16, ∀ y : Fin 16, bits BinOp.or IntKind.i64 (((x.val * 16 : Nat) : Int)) (y.val : Int) = ((16 * x.val + y.val : Nat) : Int) := by decide +kernel
theorem or16n (x y : Nat) (hx : x < 16) (hy : y < 16) : bits BinOp.or IntKind.i64 ((x : Int) * 16) (y : Int) = 16 * (x : Int) + (y : Int) := by
  have h := or16 ⟨x, hx⟩ ⟨y, hy⟩
  simp only at h
  rw [show ((x * 16 : Nat) : Int) = (x : Int) * 16 by omega] at h
  rw [h]
  omega
theorem hexbyte (x y : Nat) (hx : x < 16) (hy : y < 16) : Value.int .u8 (16 * (x : Int) + (y : Int)) = u8v (UInt8.ofNat (16 * x + y)) := by
  unfold u8v
  rw [UInt8.toNat_ofNat', Nat.mod_eq_of_lt (by omega)]
  congr 1
end Go.Proofs.YtiflieaemgamkaaDoor

namespace Go.Proofs.YtiflieaemgamkaaDoor
open Go.RowKit Hm

theorem run_digs (n : Nat) (hn : n < 16) (z z1 : Int) (hz : z = (n : Int)) (hz1 : z1 = (n : Int) + 1) (W : World) : (Instr.slice 9 (.string ⟨#[48, 49, 50, 51, 52, 53, 54, 55, 56, 57, 97, 98, 99, 100, 101, 102]⟩) (some (.int .i64 z)) (some (.int .i64 z1)) none).run Tryd.prog W = .ok (.string ⟨#[hexd n]⟩) W := by
  subst hz
  subst hz1
  rw [run_slice_string _ _ _ _ _ _ _ Tryd.underlying9 (by omega) (by omega) (by show (n : Int) + 1 ≤ 16; omega)]
  rcases (show n = 0 ∨ n = 1 ∨ n = 2 ∨ n = 3 ∨ n = 4 ∨ n = 5 ∨ n = 6 ∨ n = 7 ∨ n = 8 ∨ n = 9 ∨ n = 10 ∨ n = 11 ∨ n = 12 ∨ n = 13 ∨ n = 14 ∨ n = 15 by omega) with rfl | rfl | rfl | rfl | rfl | rfl | rfl | rfl | rfl | rfl | rfl | rfl | rfl | rfl | rfl | rfl <;> rfl
theorem str_two (S : ByteArray) (l : List UInt8) (a b : UInt8) (h : S.data.toList = l) : (S ++ ⟨#[a]⟩ ++ ⟨#[b]⟩).data.toList = l ++ [a, b] := by
  subst h
  simp
theorem conv_oneB (w : World) (x : Int) (b : UInt8) (hx : x = (b.toNat : Int)) :
    (convert 89 9 (.slice (some ⟨w.heap.size, 0, none⟩) 1 1)).run Tryd.prog (w.alloc (.cells #[.int .u8 x] 5)) = .ok (.string ⟨#[b]⟩) (w.alloc (.cells #[.int .u8 x] 5)) := by
  subst hx
  exact conv_ownB (xs := [b]) (B := w.heap.size) ⟨rfl, .inr ⟨w.heap.size, 1, #[u8v b], rfl, Nat.le_refl _, heap_alloc_new _ _, by simp, by unfold maxLen; omega, rfl, rfl⟩⟩
theorem str_snocH (S : ByteArray) (m : List UInt8) (a : UInt8) (h : S.data.toList = m) : (S ++ ⟨#[a]⟩).data.toList = m ++ [a] := by
  subst h
  simp
end Go.Proofs.YtiflieaemgamkaaDoor
