/- The contract of sha.Unhex over this translation. Conditions: texts of at most a million bytes. -/
import Derived.Test.YtpjpegmjcgkonaaDoorHu
namespace Go.Proofs.YtpjpegmjcgkonaaDoor
open Go.RowKit Hm

theorem unhexL_app : ∀ (t r m : List UInt8), unhexL t = some m → unhexL (t ++ r) = (unhexL r).map (m ++ ·)
  | [], r, m, h => by
    simp [unhexL] at h
    subst h
    simp
  | [_], _, _, h => by simp [unhexL] at h
  | a :: b :: t, r, m, h => by
    rw [unhexL] at h
    show unhexL (a :: b :: (t ++ r)) = _
    rw [unhexL]
    cases ha : dig a with
    | none => rw [ha] at h; cases h
    | some x =>
      cases hb : dig b with
      | none => rw [ha, hb] at h; cases h
      | some y =>
        rw [ha, hb] at h
        simp only [Option.map_eq_some_iff] at h
        obtain ⟨q, hq, rfl⟩ := h
        simp only
        rw [unhexL_app t r q hq, Option.map_map]
        rfl
theorem unhexL_odd : ∀ (t : List UInt8), t.length % 2 = 1 → unhexL t = none
  | [], h => by simp at h
  | [_], _ => rfl
  | a :: b :: t, h => by
    rw [unhexL, unhexL_odd t (by simp at h; omega)]
    split <;> simp
def unhexV (l : List UInt8) : Value := match unhexL l with
  | some m => .tuple #[.string ⟨m.toArray⟩, .bool true]
  | none => .tuple #[.string ⟨#[]⟩, .bool false]
theorem unhexV_some (l m : List UInt8) (h : unhexL l = some m) : unhexV l = .tuple #[.string ⟨m.toArray⟩, .bool true] := by unfold unhexV; rw [h]
theorem unhexV_none (l : List UInt8) (h : unhexL l = none) : unhexV l = .tuple #[.string ⟨#[]⟩, .bool false] := by unfold unhexV; rw [h]
theorem take2 (l : List UInt8) (p : Nat) (a b : UInt8) (ha : l[p]? = some a) (hb : l[p + 1]? = some b) : l.take (p + 2) = l.take p ++ [a, b] := by
  have h1 : p < l.length := by
    rcases Nat.lt_or_ge p l.length with h | h
    · exact h
    · rw [List.getElem?_eq_none h] at ha; cases ha
  have h2 : p + 1 < l.length := by
    rcases Nat.lt_or_ge (p + 1) l.length with h | h
    · exact h
    · rw [List.getElem?_eq_none h] at hb; cases hb
  rw [List.getElem?_eq_getElem h1] at ha
  rw [List.getElem?_eq_getElem h2] at hb
  rw [List.take_succ_eq_append_getElem h2, List.take_succ_eq_append_getElem h1, Option.some.inj ha, Option.some.inj hb]
  simp
theorem unhexL_two (l m : List UInt8) (p : Nat) (a b : UInt8) (x y : Nat) (ha : l[p]? = some a) (hb : l[p + 1]? = some b) (hx : dig a = some x) (hy : dig b = some y) (h : unhexL (l.take p) = some m) : unhexL (l.take (p + 2)) = some (m ++ [UInt8.ofNat (16 * x + y)]) := by
  rw [take2 l p a b ha hb, unhexL_app _ _ m h]
  simp [unhexL, hx, hy]
theorem unhexL_bad (l m : List UInt8) (p : Nat) (a b : UInt8) (ha : l[p]? = some a) (hb : l[p + 1]? = some b) (hn : dig a = none ∨ dig b = none) (h : unhexL (l.take p) = some m) : unhexL l = none := by
  have e : l = l.take p ++ (a :: b :: l.drop (p + 2)) := by
    have h1 := take2 l p a b ha hb
    have h2 := List.take_append_drop (p + 2) l
    rw [h1] at h2
    rw [List.append_assoc] at h2
    exact h2.symm
  rw [e, unhexL_app _ _ m h, unhexL]
  rcases hn with hn | hn
  · rw [hn]; rfl
  · rw [hn]
    cases dig a <;> rfl
theorem unhexL_len : ∀ (n : Nat) (t m : List UInt8), t.length ≤ n → unhexL t = some m → t.length = 2 * m.length
  | _, [], m, _, h => by simp [unhexL] at h; subst h; rfl
  | _, [_], m, _, h => by simp [unhexL] at h
  | 0, _ :: _ :: _, _, hn, _ => by simp at hn
  | n + 1, a :: b :: r, m, hn, h => by
    rw [unhexL] at h
    cases ha : dig a with
    | none => rw [ha] at h; cases h
    | some x =>
      cases hb : dig b with
      | none => rw [ha, hb] at h; cases h
      | some y =>
        rw [ha, hb] at h
        simp only [Option.map_eq_some_iff] at h
        obtain ⟨q, hq, rfl⟩ := h
        have := unhexL_len n r q (by simp at hn; omega) hq
        simp
        omega
theorem or16 : ∀ x : Fin 16, ∀ y : Fin 16, bits BinOp.or IntKind.i64 (((x.val * 16 : Nat) : Int)) (y.val : Int) = ((16 * x.val + y.val : Nat) : Int) := by decide +kernel
theorem or16n (x y : Nat) (hx : x < 16) (hy : y < 16) : bits BinOp.or IntKind.i64 ((x : Int) * 16) (y : Int) = 16 * (x : Int) + (y : Int) := by
  have h := or16 ⟨x, hx⟩ ⟨y, hy⟩
  simp only at h
  rw [show ((x * 16 : Nat) : Int) = (x : Int) * 16 by omega] at h
  rw [h]
  omega
theorem hexbyte (x y : Nat) (hx : x < 16) (hy : y < 16) : Value.int .u8 (16 * (x : Int) + (y : Int)) = u8v (UInt8.ofNat (16 * x + y)) := by
  unfold u8v
  rw [UInt8.toNat_ofNat', Nat.mod_eq_of_lt (by omega)]
  congr 1
end Go.Proofs.YtpjpegmjcgkonaaDoor
