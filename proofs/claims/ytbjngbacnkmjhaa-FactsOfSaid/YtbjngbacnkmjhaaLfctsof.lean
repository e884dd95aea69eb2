/- The walk of FactsOf over this translation. Conditions: texts and numbers that are ones. -/
import Derived.Test.YtbjngbacnkmjhaaIMe
import Derived.Test.YtbjngbacnkmjhaaIMa
import Derived.Test.YtbjngbacnkmjhaaIMb
import Derived.Test.YtbjngbacnkmjhaaGQb
import Derived.Test.YtbjngbacnkmjhaaOpc
import Derived.Test.YtbjngbacnkmjhaaOpc
namespace Go.Proofs.Ytbjngbacnkmjhaa.LFactsOf
open Go.RowKit Vi

theorem fl_len {α : Type} (f : α → List Fc) : ∀ (l : List α) (_ : ∀ x ∈ l, (f x).length ≤ 20), (l.flatMap f).length ≤ 20 * l.length
  | [], _ => by simp
  | x :: r, h => by
    have q1 := fl_len f r (fun y hy => h y (List.mem_cons_of_mem _ hy))
    have q2 := h x (by simp)
    rw [List.flatMap_cons, List.length_append, List.length_cons]
    omega
theorem fcts_len {X : List Nd} {Y : List Ed} (hn : X.length ≤ 40) (hn2 : Y.length ≤ 60) (h : thinN X) (k : thinE Y) : (fcts X Y).length ≤ 10000 := by
  rw [fcts_doc]
  unfold rfcts
  split
  · simp
  · unfold docF
    simp only [List.length_append, List.length_map]
    have q1 := fl_len labsN X (fun x hx => by unfold labsN; rw [List.length_map]; exact (h x hx).1)
    have q2 := fl_len prosN X (fun x hx => by unfold prosN; rw [List.length_map]; exact (h x hx).2)
    have q3 := fl_len labsE Y (fun x hx => by unfold labsE; rw [List.length_map]; exact (k x hx).1)
    have q4 := fl_len prosE Y (fun x hx => by unfold prosE; rw [List.length_map]; exact (k x hx).2)
    omega
theorem gr_int {w : World} (x : SlX ShN.Den) (y : SlX ShE.Den) (h : Sh.Ok w (.slice ShN) x) (k : Sh.Ok w (.slice ShE) y) : GrInt (x.l.map ndOf) (y.l.map edOf) := by
  obtain ⟨_, _, _, h4⟩ := h
  obtain ⟨_, _, _, k4⟩ := k
  refine ⟨fun z hz => ?_, fun z hz => ?_⟩
  · obtain ⟨q, hq, rfl⟩ := List.mem_map.1 hz
    obtain ⟨_, _, o3⟩ := h4 q hq
    intro p hp
    have hw : (Lit.int .i64 p.2.2.1).wf = true := (o3.2.2.2 p hp).2.2.1
    simpa [Lit.wf, IntKind.min, IntKind.max, IntKind.bits, IntKind.signed] using hw
  · obtain ⟨q, hq, rfl⟩ := List.mem_map.1 hz
    obtain ⟨_, _, _, _, o3⟩ := k4 q hq
    intro p hp
    have hw : (Lit.int .i64 p.2.2.1).wf = true := (o3.2.2.2 p hp).2.2.1
    simpa [Lit.wf, IntKind.min, IntKind.max, IntKind.bits, IntKind.signed] using hw
set_option maxRecDepth 100000 in
set_option maxHeartbeats 8000000 in
theorem walk (A A2 : Option Addr) (n c n2 c2 : Nat) (X : List Nd) (Y : List Ed) (w : World) (h : GrIs w A n A2 n2 X Y) (k : GrOk X Y) (ki : GrInt X Y) :
    Calls Try.prog 8 #[.agg #[.slice A n c, .slice A2 n2 c2]] w fun e w' => e = .returned (.bool true) ∧ Below w.heap.size w w' := by
  have H := Lib.hid h
  have HFW := Lib.hid (fun (W : World) (q : GrIs W A n A2 n2 X Y) => few26s_any A A2 n c n2 c2 X Y W q)
  have K := Lib.hid k
  have KI := Lib.hid ki
  clear h k ki
  have HB1 := Lib.hid (Below.refl w.heap.size w)
  go_enter Try.func8, Try.ntmps8
  have HF2 := Lib.hid (blk_new w (.cells #[.slice A n c, .slice A2 n2 c2] 65 (0, 0)))
  have HB3 := Lib.hid (HB1.out.alloc HB1.out.size (.cells #[.slice A n c, .slice A2 n2 c2] 65 (0, 0)))
  have c0 : (w.alloc (.cells #[.slice A n c, .slice A2 n2 c2] 65 (0, 0))).cell? ⟨w.heap.size, 0, none⟩ = some (.slice A n c) := by rw [cell_of_row _ _ _ _ _ _ HF2.out]; rfl
  have c1 : (w.alloc (.cells #[.slice A n c, .slice A2 n2 c2] 65 (0, 0))).cell? ⟨w.heap.size, 1, none⟩ = some (.slice A2 n2 c2) := by rw [cell_of_row _ _ _ _ _ _ HF2.out]; rfl
  go_wp2_with fail
  clear c0 c1 HB1
  refine (HFW.out (w.alloc (.cells #[.slice A n c, .slice A2 n2 c2] 65 (0, 0))) (H.out.below HB3.out)).mono ?_
  rintro e w1 ⟨b, rfl, hsm, hb1⟩
  have HG := Lib.hid (blk_below HF2.out hb1)
  have HB := Lib.hid (HB3.out.trans (hb1.mono HB3.out.size))
  have HS := Lib.hid hsm
  clear hb1 HB3 HF2 hsm HFW
  cases b with
  | false =>
    go_wp2_with fail
    refine (awake27 w1).mono ?_
    rintro e w2 ⟨rfl, hb2⟩
    have HB2 := Lib.hid (HB.out.trans (hb2.mono HB.out.size))
    clear hb2
    go_wp2_with fail
    go_ret
    exact ⟨rfl, HB2.out⟩
  | true =>
    obtain ⟨hn, hn2, ht1, ht2⟩ := HS.out (by first | rfl | trivial)
    clear HS
    have HFO := Lib.hid (fun (W : World) (q : GrIs W A n A2 n2 X Y) => fof_any A A2 n c n2 c2 X Y W q K.out KI.out (by omega) (by omega))
    have HRO := Lib.hid (fun (W : World) (q : GrIs W A n A2 n2 X Y) => rfof_any A A2 n c n2 c2 X Y W q K.out KI.out (by omega) (by omega))
    have HRI := Lib.hid (fcts_rise X Y)
    rw [← fcts_doc] at HRO
    have hfl := fcts_len (by have := H.out.nl; omega) (by have := H.out.nl; omega) ht1 ht2
    clear ht1 ht2
    obtain ⟨F, hF⟩ : ∃ F, F = fcts X Y := ⟨_, rfl⟩
    rw [← hF] at hfl
    have HFL := Lib.hid hfl
    clear hfl
    rw [← hF] at HFO HRO HRI
    clear hF K KI
    have c0 : w1.cell? ⟨w.heap.size, 0, none⟩ = some (.slice A n c) := by rw [cell_of_row _ _ _ _ _ _ HG.out]; rfl
    have c1 : w1.cell? ⟨w.heap.size, 1, none⟩ = some (.slice A2 n2 c2) := by rw [cell_of_row _ _ _ _ _ _ HG.out]; rfl
    go_wp2_with fail
    clear c0 c1
    refine (HFO.out w1 (H.out.below HB.out)).mono ?_
    rintro e w2 ⟨v1, rfl, ho, hb⟩
    obtain ⟨a1, d1, rfl, hr1, _, hm1⟩ := ho.rd fcC_len
    have HO1 := Lib.hid hr1
    have HG2 := Lib.hid (blk_below HG.out hb)
    have HB2 := Lib.hid (HB.out.trans (hb.mono HB.out.size))
    clear ho hr1 hb HG HFO hm1
    have c0 : w2.cell? ⟨w.heap.size, 0, none⟩ = some (.slice A n c) := by rw [cell_of_row _ _ _ _ _ _ HG2.out]; rfl
    have c1 : w2.cell? ⟨w.heap.size, 1, none⟩ = some (.slice A2 n2 c2) := by rw [cell_of_row _ _ _ _ _ _ HG2.out]; rfl
    go_wp2_with fail
    clear c0 c1
    refine (HRO.out w2 (H.out.below HB2.out)).mono ?_
    rintro e w3 ⟨v2, rfl, ho, hb⟩
    obtain ⟨a2, d2, rfl, hr2, _, _⟩ := ho.rd fcC_len
    have HO2 := Lib.hid hr2
    have HO3 := Lib.hid (HO1.out.below hb)
    have HB3 := Lib.hid (HB2.out.trans (hb.mono HB2.out.size))
    clear ho hr2 hb HRO HG2
    go_wp2_with fail
    refine (same27_yes a1 F.length d1 F a2 d2 w3 HO3.out HO2.out (by have := HFL.out; unfold maxLen; omega)).mono ?_
    rintro e w4 ⟨rfl, hb⟩
    have HO4 := Lib.hid (HO3.out.below hb)
    have HB4 := Lib.hid (HB3.out.trans (hb.mono HB3.out.size))
    clear hb
    have HRS := Lib.hid (frise_any a1 F.length d1 F w4 HO4.out (by have := HFL.out; omega))
    rw [HRI.out] at HRS
    go_wp2_with fail
    refine HRS.out.mono ?_
    rintro e w5 ⟨rfl, hb⟩
    have HB5 := Lib.hid (HB4.out.trans (hb.mono HB4.out.size))
    clear hb
    go_wp2_with fail
    refine (awake27 w5).mono ?_
    rintro e w6 ⟨rfl, hb⟩
    have HB6 := Lib.hid (HB5.out.trans (hb.mono HB5.out.size))
    clear hb
    go_wp2_with fail
    go_ret
    exact ⟨rfl, HB6.out⟩
end Go.Proofs.Ytbjngbacnkmjhaa.LFactsOf
