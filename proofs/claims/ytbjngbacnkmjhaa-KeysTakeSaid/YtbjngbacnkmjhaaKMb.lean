/- TakeNode, TakeEdge of layer 25, in one. Conditions: as in the texts it is made of. -/
import Derived.Test.YtbjngbacnkmjhaaKMa
import Derived.Test.YtbjngbacnkmjhaaQb
import Derived.Test.YtbjngbacnkmjhaaWs
import Derived.Test.YtbjngbacnkmjhaaOpa
namespace Go.Proofs.Ytbjngbacnkmjhaa
open Go.RowKit Vi Zp

theorem info_scA (a b c : Value) : (Try.prog.info? 192).map (·.size) = some (#[a, b, c] : Array Value).size := by kernel_rfl
theorem one_scA (S : ByteArray) (x y : Int) : (#[.string S, .int .i64 x, .int .i64 y] : Array Value).all (·.oneCell') = true := by simp [Value.oneCell']
theorem info_vaA (a b c : Value) : (Try.prog.info? 158).map (·.size) = some (#[a, b, c] : Array Value).size := by kernel_rfl
theorem rnumA (S : ByteArray) (q : Nat) (er n : Int) (v : Int) (q' : Nat) (e' : Int) (w : World) (hS : S.size ≤ 1000000) (hq : q ≤ S.size) (h0 : 0 ≤ n) (h1 : n ≤ 4294967296) (h : Rd.num S q er n = (v, q', e')) :
    Calls Try.prog 199 #[.agg #[.string S, .int .i64 (q : Int), .int .i64 er], .int .i64 n] w fun e w' => e = .returned (.tuple #[.agg #[.string S, .int .i64 (q' : Int), .int .i64 e'], .int .i64 v]) ∧ Below w.heap.size w w' := by
  have h1 := rNum_any S q er n w hS hq (by omega) (by omega)
  rw [h] at h1
  exact h1
theorem rtextA (S : ByteArray) (q : Nat) (er n : Int) (v : ByteArray) (q' : Nat) (e' : Int) (w : World) (hS : S.size ≤ 1000000) (hq : q ≤ S.size) (h0 : 0 ≤ n) (h1 : n ≤ 4294967296) (h : Rd.text S q er n = (v, q', e')) :
    Calls Try.prog 137 #[.agg #[.string S, .int .i64 (q : Int), .int .i64 er], .int .i64 n] w fun e w' => e = .returned (.tuple #[.agg #[.string S, .int .i64 (q' : Int), .int .i64 e'], .string v]) ∧ Below w.heap.size w w' := by
  have h1 := rText_any S q er n w hS hq (by omega) (by omega)
  rw [h] at h1
  exact h1
def ReadR (X : List ByteArray → List Pr → Prop) (S : ByteArray) (w : World) (e : Ending) (w' : World) : Prop :=
  ∃ (l : List ByteArray) (ps : List Pr) (vL vP : Value) (q : Nat) (er : Int), e = .returned (.tuple #[.agg #[.string S, .int .i64 (q : Int), .int .i64 er], vL, vP]) ∧ RdOk w' w.heap.size vL vP l ps ∧ (∀ ss0 ps0, X ss0 ps0 → er = 0 ∧ l = ss0 ∧ ps = ps0) ∧ Below w.heap.size w w'
theorem results_cvv {fn : Func} {p t u : Tmp} {ty : TypeId} (h : fn.results = #[.cell p ty, .tmp t, .tmp u]) (tmps : Array Value) (w : World) (g : Nat) (cs : Array Value)
    (hp : tmps.getD p undef = .pointer (some ⟨g, 0, none⟩)) (hr : (loadVar ty ⟨g, 0, none⟩).run Try.prog w = .ok (.agg cs) w) :
    (results fn tmps).run Try.prog w = .ok (.tuple #[.agg cs, tmps.getD t undef, tmps.getD u undef]) w := by
  have hp' : tmps[p]?.getD undef = .pointer (some ⟨g, 0, none⟩) := by simpa using hp
  simp [results, h, hp', asAddr, hr]
set_option maxHeartbeats 8000000 in
set_option maxRecDepth 100000 in
theorem rread_any (X : List ByteArray → List Pr → Prop) (S : ByteArray) (q0 : Nat) (er0 : Int) (w : World) (hS : S.size ≤ 999999) (hq0 : q0 ≤ S.size) (hX : StartP X S q0 er0) :
    Calls Try.prog 135 #[.agg #[.string S, .int .i64 (q0 : Int), .int .i64 er0]] w (ReadR X S w) := by
  have hSm : S.size ≤ 1000000 := by omega
  obtain ⟨n, q1, e1, hN⟩ : ∃ a0 a1 a2, Rd.num S q0 er0 8 = (a0, a1, a2) := ⟨_, _, _, rfl⟩
  have hq1 := Rd.num_le S q0 er0 8 hq0
  have H1 := Lib.hid (fun W : World => rnumA S q0 er0 8 n q1 e1 W hSm hq0 (by omega) (by omega) hN)
  have hn8 : 0 ≤ n ∧ n ≤ 8 := by have := num_mx S q0 er0 8 (by omega); rw [hN] at this; exact this
  obtain ⟨hn0, hn8⟩ := hn8
  rw [hN] at hq1
  dsimp only at hq1
  have HG := Lib.hid (GL.start hX hN)
  clear hX hN
  have HB1 := Lib.hid (Below.refl w.heap.size w)
  go_enter Try.func135, Try.ntmps135
  have HF2 := Lib.hid (blk_new w (.cells #[.string S, .int .i64 (q0 : Int), .int .i64 er0] 192 (0, 0)))
  have HB3 := Lib.hid (HB1.out.alloc HB1.out.size (.cells #[.string S, .int .i64 (q0 : Int), .int .i64 er0] 192 (0, 0)))
  clear HB1
  have HF4 := Lib.hid (blk_alloc HF2.out (.cells #[.string ⟨#[]⟩, .int .i64 0, .int .i64 0] 192 (0, 0)))
  clear HF2
  have HF5 : Hid (((w.alloc (.cells #[.string S, .int .i64 (q0 : Int), .int .i64 er0] 192 (0, 0))).alloc (.cells #[.string ⟨#[]⟩, .int .i64 0, .int .i64 0] 192 (0, 0))).heap[w.heap.size + 1]? = some (.cells #[.string ⟨#[]⟩, .int .i64 0, .int .i64 0] 192 (0, 0))) := Lib.hid (blk_newN (W := (w.alloc (.cells #[.string S, .int .i64 (q0 : Int), .int .i64 er0] 192 (0, 0)))) (o := (.cells #[.string ⟨#[]⟩, .int .i64 0, .int .i64 0] 192 (0, 0))) (by simp))
  have HB6 := Lib.hid (HB3.out.alloc (by have := HB3.out.size; simp at this ⊢ <;> omega) (.cells #[.string ⟨#[]⟩, .int .i64 0, .int .i64 0] 192 (0, 0)))
  clear HB3
  have hc7 : ((w.alloc (.cells #[.string S, .int .i64 (q0 : Int), .int .i64 er0] 192 (0, 0))).alloc (.cells #[.string ⟨#[]⟩, .int .i64 0, .int .i64 0] 192 (0, 0))).cell? ⟨w.heap.size, 0, none⟩ = some (.string S) := by rw [cell_of_row _ _ _ _ _ _ HF4.out]; rfl
  have hc8 : ((w.alloc (.cells #[.string S, .int .i64 (q0 : Int), .int .i64 er0] 192 (0, 0))).alloc (.cells #[.string ⟨#[]⟩, .int .i64 0, .int .i64 0] 192 (0, 0))).cell? ⟨w.heap.size, 1, none⟩ = some (.int .i64 (q0 : Int)) := by rw [cell_of_row _ _ _ _ _ _ HF4.out]; rfl
  have hc9 : ((w.alloc (.cells #[.string S, .int .i64 (q0 : Int), .int .i64 er0] 192 (0, 0))).alloc (.cells #[.string ⟨#[]⟩, .int .i64 0, .int .i64 0] 192 (0, 0))).cell? ⟨w.heap.size, 2, none⟩ = some (.int .i64 er0) := by rw [cell_of_row _ _ _ _ _ _ HF4.out]; rfl
  go_wp2_with fail
  clear hc7 hc8 hc9
  refine (H1.out ((w.alloc (.cells #[.string S, .int .i64 (q0 : Int), .int .i64 er0] 192 (0, 0))).alloc (.cells #[.string ⟨#[]⟩, .int .i64 0, .int .i64 0] 192 (0, 0)))).mono ?_
  rintro e w1 ⟨rfl, hb1⟩
  have HF10 := Lib.hid (blk_below HF4.out hb1)
  have HF11 := Lib.hid (blk_below HF5.out hb1)
  have HB12 := Lib.hid (HB6.out.trans (hb1.mono HB6.out.size))
  clear hb1 HB6 HF4 HF5
  have hk13 : w.heap.size < w1.heap.size := lt_of_block HF10.out
  have hk14 : w.heap.size + 1 < w1.heap.size := lt_of_block HF11.out
  go_wp2_with (first
    | refine wpList_store_rowY rfl 192 (.tmp 1) (.tmp 18) rfl (w.heap.size) #[.string S, .int .i64 (q1 : Int), .int .i64 e1] rfl rfl 192 _ HF10.out (info_scA _ _ _) rfl (one_scA _ _ _) w.heap.size w HB12.out (by omega) ?_)
  intro W2 hbk hoth hbel _
  have HF15 := Lib.hid hbk.out
  have HF16 := Lib.hid (blk_oth HF11.out hoth.out (by omega))
  have HB17 := Lib.hid hbel.out
  clear hbk hoth hbel HB12  HF10 HF11
  have hk18 : w.heap.size < W2.heap.size := lt_of_block HF15.out
  have hk19 : w.heap.size + 1 < W2.heap.size := lt_of_block HF16.out
  go_wp2_with fail
  go_loopw [5, 8] (fun vv i wr => ∃ (k q : Nat) (er : Int) (l : List ByteArray) (v : Value), v = vv ∧ i = .int .i64 (k : Int) ∧ (k : Int) ≤ n ∧ wr.heap[w.heap.size]? = some (.cells #[.string S, .int .i64 (q : Int), .int .i64 er] 192 (0, 0)) ∧ wr.heap[w.heap.size + 1]? = some (.cells #[.string ⟨#[]⟩, .int .i64 0, .int .i64 0] 192 (0, 0)) ∧ q ≤ S.size ∧ OwX stC 1 9 wr (w.heap.size + 2) v l ∧ l.length = k ∧ (∀ s ∈ l, s.size ≤ 1000000) ∧ GL X S q er n l k ∧ Below w.heap.size w wr) (fun _ i _ => 8 - (intOf i).toNat)
  case atStart => exact ⟨0, q1, e1, [], _, rfl, rfl, by omega, HF15.out, HF16.out, hq1, OwX.nil _, rfl, (by intro s hs; cases hs), HG.out, HB17.out⟩
  case round =>
    obtain ⟨k, q, er, l, v, rfl, rfl, hkn, hbr, hbv, hq, how, hle, hsz, hgl, hb⟩ := hrel
    have HR := Lib.hid hbr
    have HRV := Lib.hid hbv
    have HE := Lib.hid how
    have HLE := Lib.hid hle
    have HSZ := Lib.hid hsz
    have HGL := Lib.hid hgl
    have HB := Lib.hid hb
    have hle2 : l.length ≤ k := by omega
    have HMB := Lib.hid (show ∀ b ∈ [w.heap.size], b < w.heap.size + 2 from fun b hb => by
      have e : b = w.heap.size := by simpa using hb
      omega)
    have HML := Lib.hid (show ∀ b ∈ [w.heap.size], w.heap.size ≤ b from fun b hb => by
      have e : b = w.heap.size := by simpa using hb
      omega)
    have hRV := lt_of_block hbv
    have hvE := how.one
    clear hbr hbv how hle hsz hgl hb
    by_cases hlt : (k : Int) < n
    · have hd1 : decide ((k : Int) < n) = true := decide_eq_true hlt
      obtain ⟨s, q4, e4, hT⟩ : ∃ a0 a1 a2, Rd.text S q er 100 = (a0, a1, a2) := ⟨_, _, _, rfl⟩
      have hq4 := Rd.text_le S q er 100 hq
      have hss := text_size S q er 100
      have HT := Lib.hid (fun W : World => rtextA S q er 100 s q4 e4 W hSm hq (by omega) (by omega) hT)
      rw [hT] at hq4 hss
      dsimp only at hq4 hss
      have HG2 := Lib.hid (HGL.out.step hlt (by omega) hT)
      have HSZ2 := Lib.hid (show ∀ x ∈ l ++ [s], x.size ≤ 1000000 by
        intro x hx
        rcases List.mem_append.1 hx with hx | hx
        · exact HSZ.out x hx
        · have e : x = s := by simpa using hx
          rw [e]; omega)
      clear hT hss
      have HK301 := Lib.hid (KK.refl [w.heap.size] wr)
      have hk302 := HK301.out.size
      have hk303 : w.heap.size < wr.heap.size := lt_of_block HR.out
      have hk304 : w.heap.size + 1 < wr.heap.size := lt_of_block HRV.out
      have hc305 : wr.cell? ⟨w.heap.size, 0, none⟩ = some (.string S) := by rw [cell_of_row _ _ _ _ _ _ HR.out]; rfl
      have hc306 : wr.cell? ⟨w.heap.size, 1, none⟩ = some (.int .i64 (q : Int)) := by rw [cell_of_row _ _ _ _ _ _ HR.out]; rfl
      have hc307 : wr.cell? ⟨w.heap.size, 2, none⟩ = some (.int .i64 er) := by rw [cell_of_row _ _ _ _ _ _ HR.out]; rfl
      go_wp2_with fail
      clear hc305 hc306 hc307
      refine (HT.out wr).mono ?_
      rintro e w21 ⟨rfl, hb21⟩
      have HF308 := Lib.hid (blk_below HR.out hb21)
      have HF309 := Lib.hid (blk_below HRV.out hb21)
      have HK310 := Lib.hid (HK301.out.trans (KK.of_below hb21))
      clear hb21 HK301 HR HRV
      have hk311 := HK310.out.size
      have hk312 : w.heap.size < w21.heap.size := lt_of_block HF308.out
      have hk313 : w.heap.size + 1 < w21.heap.size := lt_of_block HF309.out
      have HF314 := Lib.hid (blk_alloc HF308.out (.cells #[.string S, .int .i64 (q4 : Int), .int .i64 e4] 192 (0, 0)))
      have HF315 := Lib.hid (blk_alloc HF309.out (.cells #[.string S, .int .i64 (q4 : Int), .int .i64 e4] 192 (0, 0)))
      have HF316 := Lib.hid (blk_new w21 (.cells #[.string S, .int .i64 (q4 : Int), .int .i64 e4] 192 (0, 0)))
      have HK317 := Lib.hid (HK310.out.alloc (.cells #[.string S, .int .i64 (q4 : Int), .int .i64 e4] 192 (0, 0)))
      clear HK310
      have hc318 : (w21.alloc (.cells #[.string S, .int .i64 (q4 : Int), .int .i64 e4] 192 (0, 0))).cell? ⟨w21.heap.size, 0, none⟩ = some (.string S) := by rw [cell_of_row _ _ _ _ _ _ HF316.out]; rfl
      have hc319 : (w21.alloc (.cells #[.string S, .int .i64 (q4 : Int), .int .i64 e4] 192 (0, 0))).cell? ⟨w21.heap.size, 1, none⟩ = some (.int .i64 (q4 : Int)) := by rw [cell_of_row _ _ _ _ _ _ HF316.out]; rfl
      have hc320 : (w21.alloc (.cells #[.string S, .int .i64 (q4 : Int), .int .i64 e4] 192 (0, 0))).cell? ⟨w21.heap.size, 2, none⟩ = some (.int .i64 e4) := by rw [cell_of_row _ _ _ _ _ _ HF316.out]; rfl
      go_wp2_with (first
        | refine wpList_store_rowY rfl 192 (.tmp 1) (.tmp 30) rfl (w.heap.size) #[.string S, .int .i64 (q4 : Int), .int .i64 e4] rfl rfl 192 _ HF314.out (info_scA _ _ _) rfl (one_scA _ _ _) (w.heap.size) (w21.alloc (.cells #[.string S, .int .i64 (q4 : Int), .int .i64 e4] 192 (0, 0))) (Below.refl _ _) (Nat.le_refl _) ?_)
      intro W22 hbk hoth hbel _
      clear hc318 hc319 hc320
      have HF321 := Lib.hid hbk.out
      have HF322 := Lib.hid (blk_oth HF315.out hoth.out (by omega))
      have HF323 := Lib.hid (blk_oth HF316.out hoth.out (by omega))
      have HK324 := Lib.hid (HK317.out.row (b := w.heap.size) (Or.inl (by simp)) hbel.out hoth.out)
      clear hbk hoth hbel HK317 HF314 HF315 HF316
      have hk325 := HK324.out.size
      have hk326 : w.heap.size < W22.heap.size := lt_of_block HF321.out
      have hk327 : w.heap.size + 1 < W22.heap.size := lt_of_block HF322.out
      have hk328 : w21.heap.size < W22.heap.size := lt_of_block HF323.out
      have HEa := Lib.hid (HE.out.kk HK324.out HMB.out)
      have HBt := Lib.hid (HK324.out.below HB.out HML.out HB.out.size)
      have hz1 : w.heap.size + 2 ≤ W22.heap.size := by have := lt_of_block HF322.out; omega
      have HRa := Lib.hid (Below.refl (w.heap.size + 2) W22)
      go_wp2_with (at_builtin; refine wpList_appX rfl (.tmp 31) (.tmp 33) 29 9 _ 16 rfl Try.underlying29 info_stA rfl (by omega) (by omega) stC_len stC_one (w.heap.size + 2) W22 (HRa.out.alloc hz1 _) (by simp; omega) v l rfl (HEa.out.alloc _) W22.heap.size 1 s #[.string s] 9 (0, 0) rfl (heap_alloc_new W22 _) rfl (by omega) ?_)
      intro v7 w7 HO7 HB7 HZ7 HG7
      have HR7 := Lib.hid ((HB7.out.block (w.heap.size) (by omega)).trans HF321.out)
      have HRV7 := Lib.hid ((HB7.out.block (w.heap.size + 1) (by omega)).trans HF322.out)
      have HL7 := Lib.hid (HBt.out.trans (HB7.out.mono (by omega)))
      have hv7 := HO7.out.one
      go_wp2_with fail
      go_roundw
      case rel => exact ⟨k + 1, q4, e4, l ++ [s], _, rfl, by go_num, by omega, HR7.out, HRV7.out, hq4, HO7.out, by rw [List.length_append, HLE.out]; rfl, HSZ2.out, HG2.out, HL7.out⟩
      case measure => simp [intOf] <;> omega
    · have hd1 : decide ((k : Int) < n) = false := decide_eq_false hlt
      obtain ⟨n2, q5, e5, hN2⟩ : ∃ a0 a1 a2, Rd.num S q er 8 = (a0, a1, a2) := ⟨_, _, _, rfl⟩
      have hq5 := Rd.num_le S q er 8 hq
      have H2 := Lib.hid (fun W : World => rnumA S q er 8 n2 q5 e5 W hSm hq (by omega) (by omega) hN2)
      have hm8 : 0 ≤ n2 ∧ n2 ≤ 8 := by have := num_mx S q er 8 (by omega); rw [hN2] at this; exact this
      obtain ⟨hm0, hm8⟩ := hm8
      rw [hN2] at hq5
      dsimp only at hq5
      have HGP := Lib.hid (GP.start HGL.out hlt hN2)
      have hl8 : l.length ≤ 8 := by omega
      clear hN2
      have HK301 := Lib.hid (KK.refl [w.heap.size] wr)
      have hk302 := HK301.out.size
      have hk303 : w.heap.size < wr.heap.size := lt_of_block HR.out
      have hk304 : w.heap.size + 1 < wr.heap.size := lt_of_block HRV.out
      have hc305 : wr.cell? ⟨w.heap.size, 0, none⟩ = some (.string S) := by rw [cell_of_row _ _ _ _ _ _ HR.out]; rfl
      have hc306 : wr.cell? ⟨w.heap.size, 1, none⟩ = some (.int .i64 (q : Int)) := by rw [cell_of_row _ _ _ _ _ _ HR.out]; rfl
      have hc307 : wr.cell? ⟨w.heap.size, 2, none⟩ = some (.int .i64 er) := by rw [cell_of_row _ _ _ _ _ _ HR.out]; rfl
      go_wp2_with fail
      clear hc305 hc306 hc307
      refine (H2.out wr).mono ?_
      rintro e w21 ⟨rfl, hb21⟩
      have HF308 := Lib.hid (blk_below HR.out hb21)
      have HF309 := Lib.hid (blk_below HRV.out hb21)
      have HK310 := Lib.hid (HK301.out.trans (KK.of_below hb21))
      clear hb21 HK301 HR HRV
      have hk311 := HK310.out.size
      have hk312 : w.heap.size < w21.heap.size := lt_of_block HF308.out
      have hk313 : w.heap.size + 1 < w21.heap.size := lt_of_block HF309.out
      go_wp2_with (first
        | refine wpList_store_rowY rfl 192 (.tmp 1) (.tmp 38) rfl (w.heap.size) #[.string S, .int .i64 (q5 : Int), .int .i64 e5] rfl rfl 192 _ HF308.out (info_scA _ _ _) rfl (one_scA _ _ _) (w.heap.size) w21 (Below.refl _ _) (Nat.le_refl _) ?_)
      intro W22 hbk hoth hbel _
      have HF314 := Lib.hid hbk.out
      have HF315 := Lib.hid (blk_oth HF309.out hoth.out (by omega))
      have HK316 := Lib.hid (HK310.out.row (b := w.heap.size) (Or.inl (by simp)) hbel.out hoth.out)
      clear hbk hoth hbel HK310 HF308 HF309
      have hk317 := HK316.out.size
      have hk318 : w.heap.size < W22.heap.size := lt_of_block HF314.out
      have hk319 : w.heap.size + 1 < W22.heap.size := lt_of_block HF315.out
      have HEa := Lib.hid (HE.out.kk HK316.out HMB.out)
      have HBt := Lib.hid (HK316.out.below HB.out HML.out HB.out.size)
      go_wp2_with fail
      clear hd1
      go_loopw [6, 11] (fun vv i wr => ∃ (j q : Nat) (er : Int) (ps : List Pr) (v2 : Value), v2 = vv ∧ i = .int .i64 (j : Int) ∧ (j : Int) ≤ n2 ∧ wr.heap[w.heap.size]? = some (.cells #[.string S, .int .i64 (q : Int), .int .i64 er] 192 (0, 0)) ∧ wr.heap[w.heap.size + 1]? = some (.cells #[.string ⟨#[]⟩, .int .i64 0, .int .i64 0] 192 (0, 0)) ∧ q ≤ S.size ∧ OwX stC 1 9 wr (w.heap.size + 2) v l ∧ OwX prC 4 187 wr (w.heap.size + 2) v2 ps ∧ ps.length = j ∧ (∀ p ∈ ps, p.1.size ≤ 1000000) ∧ IntsOk ps ∧ GP X S q er n2 l ps j ∧ Below w.heap.size w wr) (fun _ i _ => 8 - (intOf i).toNat)
      case atStart => exact ⟨0, q5, e5, [], _, rfl, rfl, by omega, HF314.out, HF315.out, hq5, HEa.out, OwX.nil _, rfl, (by intro s hs; cases hs), (by intro s hs; cases hs), HGP.out, HBt.out⟩
      case round =>
        obtain ⟨j, q6, er6, ps, v2, rfl, rfl, hjn, hbr, hbv, hq6, how, hop, hle, hsz, hin, hgp, hb⟩ := hrel
        have HR2 := Lib.hid hbr
        have HRV2 := Lib.hid hbv
        have HE2 := Lib.hid how
        have HP2 := Lib.hid hop
        have HLE2 := Lib.hid hle
        have HSP := Lib.hid hsz
        have HIN := Lib.hid hin
        have HGP2 := Lib.hid hgp
        have HB2 := Lib.hid hb
        have hle3 : ps.length ≤ j := by omega
        have hRV2 := lt_of_block hbv
        have hvP := hop.one
        clear hbr hbv how hop hle hsz hin hgp hb
        by_cases hlt2 : (j : Int) < n2
        · have hd1 : decide ((j : Int) < n2) = true := decide_eq_true hlt2
          obtain ⟨s, q7, e7, hT⟩ : ∃ a0 a1 a2, Rd.text S q6 er6 100 = (a0, a1, a2) := ⟨_, _, _, rfl⟩
          have hq7 := Rd.text_le S q6 er6 100 hq6
          have hss := text_size S q6 er6 100
          have HT := Lib.hid (fun W : World => rtextA S q6 er6 100 s q7 e7 W hSm hq6 (by omega) (by omega) hT)
          rw [hT] at hq7 hss
          dsimp only at hq7 hss
          have HG2 := Lib.hid (HGP2.out.step hlt2 (by omega) hT)
          have hbd := rvV_bd S q7 e7
          have hq8 := rvM_le S q7 e7 hq7
          have HVR := Lib.hid (fun W : World => rvread_any S q7 e7 W hSm hq7)
          obtain ⟨a, d, t, hV⟩ : ∃ a d t, rvV S q7 e7 = (a, d, t) := ⟨_, _, _, rfl⟩
          obtain ⟨q8, hq8e⟩ : ∃ x, x = (rvM S q7 e7).2.2.2.1 := ⟨_, rfl⟩
          obtain ⟨e8, he8e⟩ : ∃ x, x = rvE S q7 e7 := ⟨_, rfl⟩
          rw [hV, ← hq8e, ← he8e] at HVR HG2
          rw [hV] at hbd
          rw [← hq8e] at hq8
          have HV : Hid (∀ W : World, Calls Try.prog 200 #[.agg #[.string S, .int .i64 (q7 : Int), .int .i64 e7]] W fun e w' => e = .returned (.tuple #[.agg #[.string S, .int .i64 (q8 : Int), .int .i64 e8], .agg #[.int .i64 a, .int .i64 d, .string t]]) ∧ Below W.heap.size W w') := Lib.hid (fun W => HVR.out W)
          have hbd : -9223372036854775808 ≤ d ∧ d ≤ 9223372036854775807 ∧ t.size ≤ S.size := hbd
          obtain ⟨b1, b2, b3⟩ := hbd
          have HSP2 := Lib.hid (show ∀ x ∈ ps ++ [(s, a, d, t)], x.1.size ≤ 1000000 by
            intro x hx
            rcases List.mem_append.1 hx with hx | hx
            · exact HSP.out x hx
            · have e : x = (s, a, d, t) := by simpa using hx
              rw [e]; show s.size ≤ 1000000; omega)
          have HIN2 := Lib.hid (show IntsOk (ps ++ [(s, a, d, t)]) by
            intro x hx
            rcases List.mem_append.1 hx with hx | hx
            · exact HIN.out x hx
            · have e : x = (s, a, d, t) := by simpa using hx
              rw [e]; exact ⟨b1, b2⟩)
          clear hT hss hV hq8e he8e HVR b1 b2 b3
          have HK601 := Lib.hid (KK.refl [w.heap.size] wr)
          have hk602 := HK601.out.size
          have hk603 : w.heap.size < wr.heap.size := lt_of_block HR2.out
          have hk604 : w.heap.size + 1 < wr.heap.size := lt_of_block HRV2.out
          have hc605 : wr.cell? ⟨w.heap.size, 0, none⟩ = some (.string S) := by rw [cell_of_row _ _ _ _ _ _ HR2.out]; rfl
          have hc606 : wr.cell? ⟨w.heap.size, 1, none⟩ = some (.int .i64 (q6 : Int)) := by rw [cell_of_row _ _ _ _ _ _ HR2.out]; rfl
          have hc607 : wr.cell? ⟨w.heap.size, 2, none⟩ = some (.int .i64 er6) := by rw [cell_of_row _ _ _ _ _ _ HR2.out]; rfl
          go_wp2_with fail
          clear hc605 hc606 hc607
          refine (HT.out wr).mono ?_
          rintro e w31 ⟨rfl, hb31⟩
          have HF608 := Lib.hid (blk_below HR2.out hb31)
          have HF609 := Lib.hid (blk_below HRV2.out hb31)
          have HK610 := Lib.hid (HK601.out.trans (KK.of_below hb31))
          clear hb31 HK601 HR2 HRV2
          have hk611 := HK610.out.size
          have hk612 : w.heap.size < w31.heap.size := lt_of_block HF608.out
          have hk613 : w.heap.size + 1 < w31.heap.size := lt_of_block HF609.out
          have HF614 := Lib.hid (blk_alloc HF608.out (.cells #[.string S, .int .i64 (q7 : Int), .int .i64 e7] 192 (0, 0)))
          have HF615 := Lib.hid (blk_alloc HF609.out (.cells #[.string S, .int .i64 (q7 : Int), .int .i64 e7] 192 (0, 0)))
          have HF616 := Lib.hid (blk_new w31 (.cells #[.string S, .int .i64 (q7 : Int), .int .i64 e7] 192 (0, 0)))
          have HK617 := Lib.hid (HK610.out.alloc (.cells #[.string S, .int .i64 (q7 : Int), .int .i64 e7] 192 (0, 0)))
          clear HK610
          have hc618 : (w31.alloc (.cells #[.string S, .int .i64 (q7 : Int), .int .i64 e7] 192 (0, 0))).cell? ⟨w31.heap.size, 0, none⟩ = some (.string S) := by rw [cell_of_row _ _ _ _ _ _ HF616.out]; rfl
          have hc619 : (w31.alloc (.cells #[.string S, .int .i64 (q7 : Int), .int .i64 e7] 192 (0, 0))).cell? ⟨w31.heap.size, 1, none⟩ = some (.int .i64 (q7 : Int)) := by rw [cell_of_row _ _ _ _ _ _ HF616.out]; rfl
          have hc620 : (w31.alloc (.cells #[.string S, .int .i64 (q7 : Int), .int .i64 e7] 192 (0, 0))).cell? ⟨w31.heap.size, 2, none⟩ = some (.int .i64 e7) := by rw [cell_of_row _ _ _ _ _ _ HF616.out]; rfl
          go_wp2_with fail
          clear hc618 hc619 hc620
          refine (HV.out (w31.alloc (.cells #[.string S, .int .i64 (q7 : Int), .int .i64 e7] 192 (0, 0)))).mono ?_
          rintro e w32 ⟨rfl, hb32⟩
          have HF621 := Lib.hid (blk_below HF614.out hb32)
          have HF622 := Lib.hid (blk_below HF615.out hb32)
          have HF623 := Lib.hid (blk_below HF616.out hb32)
          have HK624 := Lib.hid (HK617.out.trans (KK.of_below hb32))
          clear hb32 HK617 HF614 HF608 HF615 HF609 HF616
          have hk625 := HK624.out.size
          have hk626 : w.heap.size < w32.heap.size := lt_of_block HF621.out
          have hk627 : w.heap.size + 1 < w32.heap.size := lt_of_block HF622.out
          have hk628 : w31.heap.size < w32.heap.size := lt_of_block HF623.out
          have HF629 := Lib.hid (blk_alloc HF621.out (.cells #[.int .i64 0, .int .i64 0, .string ⟨#[]⟩] 158 (0, 0)))
          have HF630 := Lib.hid (blk_alloc HF622.out (.cells #[.int .i64 0, .int .i64 0, .string ⟨#[]⟩] 158 (0, 0)))
          have HF631 := Lib.hid (blk_alloc HF623.out (.cells #[.int .i64 0, .int .i64 0, .string ⟨#[]⟩] 158 (0, 0)))
          have HF632 := Lib.hid (blk_new w32 (.cells #[.int .i64 0, .int .i64 0, .string ⟨#[]⟩] 158 (0, 0)))
          have HK633 := Lib.hid (HK624.out.alloc (.cells #[.int .i64 0, .int .i64 0, .string ⟨#[]⟩] 158 (0, 0)))
          clear HK624
          go_wp2_with (first
            | refine wpList_store_rowY rfl 192 (.tmp 12) (.tmp 53) rfl (w31.heap.size) #[.string S, .int .i64 (q8 : Int), .int .i64 e8] rfl rfl 192 _ HF631.out (info_scA _ _ _) rfl (one_scA _ _ _) (w31.heap.size) (w32.alloc (.cells #[.int .i64 0, .int .i64 0, .string ⟨#[]⟩] 158 (0, 0))) (Below.refl _ _) (Nat.le_refl _) ?_)
          intro W33 hbk hoth hbel _
          have HF634 := Lib.hid (blk_oth HF629.out hoth.out (by omega))
          have HF635 := Lib.hid (blk_oth HF630.out hoth.out (by omega))
          have HF636 := Lib.hid hbk.out
          have HF637 := Lib.hid (blk_oth HF632.out hoth.out (by omega))
          have HK638 := Lib.hid (HK633.out.row (b := w31.heap.size) (Or.inr (by omega)) hbel.out hoth.out)
          clear hbk hoth hbel HK633 HF629 HF630 HF631 HF632
          have hk639 := HK638.out.size
          have hk640 : w.heap.size < W33.heap.size := lt_of_block HF634.out
          have hk641 : w.heap.size + 1 < W33.heap.size := lt_of_block HF635.out
          have hk642 : w31.heap.size < W33.heap.size := lt_of_block HF636.out
          have hk643 : w32.heap.size < W33.heap.size := lt_of_block HF637.out
          go_wp2_with (first
            | refine wpList_store_rowY rfl 158 (.tmp 14) (.tmp 54) rfl (w32.heap.size) #[.int .i64 a, .int .i64 d, .string t] rfl rfl 158 _ HF637.out (info_val _ _ _) rfl (one_val _ _ _) (w32.heap.size) W33 (Below.refl _ _) (Nat.le_refl _) ?_)
          intro W34 hbk hoth hbel _
          have HF644 := Lib.hid (blk_oth HF634.out hoth.out (by omega))
          have HF645 := Lib.hid (blk_oth HF635.out hoth.out (by omega))
          have HF646 := Lib.hid (blk_oth HF636.out hoth.out (by omega))
          have HF647 := Lib.hid hbk.out
          have HK648 := Lib.hid (HK638.out.row (b := w32.heap.size) (Or.inr (by omega)) hbel.out hoth.out)
          clear hbk hoth hbel HK638 HF634 HF635 HF636 HF637
          have hk649 := HK648.out.size
          have hk650 : w.heap.size < W34.heap.size := lt_of_block HF644.out
          have hk651 : w.heap.size + 1 < W34.heap.size := lt_of_block HF645.out
          have hk652 : w31.heap.size < W34.heap.size := lt_of_block HF646.out
          have hk653 : w32.heap.size < W34.heap.size := lt_of_block HF647.out
          have hc654 : W34.cell? ⟨w31.heap.size, 0, none⟩ = some (.string S) := by rw [cell_of_row _ _ _ _ _ _ HF646.out]; rfl
          have hc655 : W34.cell? ⟨w31.heap.size, 1, none⟩ = some (.int .i64 (q8 : Int)) := by rw [cell_of_row _ _ _ _ _ _ HF646.out]; rfl
          have hc656 : W34.cell? ⟨w31.heap.size, 2, none⟩ = some (.int .i64 e8) := by rw [cell_of_row _ _ _ _ _ _ HF646.out]; rfl
          go_wp2_with (first
            | refine wpList_store_rowY rfl 192 (.tmp 1) (.tmp 55) rfl (w.heap.size) #[.string S, .int .i64 (q8 : Int), .int .i64 e8] rfl rfl 192 _ HF644.out (info_scA _ _ _) rfl (one_scA _ _ _) (w.heap.size) W34 (Below.refl _ _) (Nat.le_refl _) ?_)
          intro W35 hbk hoth hbel _
          clear hc654 hc655 hc656
          have HF657 := Lib.hid hbk.out
          have HF658 := Lib.hid (blk_oth HF645.out hoth.out (by omega))
          have HF659 := Lib.hid (blk_oth HF646.out hoth.out (by omega))
          have HF660 := Lib.hid (blk_oth HF647.out hoth.out (by omega))
          have HK661 := Lib.hid (HK648.out.row (b := w.heap.size) (Or.inl (by simp)) hbel.out hoth.out)
          clear hbk hoth hbel HK648 HF644 HF645 HF646 HF647
          have hk662 := HK661.out.size
          have hk663 : w.heap.size < W35.heap.size := lt_of_block HF657.out
          have hk664 : w.heap.size + 1 < W35.heap.size := lt_of_block HF658.out
          have hk665 : w31.heap.size < W35.heap.size := lt_of_block HF659.out
          have hk666 : w32.heap.size < W35.heap.size := lt_of_block HF660.out
          have HEa2 := Lib.hid (HE2.out.kk HK661.out HMB.out)
          have HPa2 := Lib.hid (HP2.out.kk HK661.out HMB.out)
          have HBt := Lib.hid (HK661.out.below HB2.out HML.out HB2.out.size)
          have hc667 : W35.cell? ⟨w32.heap.size, 0, none⟩ = some (.int .i64 a) := by rw [cell_of_row _ _ _ _ _ _ HF660.out]; rfl
          have hc668 : W35.cell? ⟨w32.heap.size, 1, none⟩ = some (.int .i64 d) := by rw [cell_of_row _ _ _ _ _ _ HF660.out]; rfl
          have hc669 : W35.cell? ⟨w32.heap.size, 2, none⟩ = some (.string t) := by rw [cell_of_row _ _ _ _ _ _ HF660.out]; rfl
          have hz1 : w.heap.size + 2 ≤ W35.heap.size := by have := lt_of_block HF658.out; omega
          have HRa := Lib.hid (Below.refl (w.heap.size + 2) W35)
          go_wp2_with (at_builtin; refine wpList_appX rfl (.tmp 56) (.tmp 60) 79 187 _ 48 rfl Try.underlying79 info_prA rfl (by omega) (by omega) prC_len prC_one (w.heap.size + 2) W35 (HRa.out.alloc hz1 _) (by simp; omega) v2 ps rfl (HPa2.out.alloc _) W35.heap.size 1 (s, a, d, t) #[.string s, .int .i64 a, .int .i64 d, .string t] 187 (0, 0) rfl (heap_alloc_new W35 _) rfl (by omega) ?_)
          intro v7 w7 HO7 HB7 HZ7 HG7
          clear hc667 hc668 hc669
          have HR7 := Lib.hid ((HB7.out.block (w.heap.size) (by omega)).trans HF657.out)
          have HRV7 := Lib.hid ((HB7.out.block (w.heap.size + 1) (by omega)).trans HF658.out)
          have HL7 := Lib.hid (HBt.out.trans (HB7.out.mono (by omega)))
          have HI7 := Lib.hid ((HEa2.out.alloc _).other (HPa2.out.alloc _) (by decide) HG7.out)
          have hv7 := HO7.out.one
          go_wp2_with fail
          go_roundw
          case rel => exact ⟨j + 1, q8, e8, ps ++ [(s, a, d, t)], _, rfl, by go_num, by omega, HR7.out, HRV7.out, hq8, HI7.out, HO7.out, by rw [List.length_append, HLE2.out]; rfl, HSP2.out, HIN2.out, HG2.out, HL7.out⟩
          case measure => simp [intOf] <;> omega
        · have hd1 : decide ((j : Int) < n2) = false := decide_eq_false hlt2
          have HD := Lib.hid (fun ss0 ps0 (hx : X ss0 ps0) => HGP2.out.done hlt2 hx)
          have HK601 := Lib.hid (KK.refl [w.heap.size, w.heap.size + 1] wr)
          have hk602 := HK601.out.size
          have hk603 : w.heap.size < wr.heap.size := lt_of_block HR2.out
          have hk604 : w.heap.size + 1 < wr.heap.size := lt_of_block HRV2.out
          have hc605 : wr.cell? ⟨w.heap.size, 0, none⟩ = some (.string S) := by rw [cell_of_row _ _ _ _ _ _ HR2.out]; rfl
          have hc606 : wr.cell? ⟨w.heap.size, 1, none⟩ = some (.int .i64 (q6 : Int)) := by rw [cell_of_row _ _ _ _ _ _ HR2.out]; rfl
          have hc607 : wr.cell? ⟨w.heap.size, 2, none⟩ = some (.int .i64 er6) := by rw [cell_of_row _ _ _ _ _ _ HR2.out]; rfl
          go_wp2_with (first
            | refine wpList_store_rowY rfl 192 (.tmp 2) (.tmp 62) rfl (w.heap.size + 1) #[.string S, .int .i64 (q6 : Int), .int .i64 er6] rfl rfl 192 _ HRV2.out (info_scA _ _ _) rfl (one_scA _ _ _) (w.heap.size + 1) wr (Below.refl _ _) (Nat.le_refl _) ?_)
          intro W31 hbk hoth hbel _
          clear hc605 hc606 hc607
          have HF608 := Lib.hid (blk_oth HR2.out hoth.out (by omega))
          have HF609 := Lib.hid hbk.out
          have HK610 := Lib.hid (HK601.out.row (b := w.heap.size + 1) (Or.inl (by simp)) hbel.out hoth.out)
          clear hbk hoth hbel HK601 HR2 HRV2
          have hk611 := HK610.out.size
          have hk612 : w.heap.size < W31.heap.size := lt_of_block HF608.out
          have hk613 : w.heap.size + 1 < W31.heap.size := lt_of_block HF609.out
          have HBt := Lib.hid (HK610.out.below HB2.out (show ∀ b ∈ [w.heap.size, w.heap.size + 1], w.heap.size ≤ b from fun b hb => by
            rcases List.mem_cons.1 hb with e | hb
            · omega
            · have e : b = w.heap.size + 1 := by simpa using hb
              omega) HB2.out.size)
          have HEa2 := Lib.hid (HE2.out.kk HK610.out (show ∀ b ∈ [w.heap.size, w.heap.size + 1], b < w.heap.size + 2 from fun b hb => by
            rcases List.mem_cons.1 hb with e | hb
            · omega
            · have e : b = w.heap.size + 1 := by simpa using hb
              omega))
          have HPa2 := Lib.hid (HP2.out.kk HK610.out (show ∀ b ∈ [w.heap.size, w.heap.size + 1], b < w.heap.size + 2 from fun b hb => by
            rcases List.mem_cons.1 hb with e | hb
            · omega
            · have e : b = w.heap.size + 1 := by simpa using hb
              omega))
          go_wp2_with fail
          refine bodyPost_ret (results_cvv rfl _ _ (w.heap.size + 1) #[.string S, .int .i64 (q6 : Int), .int .i64 er6] rfl (run_loadVar_row _ (w.heap.size + 1) 192 192 _ (0, 0) _ HF609.out Try.underlying192 rfl (info_scA _ _ _))) rfl ?_
          exact ⟨l, ps, v, v2, q6, er6, rfl, ⟨HEa2.out.mono (by omega), HPa2.out.mono (by omega), hl8, by omega, HSZ.out, HSP.out, HIN.out⟩, HD.out, HBt.out⟩
end Go.Proofs.Ytbjngbacnkmjhaa
namespace Go.Proofs.Ytbjngbacnkmjhaa
open Go.RowKit Vi Zp

set_option maxHeartbeats 8000000 in
set_option maxRecDepth 100000 in
theorem rtnode_any (i S : ByteArray) (w : World) (hi : i.size ≤ maxLen) (hS : S.size ≤ 999999) :
    Calls Try.prog 50 #[.string i, .string S] w (TakeN (.bool true) (.bool false) i S w) := by
  have hSm : S.size ≤ 1000000 := by omega
  have HST := Lib.hid (IsN.start i S)
  have HB1 := Lib.hid (Below.refl w.heap.size w)
  go_enter Try.func50, Try.ntmps50
  have HF2 := Lib.hid (blk_new w (.cells #[.string ⟨#[]⟩, .slice none 0 0, .slice none 0 0] 81 (0, 0)))
  have HB3 := Lib.hid (HB1.out.alloc HB1.out.size (.cells #[.string ⟨#[]⟩, .slice none 0 0, .slice none 0 0] 81 (0, 0)))
  clear HB1
  go_wp2_with fail
  refine (rread_any (IsN i S) S 0 0 (w.alloc (.cells #[.string ⟨#[]⟩, .slice none 0 0, .slice none 0 0] 81 (0, 0))) hS (Nat.zero_le _) HST.out).mono ?_
  rintro e w1 ⟨l, ps, vL, vP, q, er, rfl, hro, hd, hb⟩
  have hBA : w.heap.size < (w.alloc (.cells #[.string ⟨#[]⟩, .slice none 0 0, .slice none 0 0] 81 (0, 0))).heap.size := lt_of_block HF2.out
  have HF4 := Lib.hid (blk_below HF2.out hb)
  have HB5 := Lib.hid (HB3.out.trans (hb.mono HB3.out.size))
  have HRO := Lib.hid hro
  have HD := Lib.hid hd
  obtain ⟨base, hbase⟩ : ∃ x, x = (w.alloc (.cells #[.string ⟨#[]⟩, .slice none 0 0, .slice none 0 0] 81 (0, 0))).heap.size := ⟨_, rfl⟩
  rw [← hbase] at HRO hBA
  clear hb hro hd hbase HB3 HF2
  obtain ⟨A, c, A2, c2, rfl, rfl, _, _⟩ := HRO.out.lp
  obtain ⟨n, hn⟩ : ∃ n, n = l.length := ⟨_, rfl⟩
  obtain ⟨n2, hn2⟩ : ∃ n, n = ps.length := ⟨_, rfl⟩
  have HOK := Lib.hid (show LOk n l n2 ps by rw [hn, hn2]; exact HRO.out.ok)
  have HLP := Lib.hid (fun (W : World) (q : RdOk W base (.slice A n c) (.slice A2 n2 c2) l ps) => show LP W A n l A2 n2 ps by
    obtain ⟨A', c', A2', c2', e1, e2, h, _⟩ := q.lp
    rw [← hn] at e1 h
    rw [← hn2] at e2 h
    cases e1
    cases e2
    exact h)
  rw [← hn, ← hn2] at HRO
  rw [← hn, ← hn2]
  clear hn hn2
  have hk6 : w.heap.size < w1.heap.size := lt_of_block HF4.out
  have HF7 := Lib.hid (blk_alloc HF4.out (.cells #[.string S, .int .i64 (q : Int), .int .i64 er] 192 (0, 0)))
  have HF8 := Lib.hid (blk_new w1 (.cells #[.string S, .int .i64 (q : Int), .int .i64 er] 192 (0, 0)))
  have HB9 := Lib.hid (HB5.out.alloc HB5.out.size (.cells #[.string S, .int .i64 (q : Int), .int .i64 er] 192 (0, 0)))
  clear HB5

  have HF10 := Lib.hid (blk_alloc HF7.out (.cells #[.string i, .slice A n c, .slice A2 n2 c2] 81 (0, 0)))
  clear HF7
  have HF11 := Lib.hid (blk_alloc HF8.out (.cells #[.string i, .slice A n c, .slice A2 n2 c2] 81 (0, 0)))
  clear HF8
  have HF12 : Hid (((w1.alloc (.cells #[.string S, .int .i64 (q : Int), .int .i64 er] 192 (0, 0))).alloc (.cells #[.string i, .slice A n c, .slice A2 n2 c2] 81 (0, 0))).heap[w1.heap.size + 1]? = some (.cells #[.string i, .slice A n c, .slice A2 n2 c2] 81 (0, 0))) := Lib.hid (blk_newN (W := (w1.alloc (.cells #[.string S, .int .i64 (q : Int), .int .i64 er] 192 (0, 0)))) (o := (.cells #[.string i, .slice A n c, .slice A2 n2 c2] 81 (0, 0))) (by simp))
  have HB13 := Lib.hid (HB9.out.alloc (by have := HB9.out.size; simp at this ⊢ <;> omega) (.cells #[.string i, .slice A n c, .slice A2 n2 c2] 81 (0, 0)))
  clear HB9
  have HRO2 := Lib.hid ((HRO.out.kept ((Below.refl _ w1).alloc (Nat.le_refl _) (.cells #[.string S, .int .i64 (q : Int), .int .i64 er] 192 (0, 0)))).kept ((Below.refl _ _).alloc (Nat.le_refl _) (.cells #[.string i, .slice A n c, .slice A2 n2 c2] 81 (0, 0))))
  have HUN := Lib.hid (fun ss' ps' (h : IsN i S ss' ps') => show er = 0 ∧ ss' = l ∧ ps' = ps from ⟨(HD.out ss' ps' h).1, (HD.out ss' ps' h).2.1.symm, (HD.out ss' ps' h).2.2.symm⟩)
  by_cases her : er = 0
  rotate_left
  · have HNO := Lib.hid (show ∀ ss0 ps0, ¬ IsN i S ss0 ps0 from fun ss0 ps0 h0 => her (HUN.out ss0 ps0 h0).1)
    have hez : (er != 0) = true := by simpa using her
    clear her
    have hc14 : ((w1.alloc (.cells #[.string S, .int .i64 (q : Int), .int .i64 er] 192 (0, 0))).alloc (.cells #[.string i, .slice A n c, .slice A2 n2 c2] 81 (0, 0))).cell? ⟨w1.heap.size, 0, none⟩ = some (.string S) := by rw [cell_of_row _ _ _ _ _ _ HF11.out]; rfl
    have hc15 : ((w1.alloc (.cells #[.string S, .int .i64 (q : Int), .int .i64 er] 192 (0, 0))).alloc (.cells #[.string i, .slice A n c, .slice A2 n2 c2] 81 (0, 0))).cell? ⟨w1.heap.size, 1, none⟩ = some (.int .i64 (q : Int)) := by rw [cell_of_row _ _ _ _ _ _ HF11.out]; rfl
    have hc16 : ((w1.alloc (.cells #[.string S, .int .i64 (q : Int), .int .i64 er] 192 (0, 0))).alloc (.cells #[.string i, .slice A n c, .slice A2 n2 c2] 81 (0, 0))).cell? ⟨w1.heap.size, 2, none⟩ = some (.int .i64 er) := by rw [cell_of_row _ _ _ _ _ _ HF11.out]; rfl
    go_wp2_with (first
      | refine wpList_store_rowY rfl 81 (.tmp 4) (.tmp 35) rfl (w.heap.size) #[.string ⟨#[]⟩, .slice none 0 0, .slice none 0 0] rfl rfl 81 _ HF10.out (info_nd _ _ _) rfl (one_nd _ _ _ _ _ _ _) w.heap.size w HB13.out (by omega) ?_)
    intro W2 hbk hoth hbel _
    clear hc14 hc15 hc16
    have HF17 := Lib.hid hbk.out
    have HF18 := Lib.hid (blk_oth HF11.out hoth.out (by omega))
    have HF19 := Lib.hid (blk_oth HF12.out hoth.out (by omega))
    have HB20 := Lib.hid hbel.out
    clear hbk hoth hbel HB13  HF10 HF11 HF12
    go_wp2_with fail
    refine bodyPost_ret (results_ctY rfl _ _ (w.heap.size) #[.string ⟨#[]⟩, .slice none 0 0, .slice none 0 0] rfl (run_loadVar_row _ (w.heap.size) 81 81 _ (0, 0) _ HF17.out Try.underlying81 rfl (info_nd _ _ _))) rfl ?_
    exact Or.inr ⟨HNO.out, rfl, HB20.out⟩
  have hez : (er != 0) = false := by rw [her]; rfl
  have HER := Lib.hid her
  clear her
  obtain ⟨z, hzz⟩ : ∃ z, z = ndW i l ps := ⟨_, rfl⟩
  have HNC := Lib.hid (fun (W : World) (q : LP W A n l A2 n2 ps) => rnode_any i A A2 n c n2 c2 l ps W q HOK.out hi)
  rw [← hzz] at HNC
  by_cases hz : z = 0
  · have hz0 : ndW i l ps = 0 := by rw [← hzz]; exact hz
    have hz1 : (z != 0) = false := by rw [hz]; rfl
    obtain ⟨T, hT⟩ : ∃ T, T = ptS l ps := ⟨_, rfl⟩
    have HPN := Lib.hid (fun (W : World) (q : LP W A n l A2 n2 ps) => rpnode_yes i A A2 n c n2 c2 l ps W q HOK.out hi hz0 HRO.out.i)
    rw [← hT] at HPN
    by_cases hs : T = S
    · have HIS := Lib.hid (show IsN i S l ps from ⟨hz0, HRO.out.i, by rw [← hT, hs]⟩)
      have hqe : (T.toList == S.toList) = true := by rw [hs]; simp
      have hqn : (T.toList != S.toList) = false := by rw [hs]; simp
      clear hz hz0 hzz hT hs
      have hc14 : ((w1.alloc (.cells #[.string S, .int .i64 (q : Int), .int .i64 er] 192 (0, 0))).alloc (.cells #[.string i, .slice A n c, .slice A2 n2 c2] 81 (0, 0))).cell? ⟨w1.heap.size, 0, none⟩ = some (.string S) := by rw [cell_of_row _ _ _ _ _ _ HF11.out]; rfl
      have hc15 : ((w1.alloc (.cells #[.string S, .int .i64 (q : Int), .int .i64 er] 192 (0, 0))).alloc (.cells #[.string i, .slice A n c, .slice A2 n2 c2] 81 (0, 0))).cell? ⟨w1.heap.size, 1, none⟩ = some (.int .i64 (q : Int)) := by rw [cell_of_row _ _ _ _ _ _ HF11.out]; rfl
      have hc16 : ((w1.alloc (.cells #[.string S, .int .i64 (q : Int), .int .i64 er] 192 (0, 0))).alloc (.cells #[.string i, .slice A n c, .slice A2 n2 c2] 81 (0, 0))).cell? ⟨w1.heap.size, 2, none⟩ = some (.int .i64 er) := by rw [cell_of_row _ _ _ _ _ _ HF11.out]; rfl
      have hc17 : ((w1.alloc (.cells #[.string S, .int .i64 (q : Int), .int .i64 er] 192 (0, 0))).alloc (.cells #[.string i, .slice A n c, .slice A2 n2 c2] 81 (0, 0))).cell? ⟨w1.heap.size + 1, 0, none⟩ = some (.string i) := by rw [cell_of_row _ _ _ _ _ _ HF12.out]; rfl
      have hc18 : ((w1.alloc (.cells #[.string S, .int .i64 (q : Int), .int .i64 er] 192 (0, 0))).alloc (.cells #[.string i, .slice A n c, .slice A2 n2 c2] 81 (0, 0))).cell? ⟨w1.heap.size + 1, 1, none⟩ = some (.slice A n c) := by rw [cell_of_row _ _ _ _ _ _ HF12.out]; rfl
      have hc19 : ((w1.alloc (.cells #[.string S, .int .i64 (q : Int), .int .i64 er] 192 (0, 0))).alloc (.cells #[.string i, .slice A n c, .slice A2 n2 c2] 81 (0, 0))).cell? ⟨w1.heap.size + 1, 2, none⟩ = some (.slice A2 n2 c2) := by rw [cell_of_row _ _ _ _ _ _ HF12.out]; rfl
      go_wp2_with fail
      clear hc14 hc15 hc16 hc17 hc18 hc19
      refine (HNC.out ((w1.alloc (.cells #[.string S, .int .i64 (q : Int), .int .i64 er] 192 (0, 0))).alloc (.cells #[.string i, .slice A n c, .slice A2 n2 c2] 81 (0, 0))) (HLP.out _ HRO2.out)).mono ?_
      rintro e w2 ⟨rfl, hb2⟩
      have HF20 := Lib.hid (blk_below HF10.out hb2)
      have HF21 := Lib.hid (blk_below HF11.out hb2)
      have HF22 := Lib.hid (blk_below HF12.out hb2)
      have HB23 := Lib.hid (HB13.out.trans (hb2.mono HB13.out.size))
      have HRO5 := Lib.hid (HRO2.out.kept hb2)
      clear hb2 HB13 HF10 HF4 HF11 HF12
      have hc24 : w2.cell? ⟨w1.heap.size + 1, 0, none⟩ = some (.string i) := by rw [cell_of_row _ _ _ _ _ _ HF22.out]; rfl
      have hc25 : w2.cell? ⟨w1.heap.size + 1, 1, none⟩ = some (.slice A n c) := by rw [cell_of_row _ _ _ _ _ _ HF22.out]; rfl
      have hc26 : w2.cell? ⟨w1.heap.size + 1, 2, none⟩ = some (.slice A2 n2 c2) := by rw [cell_of_row _ _ _ _ _ _ HF22.out]; rfl
      go_wp2_with fail
      clear hc24 hc25 hc26
      refine (HPN.out w2 (HLP.out _ HRO5.out)).mono ?_
      rintro e w3 ⟨rfl, hb3⟩
      have HF27 := Lib.hid (blk_below HF20.out hb3)
      have HF28 := Lib.hid (blk_below HF21.out hb3)
      have HF29 := Lib.hid (blk_below HF22.out hb3)
      have HB30 := Lib.hid (HB23.out.trans (hb3.mono HB23.out.size))
      have HRO6 := Lib.hid (HRO5.out.kept hb3)
      clear hb3 HB23 HF20 HF21 HF22
      have hc31 : w3.cell? ⟨w1.heap.size + 1, 0, none⟩ = some (.string i) := by rw [cell_of_row _ _ _ _ _ _ HF29.out]; rfl
      have hc32 : w3.cell? ⟨w1.heap.size + 1, 1, none⟩ = some (.slice A n c) := by rw [cell_of_row _ _ _ _ _ _ HF29.out]; rfl
      have hc33 : w3.cell? ⟨w1.heap.size + 1, 2, none⟩ = some (.slice A2 n2 c2) := by rw [cell_of_row _ _ _ _ _ _ HF29.out]; rfl
      have hk34 : w.heap.size < w3.heap.size := lt_of_block HF27.out
      have hk35 : w1.heap.size < w3.heap.size := lt_of_block HF28.out
      have hk36 : w1.heap.size + 1 < w3.heap.size := lt_of_block HF29.out
      go_wp2_with (first
        | refine wpList_store_rowY rfl 81 (.tmp 4) (.tmp 36) rfl (w.heap.size) #[.string i, .slice A n c, .slice A2 n2 c2] rfl rfl 81 _ HF27.out (info_nd _ _ _) rfl (one_nd _ _ _ _ _ _ _) w.heap.size w HB30.out (by omega) ?_)
      intro W4 hbk hoth hbel _
      clear hc31 hc32 hc33
      have HF37 := Lib.hid hbk.out
      have HF38 := Lib.hid (blk_oth HF28.out hoth.out (by omega))
      have HF39 := Lib.hid (blk_oth HF29.out hoth.out (by omega))
      have HB40 := Lib.hid hbel.out
      have HRO9 := Lib.hid (HRO6.out.hoth hoth.out (by omega))
      clear hbk hoth hbel HB30  HF27 HF28 HF29
      go_wp2_with fail
      refine bodyPost_ret (results_ctY rfl _ _ (w.heap.size) #[.string i, .slice A n c, .slice A2 n2 c2] rfl (run_loadVar_row _ (w.heap.size) 81 81 _ (0, 0) _ HF37.out Try.underlying81 rfl (info_nd _ _ _))) rfl ?_
      exact Or.inl ⟨l, ps, _, _, HIS.out, (fun ss0 ps0 h0 => (HUN.out ss0 ps0 h0).2), rfl, HRO9.out.mono (by omega), HB40.out⟩
    · have HNO := Lib.hid (show ∀ ss0 ps0, ¬ IsN i S ss0 ps0 from fun ss0 ps0 h0 => by
        obtain ⟨her0, rfl, rfl⟩ := HUN.out ss0 ps0 h0
        exact hs (by rw [hT]; exact h0.2.2))
      have hqe := ba_neA hs
      have hqn : (T.toList != S.toList) = true := by rw [bne, hqe]; rfl
      clear hz hz0 hzz hT hs
      have hc14 : ((w1.alloc (.cells #[.string S, .int .i64 (q : Int), .int .i64 er] 192 (0, 0))).alloc (.cells #[.string i, .slice A n c, .slice A2 n2 c2] 81 (0, 0))).cell? ⟨w1.heap.size, 0, none⟩ = some (.string S) := by rw [cell_of_row _ _ _ _ _ _ HF11.out]; rfl
      have hc15 : ((w1.alloc (.cells #[.string S, .int .i64 (q : Int), .int .i64 er] 192 (0, 0))).alloc (.cells #[.string i, .slice A n c, .slice A2 n2 c2] 81 (0, 0))).cell? ⟨w1.heap.size, 1, none⟩ = some (.int .i64 (q : Int)) := by rw [cell_of_row _ _ _ _ _ _ HF11.out]; rfl
      have hc16 : ((w1.alloc (.cells #[.string S, .int .i64 (q : Int), .int .i64 er] 192 (0, 0))).alloc (.cells #[.string i, .slice A n c, .slice A2 n2 c2] 81 (0, 0))).cell? ⟨w1.heap.size, 2, none⟩ = some (.int .i64 er) := by rw [cell_of_row _ _ _ _ _ _ HF11.out]; rfl
      have hc17 : ((w1.alloc (.cells #[.string S, .int .i64 (q : Int), .int .i64 er] 192 (0, 0))).alloc (.cells #[.string i, .slice A n c, .slice A2 n2 c2] 81 (0, 0))).cell? ⟨w1.heap.size + 1, 0, none⟩ = some (.string i) := by rw [cell_of_row _ _ _ _ _ _ HF12.out]; rfl
      have hc18 : ((w1.alloc (.cells #[.string S, .int .i64 (q : Int), .int .i64 er] 192 (0, 0))).alloc (.cells #[.string i, .slice A n c, .slice A2 n2 c2] 81 (0, 0))).cell? ⟨w1.heap.size + 1, 1, none⟩ = some (.slice A n c) := by rw [cell_of_row _ _ _ _ _ _ HF12.out]; rfl
      have hc19 : ((w1.alloc (.cells #[.string S, .int .i64 (q : Int), .int .i64 er] 192 (0, 0))).alloc (.cells #[.string i, .slice A n c, .slice A2 n2 c2] 81 (0, 0))).cell? ⟨w1.heap.size + 1, 2, none⟩ = some (.slice A2 n2 c2) := by rw [cell_of_row _ _ _ _ _ _ HF12.out]; rfl
      go_wp2_with fail
      clear hc14 hc15 hc16 hc17 hc18 hc19
      refine (HNC.out ((w1.alloc (.cells #[.string S, .int .i64 (q : Int), .int .i64 er] 192 (0, 0))).alloc (.cells #[.string i, .slice A n c, .slice A2 n2 c2] 81 (0, 0))) (HLP.out _ HRO2.out)).mono ?_
      rintro e w2 ⟨rfl, hb2⟩
      have HF20 := Lib.hid (blk_below HF10.out hb2)
      have HF21 := Lib.hid (blk_below HF11.out hb2)
      have HF22 := Lib.hid (blk_below HF12.out hb2)
      have HB23 := Lib.hid (HB13.out.trans (hb2.mono HB13.out.size))
      have HRO5 := Lib.hid (HRO2.out.kept hb2)
      clear hb2 HB13 HF10 HF4 HF11 HF12
      have hc24 : w2.cell? ⟨w1.heap.size + 1, 0, none⟩ = some (.string i) := by rw [cell_of_row _ _ _ _ _ _ HF22.out]; rfl
      have hc25 : w2.cell? ⟨w1.heap.size + 1, 1, none⟩ = some (.slice A n c) := by rw [cell_of_row _ _ _ _ _ _ HF22.out]; rfl
      have hc26 : w2.cell? ⟨w1.heap.size + 1, 2, none⟩ = some (.slice A2 n2 c2) := by rw [cell_of_row _ _ _ _ _ _ HF22.out]; rfl
      go_wp2_with fail
      clear hc24 hc25 hc26
      refine (HPN.out w2 (HLP.out _ HRO5.out)).mono ?_
      rintro e w3 ⟨rfl, hb3⟩
      have HF27 := Lib.hid (blk_below HF20.out hb3)
      have HF28 := Lib.hid (blk_below HF21.out hb3)
      have HF29 := Lib.hid (blk_below HF22.out hb3)
      have HB30 := Lib.hid (HB23.out.trans (hb3.mono HB23.out.size))
      have HRO6 := Lib.hid (HRO5.out.kept hb3)
      clear hb3 HB23 HF20 HF21 HF22
      have hc31 : w3.cell? ⟨w1.heap.size + 1, 0, none⟩ = some (.string i) := by rw [cell_of_row _ _ _ _ _ _ HF29.out]; rfl
      have hc32 : w3.cell? ⟨w1.heap.size + 1, 1, none⟩ = some (.slice A n c) := by rw [cell_of_row _ _ _ _ _ _ HF29.out]; rfl
      have hc33 : w3.cell? ⟨w1.heap.size + 1, 2, none⟩ = some (.slice A2 n2 c2) := by rw [cell_of_row _ _ _ _ _ _ HF29.out]; rfl
      have hk34 : w.heap.size < w3.heap.size := lt_of_block HF27.out
      have hk35 : w1.heap.size < w3.heap.size := lt_of_block HF28.out
      have hk36 : w1.heap.size + 1 < w3.heap.size := lt_of_block HF29.out
      go_wp2_with (first
        | refine wpList_store_rowY rfl 81 (.tmp 4) (.tmp 35) rfl (w.heap.size) #[.string ⟨#[]⟩, .slice none 0 0, .slice none 0 0] rfl rfl 81 _ HF27.out (info_nd _ _ _) rfl (one_nd _ _ _ _ _ _ _) w.heap.size w HB30.out (by omega) ?_)
      intro W4 hbk hoth hbel _
      clear hc31 hc32 hc33
      have HF37 := Lib.hid hbk.out
      have HF38 := Lib.hid (blk_oth HF28.out hoth.out (by omega))
      have HF39 := Lib.hid (blk_oth HF29.out hoth.out (by omega))
      have HB40 := Lib.hid hbel.out
      clear hbk hoth hbel HB30  HF27 HF28 HF29
      go_wp2_with fail
      refine bodyPost_ret (results_ctY rfl _ _ (w.heap.size) #[.string ⟨#[]⟩, .slice none 0 0, .slice none 0 0] rfl (run_loadVar_row _ (w.heap.size) 81 81 _ (0, 0) _ HF37.out Try.underlying81 rfl (info_nd _ _ _))) rfl ?_
      exact Or.inr ⟨HNO.out, rfl, HB40.out⟩
  · have HNO := Lib.hid (show ∀ ss0 ps0, ¬ IsN i S ss0 ps0 from fun ss0 ps0 h0 => by
      obtain ⟨her0, rfl, rfl⟩ := HUN.out ss0 ps0 h0
      exact hz (by rw [hzz]; exact h0.1))
    have hz1 : (z != 0) = true := by simpa using hz
    clear hz hzz
    have hc14 : ((w1.alloc (.cells #[.string S, .int .i64 (q : Int), .int .i64 er] 192 (0, 0))).alloc (.cells #[.string i, .slice A n c, .slice A2 n2 c2] 81 (0, 0))).cell? ⟨w1.heap.size, 0, none⟩ = some (.string S) := by rw [cell_of_row _ _ _ _ _ _ HF11.out]; rfl
    have hc15 : ((w1.alloc (.cells #[.string S, .int .i64 (q : Int), .int .i64 er] 192 (0, 0))).alloc (.cells #[.string i, .slice A n c, .slice A2 n2 c2] 81 (0, 0))).cell? ⟨w1.heap.size, 1, none⟩ = some (.int .i64 (q : Int)) := by rw [cell_of_row _ _ _ _ _ _ HF11.out]; rfl
    have hc16 : ((w1.alloc (.cells #[.string S, .int .i64 (q : Int), .int .i64 er] 192 (0, 0))).alloc (.cells #[.string i, .slice A n c, .slice A2 n2 c2] 81 (0, 0))).cell? ⟨w1.heap.size, 2, none⟩ = some (.int .i64 er) := by rw [cell_of_row _ _ _ _ _ _ HF11.out]; rfl
    have hc17 : ((w1.alloc (.cells #[.string S, .int .i64 (q : Int), .int .i64 er] 192 (0, 0))).alloc (.cells #[.string i, .slice A n c, .slice A2 n2 c2] 81 (0, 0))).cell? ⟨w1.heap.size + 1, 0, none⟩ = some (.string i) := by rw [cell_of_row _ _ _ _ _ _ HF12.out]; rfl
    have hc18 : ((w1.alloc (.cells #[.string S, .int .i64 (q : Int), .int .i64 er] 192 (0, 0))).alloc (.cells #[.string i, .slice A n c, .slice A2 n2 c2] 81 (0, 0))).cell? ⟨w1.heap.size + 1, 1, none⟩ = some (.slice A n c) := by rw [cell_of_row _ _ _ _ _ _ HF12.out]; rfl
    have hc19 : ((w1.alloc (.cells #[.string S, .int .i64 (q : Int), .int .i64 er] 192 (0, 0))).alloc (.cells #[.string i, .slice A n c, .slice A2 n2 c2] 81 (0, 0))).cell? ⟨w1.heap.size + 1, 2, none⟩ = some (.slice A2 n2 c2) := by rw [cell_of_row _ _ _ _ _ _ HF12.out]; rfl
    go_wp2_with fail
    clear hc14 hc15 hc16 hc17 hc18 hc19
    refine (HNC.out ((w1.alloc (.cells #[.string S, .int .i64 (q : Int), .int .i64 er] 192 (0, 0))).alloc (.cells #[.string i, .slice A n c, .slice A2 n2 c2] 81 (0, 0))) (HLP.out _ HRO2.out)).mono ?_
    rintro e w2 ⟨rfl, hb2⟩
    have HF20 := Lib.hid (blk_below HF10.out hb2)
    have HF21 := Lib.hid (blk_below HF11.out hb2)
    have HF22 := Lib.hid (blk_below HF12.out hb2)
    have HB23 := Lib.hid (HB13.out.trans (hb2.mono HB13.out.size))
    have HRO5 := Lib.hid (HRO2.out.kept hb2)
    clear hb2 HB13 HF10 HF4 HF11 HF12
    have hc24 : w2.cell? ⟨w1.heap.size + 1, 0, none⟩ = some (.string i) := by rw [cell_of_row _ _ _ _ _ _ HF22.out]; rfl
    have hc25 : w2.cell? ⟨w1.heap.size + 1, 1, none⟩ = some (.slice A n c) := by rw [cell_of_row _ _ _ _ _ _ HF22.out]; rfl
    have hc26 : w2.cell? ⟨w1.heap.size + 1, 2, none⟩ = some (.slice A2 n2 c2) := by rw [cell_of_row _ _ _ _ _ _ HF22.out]; rfl
    have hk27 : w.heap.size < w2.heap.size := lt_of_block HF20.out
    have hk28 : w1.heap.size < w2.heap.size := lt_of_block HF21.out
    have hk29 : w1.heap.size + 1 < w2.heap.size := lt_of_block HF22.out
    go_wp2_with (first
      | refine wpList_store_rowY rfl 81 (.tmp 4) (.tmp 35) rfl (w.heap.size) #[.string ⟨#[]⟩, .slice none 0 0, .slice none 0 0] rfl rfl 81 _ HF20.out (info_nd _ _ _) rfl (one_nd _ _ _ _ _ _ _) w.heap.size w HB23.out (by omega) ?_)
    intro W3 hbk hoth hbel _
    clear hc24 hc25 hc26
    have HF30 := Lib.hid hbk.out
    have HF31 := Lib.hid (blk_oth HF21.out hoth.out (by omega))
    have HF32 := Lib.hid (blk_oth HF22.out hoth.out (by omega))
    have HB33 := Lib.hid hbel.out
    clear hbk hoth hbel HB23  HF20 HF21 HF22
    go_wp2_with fail
    refine bodyPost_ret (results_ctY rfl _ _ (w.heap.size) #[.string ⟨#[]⟩, .slice none 0 0, .slice none 0 0] rfl (run_loadVar_row _ (w.heap.size) 81 81 _ (0, 0) _ HF30.out Try.underlying81 rfl (info_nd _ _ _))) rfl ?_
    exact Or.inr ⟨HNO.out, rfl, HB33.out⟩
set_option maxHeartbeats 8000000 in
set_option maxRecDepth 100000 in
theorem rtedge_any (i S : ByteArray) (w : World) (hi : i.size ≤ maxLen) (hS : S.size ≤ 999999) :
    Calls Try.prog 51 #[.string i, .string S] w (TakeE (.bool true) (.bool false) i S w) := by
  have hSm : S.size ≤ 1000000 := by omega
  obtain ⟨f, q1, e1, hT1⟩ : ∃ a0 a1 a2, Rd.text S 0 0 100 = (a0, a1, a2) := ⟨_, _, _, rfl⟩
  have hq1 := Rd.text_le S 0 0 100 (Nat.zero_le _)
  have hf := text_size S 0 0 100
  rw [hT1] at hq1 hf
  dsimp only at hq1 hf
  obtain ⟨g, q2, e2, hT2⟩ : ∃ a0 a1 a2, Rd.text S q1 e1 100 = (a0, a1, a2) := ⟨_, _, _, rfl⟩
  have hq2 := Rd.text_le S q1 e1 100 hq1
  have hg := text_size S q1 e1 100
  rw [hT2] at hq2 hg
  dsimp only at hq2 hg
  have hf : f.size ≤ maxLen := by unfold maxLen; omega
  have hg : g.size ≤ maxLen := by unfold maxLen; omega
  have HT1 := Lib.hid (fun W : World => rtextA S 0 0 100 f q1 e1 W hSm (Nat.zero_le _) (by omega) (by omega) hT1)
  have HT2 := Lib.hid (fun W : World => rtextA S q1 e1 100 g q2 e2 W hSm hq1 (by omega) (by omega) hT2)
  have HFR := Lib.hid (fun (f0 g0 : ByteArray) (ss : List ByteArray) (ps : List Pr) (h : IsE i S f0 g0 ss ps) => h.front (m1 := 100) (m2 := 100) (by omega) (by omega) hT1 hT2)
  have HST := Lib.hid (IsE.start (i := i) (m1 := 100) (m2 := 100) (by omega) (by omega) hT1 hT2)
  clear hT1 hT2
  have HB1 := Lib.hid (Below.refl w.heap.size w)
  go_enter Try.func51, Try.ntmps51
  have HF2 := Lib.hid (blk_new w (.cells #[.string ⟨#[]⟩, .string ⟨#[]⟩, .string ⟨#[]⟩, .slice none 0 0, .slice none 0 0] 85 (0, 0)))
  have HB3 := Lib.hid (HB1.out.alloc HB1.out.size (.cells #[.string ⟨#[]⟩, .string ⟨#[]⟩, .string ⟨#[]⟩, .slice none 0 0, .slice none 0 0] 85 (0, 0)))
  clear HB1
  go_wp2_with fail
  refine (HT1.out (w.alloc (.cells #[.string ⟨#[]⟩, .string ⟨#[]⟩, .string ⟨#[]⟩, .slice none 0 0, .slice none 0 0] 85 (0, 0)))).mono ?_
  rintro e w1 ⟨rfl, hb1⟩
  have HF4 := Lib.hid (blk_below HF2.out hb1)
  have HB5 := Lib.hid (HB3.out.trans (hb1.mono HB3.out.size))
  clear hb1 HB3 HF2
  have hk6 : w.heap.size < w1.heap.size := lt_of_block HF4.out
  have HF7 := Lib.hid (blk_alloc HF4.out (.cells #[.string S, .int .i64 (q1 : Int), .int .i64 e1] 192 (0, 0)))
  have HF8 := Lib.hid (blk_new w1 (.cells #[.string S, .int .i64 (q1 : Int), .int .i64 e1] 192 (0, 0)))
  have HB9 := Lib.hid (HB5.out.alloc HB5.out.size (.cells #[.string S, .int .i64 (q1 : Int), .int .i64 e1] 192 (0, 0)))
  clear HB5
  have hc10 : (w1.alloc (.cells #[.string S, .int .i64 (q1 : Int), .int .i64 e1] 192 (0, 0))).cell? ⟨w1.heap.size, 0, none⟩ = some (.string S) := by rw [cell_of_row _ _ _ _ _ _ HF8.out]; rfl
  have hc11 : (w1.alloc (.cells #[.string S, .int .i64 (q1 : Int), .int .i64 e1] 192 (0, 0))).cell? ⟨w1.heap.size, 1, none⟩ = some (.int .i64 (q1 : Int)) := by rw [cell_of_row _ _ _ _ _ _ HF8.out]; rfl
  have hc12 : (w1.alloc (.cells #[.string S, .int .i64 (q1 : Int), .int .i64 e1] 192 (0, 0))).cell? ⟨w1.heap.size, 2, none⟩ = some (.int .i64 e1) := by rw [cell_of_row _ _ _ _ _ _ HF8.out]; rfl
  go_wp2_with fail
  clear hc10 hc11 hc12
  refine (HT2.out (w1.alloc (.cells #[.string S, .int .i64 (q1 : Int), .int .i64 e1] 192 (0, 0)))).mono ?_
  rintro e w2 ⟨rfl, hb2⟩
  have HF13 := Lib.hid (blk_below HF7.out hb2)
  have HF14 := Lib.hid (blk_below HF8.out hb2)
  have HB15 := Lib.hid (HB9.out.trans (hb2.mono HB9.out.size))
  clear hb2 HB9 HF7 HF4 HF8
  have hk16 : w.heap.size < w2.heap.size := lt_of_block HF13.out
  have hk17 : w1.heap.size < w2.heap.size := lt_of_block HF14.out
  go_wp2_with (first
    | refine wpList_store_rowY rfl 192 (.tmp 6) (.tmp 21) rfl (w1.heap.size) #[.string S, .int .i64 (q2 : Int), .int .i64 e2] rfl rfl 192 _ HF14.out (info_scA _ _ _) rfl (one_scA _ _ _) w.heap.size w HB15.out (by omega) ?_)
  intro W3 hbk hoth hbel _
  have HF18 := Lib.hid (blk_oth HF13.out hoth.out (by omega))
  have HF19 := Lib.hid hbk.out
  have HB20 := Lib.hid hbel.out
  clear hbk hoth hbel HB15  HF13 HF14
  have hk21 : w.heap.size < W3.heap.size := lt_of_block HF18.out
  have hk22 : w1.heap.size < W3.heap.size := lt_of_block HF19.out
  have hc23 : W3.cell? ⟨w1.heap.size, 0, none⟩ = some (.string S) := by rw [cell_of_row _ _ _ _ _ _ HF19.out]; rfl
  have hc24 : W3.cell? ⟨w1.heap.size, 1, none⟩ = some (.int .i64 (q2 : Int)) := by rw [cell_of_row _ _ _ _ _ _ HF19.out]; rfl
  have hc25 : W3.cell? ⟨w1.heap.size, 2, none⟩ = some (.int .i64 e2) := by rw [cell_of_row _ _ _ _ _ _ HF19.out]; rfl
  go_wp2_with fail
  clear hc23 hc24 hc25
  refine (rread_any (fun ss ps => ∃ f g, IsE i S f g ss ps) S q2 e2 W3 hS hq2 HST.out).mono ?_
  rintro e w4 ⟨l, ps, vL, vP, q, er, rfl, hro, hd, hb⟩
  have hBA : w.heap.size < W3.heap.size := lt_of_block HF18.out
  have hRA := lt_of_block HF19.out
  have HF26 := Lib.hid (blk_below HF18.out hb)
  have HF27 := Lib.hid (blk_below HF19.out hb)
  have HB28 := Lib.hid (HB20.out.trans (hb.mono HB20.out.size))
  have HRO := Lib.hid hro
  have HD := Lib.hid hd
  obtain ⟨base, hbase⟩ : ∃ x, x = W3.heap.size := ⟨_, rfl⟩
  rw [← hbase] at HRO hBA hRA
  clear hb hro hd hbase HB20 HF18 HF19
  obtain ⟨A, c, A2, c2, rfl, rfl, _, _⟩ := HRO.out.lp
  obtain ⟨n, hn⟩ : ∃ n, n = l.length := ⟨_, rfl⟩
  obtain ⟨n2, hn2⟩ : ∃ n, n = ps.length := ⟨_, rfl⟩
  have HOK := Lib.hid (show LOk n l n2 ps by rw [hn, hn2]; exact HRO.out.ok)
  have HLP := Lib.hid (fun (W : World) (q : RdOk W base (.slice A n c) (.slice A2 n2 c2) l ps) => show LP W A n l A2 n2 ps by
    obtain ⟨A', c', A2', c2', e1, e2, h, _⟩ := q.lp
    rw [← hn] at e1 h
    rw [← hn2] at e2 h
    cases e1
    cases e2
    exact h)
  rw [← hn, ← hn2] at HRO
  rw [← hn, ← hn2]
  clear hn hn2
  have hk29 : w.heap.size < w4.heap.size := lt_of_block HF26.out
  have hk30 : w1.heap.size < w4.heap.size := lt_of_block HF27.out
  go_wp2_with (first
    | refine wpList_store_rowY rfl 192 (.tmp 6) (.tmp 26) rfl (w1.heap.size) #[.string S, .int .i64 (q : Int), .int .i64 er] rfl rfl 192 _ HF27.out (info_scA _ _ _) rfl (one_scA _ _ _) w.heap.size w HB28.out (by omega) ?_)
  intro W5 hbk hoth hbel _
  have HF31 := Lib.hid (blk_oth HF26.out hoth.out (by omega))
  have HF32 := Lib.hid hbk.out
  have HB33 := Lib.hid hbel.out
  have HRO1 := Lib.hid (HRO.out.hoth hoth.out (by omega))
  clear hbk hoth hbel HB28  HF26 HF27
  have hk34 : w.heap.size < W5.heap.size := lt_of_block HF31.out
  have hk35 : w1.heap.size < W5.heap.size := lt_of_block HF32.out
  have HF36 := Lib.hid (blk_alloc HF31.out (.cells #[.string i, .string f, .string g, .slice A n c, .slice A2 n2 c2] 85 (0, 0)))
  have HF37 := Lib.hid (blk_alloc HF32.out (.cells #[.string i, .string f, .string g, .slice A n c, .slice A2 n2 c2] 85 (0, 0)))
  have HF38 := Lib.hid (blk_new W5 (.cells #[.string i, .string f, .string g, .slice A n c, .slice A2 n2 c2] 85 (0, 0)))
  have HB39 := Lib.hid (HB33.out.alloc HB33.out.size (.cells #[.string i, .string f, .string g, .slice A n c, .slice A2 n2 c2] 85 (0, 0)))
  clear HB33
  have HRO2 := Lib.hid (HRO1.out.kept ((Below.refl _ W5).alloc (Nat.le_refl _) (.cells #[.string i, .string f, .string g, .slice A n c, .slice A2 n2 c2] 85 (0, 0))))
  have hsl : ∀ f' g' ss' ps', IsE i S f' g' ss' ps' → er = 0 ∧ f' = f ∧ g' = g ∧ ss' = l ∧ ps' = ps := fun f' g' ss' ps' h => by
    obtain ⟨k1, k2, _⟩ := HFR.out f' g' ss' ps' h
    obtain ⟨k0, k3, k4⟩ := HD.out ss' ps' ⟨f', g', h⟩
    exact ⟨k0, k1.symm, k2.symm, k3.symm, k4.symm⟩
  have HUN := Lib.hid hsl
  clear hsl
  by_cases her : er = 0
  rotate_left
  · have HNO := Lib.hid (show ∀ f0 g0 ss0 ps0, ¬ IsE i S f0 g0 ss0 ps0 from fun f0 g0 ss0 ps0 h0 => her (HUN.out f0 g0 ss0 ps0 h0).1)
    have hez : (er != 0) = true := by simpa using her
    clear her
    have hc40 : (W5.alloc (.cells #[.string i, .string f, .string g, .slice A n c, .slice A2 n2 c2] 85 (0, 0))).cell? ⟨w1.heap.size, 0, none⟩ = some (.string S) := by rw [cell_of_row _ _ _ _ _ _ HF37.out]; rfl
    have hc41 : W5.cell? ⟨w1.heap.size, 0, none⟩ = some (.string S) := by rw [cell_of_row _ _ _ _ _ _ HF32.out]; rfl
    have hc42 : (W5.alloc (.cells #[.string i, .string f, .string g, .slice A n c, .slice A2 n2 c2] 85 (0, 0))).cell? ⟨w1.heap.size, 1, none⟩ = some (.int .i64 (q : Int)) := by rw [cell_of_row _ _ _ _ _ _ HF37.out]; rfl
    have hc43 : W5.cell? ⟨w1.heap.size, 1, none⟩ = some (.int .i64 (q : Int)) := by rw [cell_of_row _ _ _ _ _ _ HF32.out]; rfl
    have hc44 : (W5.alloc (.cells #[.string i, .string f, .string g, .slice A n c, .slice A2 n2 c2] 85 (0, 0))).cell? ⟨w1.heap.size, 2, none⟩ = some (.int .i64 er) := by rw [cell_of_row _ _ _ _ _ _ HF37.out]; rfl
    have hc45 : W5.cell? ⟨w1.heap.size, 2, none⟩ = some (.int .i64 er) := by rw [cell_of_row _ _ _ _ _ _ HF32.out]; rfl
    have hl46 : w1.heap.size < W5.heap.size := lt_of_block HF32.out
    have hl47 : ¬ w1.heap.size = W5.heap.size := by omega
    go_wp2_with (first
      | refine wpList_store_rowY rfl 85 (.tmp 4) (.tmp 49) rfl (w.heap.size) #[.string ⟨#[]⟩, .string ⟨#[]⟩, .string ⟨#[]⟩, .slice none 0 0, .slice none 0 0] rfl rfl 85 _ HF36.out (info_ed _ _ _ _ _) rfl (one_ed _ _ _ _ _ _ _ _ _) w.heap.size w HB39.out (by omega) ?_)
    intro W6 hbk hoth hbel _
    clear hc40 hc41 hc42 hc43 hc44 hc45 hl46 hl47
    have HF48 := Lib.hid hbk.out
    have HF49 := Lib.hid (blk_oth HF37.out hoth.out (by omega))
    have HF50 := Lib.hid (blk_oth HF38.out hoth.out (by omega))
    have HB51 := Lib.hid hbel.out
    clear hbk hoth hbel HB39  HF36 HF37 HF38
    go_wp2_with fail
    refine bodyPost_ret (results_ctY rfl _ _ (w.heap.size) #[.string ⟨#[]⟩, .string ⟨#[]⟩, .string ⟨#[]⟩, .slice none 0 0, .slice none 0 0] rfl (run_loadVar_row _ (w.heap.size) 85 85 _ (0, 0) _ HF48.out Try.underlying85 rfl (info_ed _ _ _ _ _))) rfl ?_
    exact Or.inr ⟨HNO.out, rfl, HB51.out⟩
  have hez : (er != 0) = false := by rw [her]; rfl
  have HER := Lib.hid her
  clear her
  obtain ⟨z, hzz⟩ : ∃ z, z = edW i f g l ps := ⟨_, rfl⟩
  have HNC := Lib.hid (fun (W : World) (q : LP W A n l A2 n2 ps) => redge_any i f g A A2 n c n2 c2 l ps W q HOK.out hi hf hg)
  rw [← hzz] at HNC
  by_cases hz : z = 0
  · have hz0 : edW i f g l ps = 0 := by rw [← hzz]; exact hz
    have hz1 : (z != 0) = false := by rw [hz]; rfl
    obtain ⟨T, hT⟩ : ∃ T, T = (tS f ++ tS g) ++ ptS l ps := ⟨_, rfl⟩
    have HPN := Lib.hid (fun (W : World) (q : LP W A n l A2 n2 ps) => rpedge_yes i f g A A2 n c n2 c2 l ps W q HOK.out hi hf hg hz0 HRO.out.i)
    rw [← hT] at HPN
    by_cases hs : T = S
    · have HIS := Lib.hid (show IsE i S f g l ps from ⟨hz0, HRO.out.i, by rw [← hT, hs]⟩)
      have hqe : (T.toList == S.toList) = true := by rw [hs]; simp
      have hqn : (T.toList != S.toList) = false := by rw [hs]; simp
      clear hz hz0 hzz hT hs
      have hc40 : (W5.alloc (.cells #[.string i, .string f, .string g, .slice A n c, .slice A2 n2 c2] 85 (0, 0))).cell? ⟨w1.heap.size, 0, none⟩ = some (.string S) := by rw [cell_of_row _ _ _ _ _ _ HF37.out]; rfl
      have hc41 : W5.cell? ⟨w1.heap.size, 0, none⟩ = some (.string S) := by rw [cell_of_row _ _ _ _ _ _ HF32.out]; rfl
      have hc42 : (W5.alloc (.cells #[.string i, .string f, .string g, .slice A n c, .slice A2 n2 c2] 85 (0, 0))).cell? ⟨w1.heap.size, 1, none⟩ = some (.int .i64 (q : Int)) := by rw [cell_of_row _ _ _ _ _ _ HF37.out]; rfl
      have hc43 : W5.cell? ⟨w1.heap.size, 1, none⟩ = some (.int .i64 (q : Int)) := by rw [cell_of_row _ _ _ _ _ _ HF32.out]; rfl
      have hc44 : (W5.alloc (.cells #[.string i, .string f, .string g, .slice A n c, .slice A2 n2 c2] 85 (0, 0))).cell? ⟨w1.heap.size, 2, none⟩ = some (.int .i64 er) := by rw [cell_of_row _ _ _ _ _ _ HF37.out]; rfl
      have hc45 : W5.cell? ⟨w1.heap.size, 2, none⟩ = some (.int .i64 er) := by rw [cell_of_row _ _ _ _ _ _ HF32.out]; rfl
      have hl46 : w1.heap.size < W5.heap.size := lt_of_block HF32.out
      have hl47 : ¬ w1.heap.size = W5.heap.size := by omega
      have hc48 : (W5.alloc (.cells #[.string i, .string f, .string g, .slice A n c, .slice A2 n2 c2] 85 (0, 0))).cell? ⟨W5.heap.size, 0, none⟩ = some (.string i) := by rw [cell_of_row _ _ _ _ _ _ HF38.out]; rfl
      have hc49 : (W5.alloc (.cells #[.string i, .string f, .string g, .slice A n c, .slice A2 n2 c2] 85 (0, 0))).cell? ⟨W5.heap.size, 1, none⟩ = some (.string f) := by rw [cell_of_row _ _ _ _ _ _ HF38.out]; rfl
      have hc50 : (W5.alloc (.cells #[.string i, .string f, .string g, .slice A n c, .slice A2 n2 c2] 85 (0, 0))).cell? ⟨W5.heap.size, 2, none⟩ = some (.string g) := by rw [cell_of_row _ _ _ _ _ _ HF38.out]; rfl
      have hc51 : (W5.alloc (.cells #[.string i, .string f, .string g, .slice A n c, .slice A2 n2 c2] 85 (0, 0))).cell? ⟨W5.heap.size, 3, none⟩ = some (.slice A n c) := by rw [cell_of_row _ _ _ _ _ _ HF38.out]; rfl
      have hc52 : (W5.alloc (.cells #[.string i, .string f, .string g, .slice A n c, .slice A2 n2 c2] 85 (0, 0))).cell? ⟨W5.heap.size, 4, none⟩ = some (.slice A2 n2 c2) := by rw [cell_of_row _ _ _ _ _ _ HF38.out]; rfl
      go_wp2_with fail
      clear hc40 hc41 hc42 hc43 hc44 hc45 hl46 hl47 hc48 hc49 hc50 hc51 hc52
      refine (HNC.out (W5.alloc (.cells #[.string i, .string f, .string g, .slice A n c, .slice A2 n2 c2] 85 (0, 0))) (HLP.out _ HRO2.out)).mono ?_
      rintro e w6 ⟨rfl, hb6⟩
      have HF53 := Lib.hid (blk_below HF36.out hb6)
      have HF54 := Lib.hid (blk_below HF37.out hb6)
      have HF55 := Lib.hid (blk_below HF38.out hb6)
      have HB56 := Lib.hid (HB39.out.trans (hb6.mono HB39.out.size))
      have HRO5 := Lib.hid (HRO2.out.kept hb6)
      clear hb6 HB39 HF36 HF31 HF37 HF32 HF38
      have hc57 : w6.cell? ⟨W5.heap.size, 0, none⟩ = some (.string i) := by rw [cell_of_row _ _ _ _ _ _ HF55.out]; rfl
      have hc58 : w6.cell? ⟨W5.heap.size, 1, none⟩ = some (.string f) := by rw [cell_of_row _ _ _ _ _ _ HF55.out]; rfl
      have hc59 : w6.cell? ⟨W5.heap.size, 2, none⟩ = some (.string g) := by rw [cell_of_row _ _ _ _ _ _ HF55.out]; rfl
      have hc60 : w6.cell? ⟨W5.heap.size, 3, none⟩ = some (.slice A n c) := by rw [cell_of_row _ _ _ _ _ _ HF55.out]; rfl
      have hc61 : w6.cell? ⟨W5.heap.size, 4, none⟩ = some (.slice A2 n2 c2) := by rw [cell_of_row _ _ _ _ _ _ HF55.out]; rfl
      go_wp2_with fail
      clear hc57 hc58 hc59 hc60 hc61
      refine (HPN.out w6 (HLP.out _ HRO5.out)).mono ?_
      rintro e w7 ⟨rfl, hb7⟩
      have HF62 := Lib.hid (blk_below HF53.out hb7)
      have HF63 := Lib.hid (blk_below HF54.out hb7)
      have HF64 := Lib.hid (blk_below HF55.out hb7)
      have HB65 := Lib.hid (HB56.out.trans (hb7.mono HB56.out.size))
      have HRO6 := Lib.hid (HRO5.out.kept hb7)
      clear hb7 HB56 HF53 HF54 HF55
      have hc66 : w7.cell? ⟨W5.heap.size, 0, none⟩ = some (.string i) := by rw [cell_of_row _ _ _ _ _ _ HF64.out]; rfl
      have hc67 : w7.cell? ⟨W5.heap.size, 1, none⟩ = some (.string f) := by rw [cell_of_row _ _ _ _ _ _ HF64.out]; rfl
      have hc68 : w7.cell? ⟨W5.heap.size, 2, none⟩ = some (.string g) := by rw [cell_of_row _ _ _ _ _ _ HF64.out]; rfl
      have hc69 : w7.cell? ⟨W5.heap.size, 3, none⟩ = some (.slice A n c) := by rw [cell_of_row _ _ _ _ _ _ HF64.out]; rfl
      have hc70 : w7.cell? ⟨W5.heap.size, 4, none⟩ = some (.slice A2 n2 c2) := by rw [cell_of_row _ _ _ _ _ _ HF64.out]; rfl
      have hk71 : w.heap.size < w7.heap.size := lt_of_block HF62.out
      have hk72 : w1.heap.size < w7.heap.size := lt_of_block HF63.out
      have hk73 : W5.heap.size < w7.heap.size := lt_of_block HF64.out
      go_wp2_with (first
        | refine wpList_store_rowY rfl 85 (.tmp 4) (.tmp 50) rfl (w.heap.size) #[.string i, .string f, .string g, .slice A n c, .slice A2 n2 c2] rfl rfl 85 _ HF62.out (info_ed _ _ _ _ _) rfl (one_ed _ _ _ _ _ _ _ _ _) w.heap.size w HB65.out (by omega) ?_)
      intro W8 hbk hoth hbel _
      clear hc66 hc67 hc68 hc69 hc70
      have HF74 := Lib.hid hbk.out
      have HF75 := Lib.hid (blk_oth HF63.out hoth.out (by omega))
      have HF76 := Lib.hid (blk_oth HF64.out hoth.out (by omega))
      have HB77 := Lib.hid hbel.out
      have HRO9 := Lib.hid (HRO6.out.hoth hoth.out (by omega))
      clear hbk hoth hbel HB65  HF62 HF63 HF64
      go_wp2_with fail
      refine bodyPost_ret (results_ctY rfl _ _ (w.heap.size) #[.string i, .string f, .string g, .slice A n c, .slice A2 n2 c2] rfl (run_loadVar_row _ (w.heap.size) 85 85 _ (0, 0) _ HF74.out Try.underlying85 rfl (info_ed _ _ _ _ _))) rfl ?_
      exact Or.inl ⟨f, g, l, ps, _, _, HIS.out, (fun f0 g0 ss0 ps0 h0 => (HUN.out f0 g0 ss0 ps0 h0).2), rfl, HRO9.out.mono (by omega), HB77.out⟩
    · have HNO := Lib.hid (show ∀ f0 g0 ss0 ps0, ¬ IsE i S f0 g0 ss0 ps0 from fun f0 g0 ss0 ps0 h0 => by
        obtain ⟨her0, rfl, rfl, rfl, rfl⟩ := HUN.out f0 g0 ss0 ps0 h0
        exact hs (by rw [hT]; exact h0.2.2))
      have hqe := ba_neA hs
      have hqn : (T.toList != S.toList) = true := by rw [bne, hqe]; rfl
      clear hz hz0 hzz hT hs
      have hc40 : (W5.alloc (.cells #[.string i, .string f, .string g, .slice A n c, .slice A2 n2 c2] 85 (0, 0))).cell? ⟨w1.heap.size, 0, none⟩ = some (.string S) := by rw [cell_of_row _ _ _ _ _ _ HF37.out]; rfl
      have hc41 : W5.cell? ⟨w1.heap.size, 0, none⟩ = some (.string S) := by rw [cell_of_row _ _ _ _ _ _ HF32.out]; rfl
      have hc42 : (W5.alloc (.cells #[.string i, .string f, .string g, .slice A n c, .slice A2 n2 c2] 85 (0, 0))).cell? ⟨w1.heap.size, 1, none⟩ = some (.int .i64 (q : Int)) := by rw [cell_of_row _ _ _ _ _ _ HF37.out]; rfl
      have hc43 : W5.cell? ⟨w1.heap.size, 1, none⟩ = some (.int .i64 (q : Int)) := by rw [cell_of_row _ _ _ _ _ _ HF32.out]; rfl
      have hc44 : (W5.alloc (.cells #[.string i, .string f, .string g, .slice A n c, .slice A2 n2 c2] 85 (0, 0))).cell? ⟨w1.heap.size, 2, none⟩ = some (.int .i64 er) := by rw [cell_of_row _ _ _ _ _ _ HF37.out]; rfl
      have hc45 : W5.cell? ⟨w1.heap.size, 2, none⟩ = some (.int .i64 er) := by rw [cell_of_row _ _ _ _ _ _ HF32.out]; rfl
      have hl46 : w1.heap.size < W5.heap.size := lt_of_block HF32.out
      have hl47 : ¬ w1.heap.size = W5.heap.size := by omega
      have hc48 : (W5.alloc (.cells #[.string i, .string f, .string g, .slice A n c, .slice A2 n2 c2] 85 (0, 0))).cell? ⟨W5.heap.size, 0, none⟩ = some (.string i) := by rw [cell_of_row _ _ _ _ _ _ HF38.out]; rfl
      have hc49 : (W5.alloc (.cells #[.string i, .string f, .string g, .slice A n c, .slice A2 n2 c2] 85 (0, 0))).cell? ⟨W5.heap.size, 1, none⟩ = some (.string f) := by rw [cell_of_row _ _ _ _ _ _ HF38.out]; rfl
      have hc50 : (W5.alloc (.cells #[.string i, .string f, .string g, .slice A n c, .slice A2 n2 c2] 85 (0, 0))).cell? ⟨W5.heap.size, 2, none⟩ = some (.string g) := by rw [cell_of_row _ _ _ _ _ _ HF38.out]; rfl
      have hc51 : (W5.alloc (.cells #[.string i, .string f, .string g, .slice A n c, .slice A2 n2 c2] 85 (0, 0))).cell? ⟨W5.heap.size, 3, none⟩ = some (.slice A n c) := by rw [cell_of_row _ _ _ _ _ _ HF38.out]; rfl
      have hc52 : (W5.alloc (.cells #[.string i, .string f, .string g, .slice A n c, .slice A2 n2 c2] 85 (0, 0))).cell? ⟨W5.heap.size, 4, none⟩ = some (.slice A2 n2 c2) := by rw [cell_of_row _ _ _ _ _ _ HF38.out]; rfl
      go_wp2_with fail
      clear hc40 hc41 hc42 hc43 hc44 hc45 hl46 hl47 hc48 hc49 hc50 hc51 hc52
      refine (HNC.out (W5.alloc (.cells #[.string i, .string f, .string g, .slice A n c, .slice A2 n2 c2] 85 (0, 0))) (HLP.out _ HRO2.out)).mono ?_
      rintro e w6 ⟨rfl, hb6⟩
      have HF53 := Lib.hid (blk_below HF36.out hb6)
      have HF54 := Lib.hid (blk_below HF37.out hb6)
      have HF55 := Lib.hid (blk_below HF38.out hb6)
      have HB56 := Lib.hid (HB39.out.trans (hb6.mono HB39.out.size))
      have HRO5 := Lib.hid (HRO2.out.kept hb6)
      clear hb6 HB39 HF36 HF31 HF37 HF32 HF38
      have hc57 : w6.cell? ⟨W5.heap.size, 0, none⟩ = some (.string i) := by rw [cell_of_row _ _ _ _ _ _ HF55.out]; rfl
      have hc58 : w6.cell? ⟨W5.heap.size, 1, none⟩ = some (.string f) := by rw [cell_of_row _ _ _ _ _ _ HF55.out]; rfl
      have hc59 : w6.cell? ⟨W5.heap.size, 2, none⟩ = some (.string g) := by rw [cell_of_row _ _ _ _ _ _ HF55.out]; rfl
      have hc60 : w6.cell? ⟨W5.heap.size, 3, none⟩ = some (.slice A n c) := by rw [cell_of_row _ _ _ _ _ _ HF55.out]; rfl
      have hc61 : w6.cell? ⟨W5.heap.size, 4, none⟩ = some (.slice A2 n2 c2) := by rw [cell_of_row _ _ _ _ _ _ HF55.out]; rfl
      go_wp2_with fail
      clear hc57 hc58 hc59 hc60 hc61
      refine (HPN.out w6 (HLP.out _ HRO5.out)).mono ?_
      rintro e w7 ⟨rfl, hb7⟩
      have HF62 := Lib.hid (blk_below HF53.out hb7)
      have HF63 := Lib.hid (blk_below HF54.out hb7)
      have HF64 := Lib.hid (blk_below HF55.out hb7)
      have HB65 := Lib.hid (HB56.out.trans (hb7.mono HB56.out.size))
      have HRO6 := Lib.hid (HRO5.out.kept hb7)
      clear hb7 HB56 HF53 HF54 HF55
      have hc66 : w7.cell? ⟨W5.heap.size, 0, none⟩ = some (.string i) := by rw [cell_of_row _ _ _ _ _ _ HF64.out]; rfl
      have hc67 : w7.cell? ⟨W5.heap.size, 1, none⟩ = some (.string f) := by rw [cell_of_row _ _ _ _ _ _ HF64.out]; rfl
      have hc68 : w7.cell? ⟨W5.heap.size, 2, none⟩ = some (.string g) := by rw [cell_of_row _ _ _ _ _ _ HF64.out]; rfl
      have hc69 : w7.cell? ⟨W5.heap.size, 3, none⟩ = some (.slice A n c) := by rw [cell_of_row _ _ _ _ _ _ HF64.out]; rfl
      have hc70 : w7.cell? ⟨W5.heap.size, 4, none⟩ = some (.slice A2 n2 c2) := by rw [cell_of_row _ _ _ _ _ _ HF64.out]; rfl
      have hk71 : w.heap.size < w7.heap.size := lt_of_block HF62.out
      have hk72 : w1.heap.size < w7.heap.size := lt_of_block HF63.out
      have hk73 : W5.heap.size < w7.heap.size := lt_of_block HF64.out
      go_wp2_with (first
        | refine wpList_store_rowY rfl 85 (.tmp 4) (.tmp 49) rfl (w.heap.size) #[.string ⟨#[]⟩, .string ⟨#[]⟩, .string ⟨#[]⟩, .slice none 0 0, .slice none 0 0] rfl rfl 85 _ HF62.out (info_ed _ _ _ _ _) rfl (one_ed _ _ _ _ _ _ _ _ _) w.heap.size w HB65.out (by omega) ?_)
      intro W8 hbk hoth hbel _
      clear hc66 hc67 hc68 hc69 hc70
      have HF74 := Lib.hid hbk.out
      have HF75 := Lib.hid (blk_oth HF63.out hoth.out (by omega))
      have HF76 := Lib.hid (blk_oth HF64.out hoth.out (by omega))
      have HB77 := Lib.hid hbel.out
      clear hbk hoth hbel HB65  HF62 HF63 HF64
      go_wp2_with fail
      refine bodyPost_ret (results_ctY rfl _ _ (w.heap.size) #[.string ⟨#[]⟩, .string ⟨#[]⟩, .string ⟨#[]⟩, .slice none 0 0, .slice none 0 0] rfl (run_loadVar_row _ (w.heap.size) 85 85 _ (0, 0) _ HF74.out Try.underlying85 rfl (info_ed _ _ _ _ _))) rfl ?_
      exact Or.inr ⟨HNO.out, rfl, HB77.out⟩
  · have HNO := Lib.hid (show ∀ f0 g0 ss0 ps0, ¬ IsE i S f0 g0 ss0 ps0 from fun f0 g0 ss0 ps0 h0 => by
      obtain ⟨her0, rfl, rfl, rfl, rfl⟩ := HUN.out f0 g0 ss0 ps0 h0
      exact hz (by rw [hzz]; exact h0.1))
    have hz1 : (z != 0) = true := by simpa using hz
    clear hz hzz
    have hc40 : (W5.alloc (.cells #[.string i, .string f, .string g, .slice A n c, .slice A2 n2 c2] 85 (0, 0))).cell? ⟨w1.heap.size, 0, none⟩ = some (.string S) := by rw [cell_of_row _ _ _ _ _ _ HF37.out]; rfl
    have hc41 : W5.cell? ⟨w1.heap.size, 0, none⟩ = some (.string S) := by rw [cell_of_row _ _ _ _ _ _ HF32.out]; rfl
    have hc42 : (W5.alloc (.cells #[.string i, .string f, .string g, .slice A n c, .slice A2 n2 c2] 85 (0, 0))).cell? ⟨w1.heap.size, 1, none⟩ = some (.int .i64 (q : Int)) := by rw [cell_of_row _ _ _ _ _ _ HF37.out]; rfl
    have hc43 : W5.cell? ⟨w1.heap.size, 1, none⟩ = some (.int .i64 (q : Int)) := by rw [cell_of_row _ _ _ _ _ _ HF32.out]; rfl
    have hc44 : (W5.alloc (.cells #[.string i, .string f, .string g, .slice A n c, .slice A2 n2 c2] 85 (0, 0))).cell? ⟨w1.heap.size, 2, none⟩ = some (.int .i64 er) := by rw [cell_of_row _ _ _ _ _ _ HF37.out]; rfl
    have hc45 : W5.cell? ⟨w1.heap.size, 2, none⟩ = some (.int .i64 er) := by rw [cell_of_row _ _ _ _ _ _ HF32.out]; rfl
    have hl46 : w1.heap.size < W5.heap.size := lt_of_block HF32.out
    have hl47 : ¬ w1.heap.size = W5.heap.size := by omega
    have hc48 : (W5.alloc (.cells #[.string i, .string f, .string g, .slice A n c, .slice A2 n2 c2] 85 (0, 0))).cell? ⟨W5.heap.size, 0, none⟩ = some (.string i) := by rw [cell_of_row _ _ _ _ _ _ HF38.out]; rfl
    have hc49 : (W5.alloc (.cells #[.string i, .string f, .string g, .slice A n c, .slice A2 n2 c2] 85 (0, 0))).cell? ⟨W5.heap.size, 1, none⟩ = some (.string f) := by rw [cell_of_row _ _ _ _ _ _ HF38.out]; rfl
    have hc50 : (W5.alloc (.cells #[.string i, .string f, .string g, .slice A n c, .slice A2 n2 c2] 85 (0, 0))).cell? ⟨W5.heap.size, 2, none⟩ = some (.string g) := by rw [cell_of_row _ _ _ _ _ _ HF38.out]; rfl
    have hc51 : (W5.alloc (.cells #[.string i, .string f, .string g, .slice A n c, .slice A2 n2 c2] 85 (0, 0))).cell? ⟨W5.heap.size, 3, none⟩ = some (.slice A n c) := by rw [cell_of_row _ _ _ _ _ _ HF38.out]; rfl
    have hc52 : (W5.alloc (.cells #[.string i, .string f, .string g, .slice A n c, .slice A2 n2 c2] 85 (0, 0))).cell? ⟨W5.heap.size, 4, none⟩ = some (.slice A2 n2 c2) := by rw [cell_of_row _ _ _ _ _ _ HF38.out]; rfl
    go_wp2_with fail
    clear hc40 hc41 hc42 hc43 hc44 hc45 hl46 hl47 hc48 hc49 hc50 hc51 hc52
    refine (HNC.out (W5.alloc (.cells #[.string i, .string f, .string g, .slice A n c, .slice A2 n2 c2] 85 (0, 0))) (HLP.out _ HRO2.out)).mono ?_
    rintro e w6 ⟨rfl, hb6⟩
    have HF53 := Lib.hid (blk_below HF36.out hb6)
    have HF54 := Lib.hid (blk_below HF37.out hb6)
    have HF55 := Lib.hid (blk_below HF38.out hb6)
    have HB56 := Lib.hid (HB39.out.trans (hb6.mono HB39.out.size))
    have HRO5 := Lib.hid (HRO2.out.kept hb6)
    clear hb6 HB39 HF36 HF31 HF37 HF32 HF38
    have hc57 : w6.cell? ⟨W5.heap.size, 0, none⟩ = some (.string i) := by rw [cell_of_row _ _ _ _ _ _ HF55.out]; rfl
    have hc58 : w6.cell? ⟨W5.heap.size, 1, none⟩ = some (.string f) := by rw [cell_of_row _ _ _ _ _ _ HF55.out]; rfl
    have hc59 : w6.cell? ⟨W5.heap.size, 2, none⟩ = some (.string g) := by rw [cell_of_row _ _ _ _ _ _ HF55.out]; rfl
    have hc60 : w6.cell? ⟨W5.heap.size, 3, none⟩ = some (.slice A n c) := by rw [cell_of_row _ _ _ _ _ _ HF55.out]; rfl
    have hc61 : w6.cell? ⟨W5.heap.size, 4, none⟩ = some (.slice A2 n2 c2) := by rw [cell_of_row _ _ _ _ _ _ HF55.out]; rfl
    have hk62 : w.heap.size < w6.heap.size := lt_of_block HF53.out
    have hk63 : w1.heap.size < w6.heap.size := lt_of_block HF54.out
    have hk64 : W5.heap.size < w6.heap.size := lt_of_block HF55.out
    go_wp2_with (first
      | refine wpList_store_rowY rfl 85 (.tmp 4) (.tmp 49) rfl (w.heap.size) #[.string ⟨#[]⟩, .string ⟨#[]⟩, .string ⟨#[]⟩, .slice none 0 0, .slice none 0 0] rfl rfl 85 _ HF53.out (info_ed _ _ _ _ _) rfl (one_ed _ _ _ _ _ _ _ _ _) w.heap.size w HB56.out (by omega) ?_)
    intro W7 hbk hoth hbel _
    clear hc57 hc58 hc59 hc60 hc61
    have HF65 := Lib.hid hbk.out
    have HF66 := Lib.hid (blk_oth HF54.out hoth.out (by omega))
    have HF67 := Lib.hid (blk_oth HF55.out hoth.out (by omega))
    have HB68 := Lib.hid hbel.out
    clear hbk hoth hbel HB56  HF53 HF54 HF55
    go_wp2_with fail
    refine bodyPost_ret (results_ctY rfl _ _ (w.heap.size) #[.string ⟨#[]⟩, .string ⟨#[]⟩, .string ⟨#[]⟩, .slice none 0 0, .slice none 0 0] rfl (run_loadVar_row _ (w.heap.size) 85 85 _ (0, 0) _ HF65.out Try.underlying85 rfl (info_ed _ _ _ _ _))) rfl ?_
    exact Or.inr ⟨HNO.out, rfl, HB68.out⟩
end Go.Proofs.Ytbjngbacnkmjhaa
namespace Go.Proofs.Ytbjngbacnkmjhaa
open Go.RowKit Vi Zp

/-- a node, an edge, and what is said with it -/
def TkN (j : ByteArray) (l : List ByteArray) (ps : List Pr) (v : Value) (w : World) (e : Ending) (w' : World) : Prop :=
  ∃ A c A2 c2, e = .returned (.tuple #[.agg #[.string j, .slice A l.length c, .slice A2 ps.length c2], v]) ∧ LP w' A l.length l A2 ps.length ps ∧ Below w.heap.size w w'
def TkE (j f g : ByteArray) (l : List ByteArray) (ps : List Pr) (v : Value) (w : World) (e : Ending) (w' : World) : Prop :=
  ∃ A c A2 c2, e = .returned (.tuple #[.agg #[.string j, .string f, .string g, .slice A l.length c, .slice A2 ps.length c2], v]) ∧ LP w' A l.length l A2 ps.length ps ∧ Below w.heap.size w w'
theorem LP.nil (w : World) : LP w none 0 [] none 0 [] := ⟨⟨rfl, fun h => by omega⟩, RdX.nil⟩
theorem TakeN.yes {ok bad : Value} {i S : ByteArray} {w : World} {ss : List ByteArray} {ps : List Pr} (h : IsN i S ss ps) (e : Ending) (w' : World) (k : TakeN ok bad i S w e w') : TkN i ss ps ok w e w' := by
  rcases k with ⟨ss', ps', vL, vP, h1, h2, rfl, h4, h5⟩ | ⟨h1, _⟩
  · obtain ⟨rfl, rfl⟩ := h2 ss ps h
    obtain ⟨A, c, A2, c2, rfl, rfl, r, _⟩ := h4.lp
    exact ⟨A, c, A2, c2, rfl, r, h5⟩
  · exact absurd h (h1 _ _)
theorem TakeN.no {ok bad : Value} {i S : ByteArray} {w : World} (h : ∀ ss ps, ¬ IsN i S ss ps) (e : Ending) (w' : World) (k : TakeN ok bad i S w e w') : TkN ⟨#[]⟩ [] [] bad w e w' := by
  rcases k with ⟨ss', ps', vL, vP, h1, _⟩ | ⟨_, rfl, h3⟩
  · exact absurd h1 (h _ _)
  · exact ⟨none, 0, none, 0, rfl, LP.nil _, h3⟩
theorem TakeE.yes {ok bad : Value} {i S f g : ByteArray} {w : World} {ss : List ByteArray} {ps : List Pr} (h : IsE i S f g ss ps) (e : Ending) (w' : World) (k : TakeE ok bad i S w e w') : TkE i f g ss ps ok w e w' := by
  rcases k with ⟨f', g', ss', ps', vL, vP, h1, h2, rfl, h4, h5⟩ | ⟨h1, _⟩
  · obtain ⟨rfl, rfl, rfl, rfl⟩ := h2 f g ss ps h
    obtain ⟨A, c, A2, c2, rfl, rfl, r, _⟩ := h4.lp
    exact ⟨A, c, A2, c2, rfl, r, h5⟩
  · exact absurd h (h1 _ _ _ _)
theorem TakeE.no {ok bad : Value} {i S : ByteArray} {w : World} (h : ∀ f g ss ps, ¬ IsE i S f g ss ps) (e : Ending) (w' : World) (k : TakeE ok bad i S w e w') : TkE ⟨#[]⟩ ⟨#[]⟩ ⟨#[]⟩ [] [] bad w e w' := by
  rcases k with ⟨f', g', ss', ps', vL, vP, h1, _⟩ | ⟨_, rfl, h3⟩
  · exact absurd h1 (h _ _ _ _)
  · exact ⟨none, 0, none, 0, rfl, LP.nil _, h3⟩
theorem IsN.small {i S : ByteArray} {ss : List ByteArray} {ps : List Pr} (h : IsN i S ss ps) : ss.length ≤ 8 ∧ ps.length ≤ 8 := by
  have := rs_sm (nd_zero h.1).2 h.2.1
  exact ⟨this.l, this.pl⟩
theorem IsE.small {i S f g : ByteArray} {ss : List ByteArray} {ps : List Pr} (h : IsE i S f g ss ps) : ss.length ≤ 8 ∧ ps.length ≤ 8 := by
  have := rs_sm (ed_zero h.1).2.2.2 h.2.1
  exact ⟨this.l, this.pl⟩
/-- both sides take the same -/
theorem both_n (i S : ByteArray) (hi : i.size ≤ maxLen) (hS : S.size ≤ 999999) : ∃ (j : ByteArray) (l : List ByteArray) (ps : List Pr) (z : Int) (b : Bool), l.length ≤ 8 ∧ ps.length ≤ 8 ∧ ((z = 0 ∧ b = true) ∨ (z = 3 ∧ b = false)) ∧
    Hid (∀ W, Calls Try.prog 140 #[.string i, .string S] W (TkN j l ps (.int .i64 z) W)) ∧ Hid (∀ W, Calls Try.prog 50 #[.string i, .string S] W (TkN j l ps (.bool b) W)) := by
  by_cases h : ∃ ss ps, IsN i S ss ps
  · obtain ⟨ss, ps, h⟩ := h
    exact ⟨i, ss, ps, 0, true, h.small.1, h.small.2, Or.inl ⟨rfl, rfl⟩, Lib.hid fun W => (tnode_any i S W hi hS).mono (TakeN.yes h), Lib.hid fun W => (rtnode_any i S W hi hS).mono (TakeN.yes h)⟩
  · have h : ∀ ss ps, ¬ IsN i S ss ps := fun ss ps k => h ⟨ss, ps, k⟩
    exact ⟨_, [], [], 3, false, by simp, by simp, Or.inr ⟨rfl, rfl⟩, Lib.hid fun W => (tnode_any i S W hi hS).mono (TakeN.no h), Lib.hid fun W => (rtnode_any i S W hi hS).mono (TakeN.no h)⟩
theorem both_e (i S : ByteArray) (hi : i.size ≤ maxLen) (hS : S.size ≤ 999999) : ∃ (j f g : ByteArray) (l : List ByteArray) (ps : List Pr) (z : Int) (b : Bool), l.length ≤ 8 ∧ ps.length ≤ 8 ∧ ((z = 0 ∧ b = true) ∨ (z = 3 ∧ b = false)) ∧
    Hid (∀ W, Calls Try.prog 142 #[.string i, .string S] W (TkE j f g l ps (.int .i64 z) W)) ∧ Hid (∀ W, Calls Try.prog 51 #[.string i, .string S] W (TkE j f g l ps (.bool b) W)) := by
  by_cases h : ∃ f g ss ps, IsE i S f g ss ps
  · obtain ⟨f, g, ss, ps, h⟩ := h
    exact ⟨i, f, g, ss, ps, 0, true, h.small.1, h.small.2, Or.inl ⟨rfl, rfl⟩, Lib.hid fun W => (tedge_any i S W hi hS).mono (TakeE.yes h), Lib.hid fun W => (rtedge_any i S W hi hS).mono (TakeE.yes h)⟩
  · have h : ∀ f g ss ps, ¬ IsE i S f g ss ps := fun f g ss ps k => h ⟨f, g, ss, ps, k⟩
    exact ⟨_, _, _, [], [], 3, false, by simp, by simp, Or.inr ⟨rfl, rfl⟩, Lib.hid fun W => (tedge_any i S W hi hS).mono (TakeE.no h), Lib.hid fun W => (rtedge_any i S W hi hS).mono (TakeE.no h)⟩
end Go.Proofs.Ytbjngbacnkmjhaa
