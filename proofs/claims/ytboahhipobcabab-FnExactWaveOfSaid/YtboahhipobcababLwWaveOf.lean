/-
  FnExactWaveOf: the program's WaveOf answers as its model, at every slice of plans, slice of times and movement; what it answers is its own. No condition.
-/
import Derived.Test.YtboahhipobcababG22
import Derived.Test.YtboahhipobcababG10
import Derived.Test.YtboahhipobcababPlTo
import Derived.Test.YtboahhipobcababInts
import Derived.Test.YtboahhipobcababShPls
import Derived.Test.YtboahhipobcababLawS
namespace Go.Proofs.Ytboahhipobcabab.lawFnExactWaveOf
open Go Go.ChangeShapes Go.WideShapes Go.ChangeAt Go.RowKit

theorem PSl.wfs {w : World} {v : Value} {ps : Ps} (h : PSl w v ps) : ∀ i, i < ps.length → SlW (pS ps i) ∧ (pS ps i).length ≤ maxLen := by
  rcases h.val with ⟨rfl, -⟩ | ⟨g, off, cap, -, -, hc⟩
  · intro i hi; simp at hi
  · intro i hi
    obtain ⟨a, c, hs, -⟩ := hc i hi
    exact ⟨hs.wf, hs.len⟩

set_option maxRecDepth 100000
set_option maxHeartbeats 4000000 in
theorem walk (w : World) (v0 : Value) (ps : Ps) (hF : PSl w v0 ps) (v1 : Value) (ts : List Int) (hE : ISl w v1 ts) (mv : Int) (_hm : -9223372036854775808 ≤ mv ∧ mv ≤ 9223372036854775807) :
    Calls Try.prog 3 #[v0, v1, .int .i64 mv] w (True? w) := by
  have K := szPlanS_any v0 ps 1048576 (by omega) w hF
  have hW : ∀ i, i < ps.length → SlW (pS ps i) := fun i hi => (PSl.wfs hF i hi).1
  have hL : ∀ i, i < ps.length → (pS ps i).length ≤ maxLen := fun i hi => (PSl.wfs hF i hi).2
  have hmn := hF.len
  have hmt := hE.len
  have hm2 : ts.length ≤ 9223372036854775807 := Nat.le_trans hmt (by decide)
  obtain ⟨a0, c0, rfl⟩ := hF.any
  obtain ⟨a1, c1, rfl⟩ := hE.any
  have HF := Lib.hid hF
  have HE := Lib.hid hE
  clear hF hE
  by_cases ht : ts.length ≤ 1048576
  · have hd1 : ¬ (1048576 : Int) < (ts.length : Int) := by omega
    by_cases hq : (1048576 : Int) < (ps.length : Int) + (psN ps ps.length : Int)
    · rw [szV_lt hq] at K
      clear HF HE hq
      generalize ts.length = nt at *
      generalize ps.length = np at *
      go_enter Try.func3, Try.ntmps3
      go_wp2_with fail
      refine K.mono ?_
      rintro e w1 ⟨rfl, hb1⟩
      go_wp2_with fail
      go_ret
      exact ⟨rfl, hb1⟩
    · rw [szV_ge hq] at K
      have hn : ps.length ≤ 1048576 := by omega
      have hN : psN ps ps.length ≤ 1048576 := by omega
      have hLL : ∀ k, k < ps.length → (pS ps k).length ≤ 1048576 := fun k hk => Nat.le_trans (psN_le hk) hN
      have hnn : ¬ (1048576 - ((ps.length : Int) + (psN ps ps.length : Int)) < 0) := by omega
      have KS := fun G gs H w (P0 : PB w G gs ps 41) (H0 : At w H (il ts) 2) => sWaveOf_any G gs ps 41 H ts 2 mv hW hn ht w P0 H0
      have KI := fun G gs H w (P0 : PB w G gs ps 41) (H0 : At w H (il ts) 2) => WaveOf_any G gs ps 41 H ts 2 mv hW hn ht w P0 H0
      have hQ := vWv_facts (ts := ts) (mv := mv) hW
      generalize vWv ps ts mv = qs at KS KI hQ
      generalize rowC ps ts mv = cd at KS KI
      have HQ := Lib.hid hQ
      have hq6' : qs.length ≤ 1048576 := by have := hQ.1; omega
      have hq8' : ∀ i, i < qs.length → (pS qs i).length ≤ 1048576 := fun i hi => by have := (hQ.2 i hi).2.2; omega
      have hmx : 1048576 ≤ maxLen := by unfold maxLen; omega
      have hq6 : qs.length ≤ maxLen := Nat.le_trans hq6' hmx
      have hq8 : ∀ i, i < qs.length → (pS qs i).length ≤ maxLen := fun i hi => Nat.le_trans (hq8' i hi) hmx
      clear hq hQ hmx
      go_enter Try.func3, Try.ntmps3
      go_wp2_with fail
      refine K.mono ?_
      rintro e w1 ⟨rfl, hb1⟩
      clear K
      have F1 := HF.out.step (Nat.le_refl _) hb1
      go_wp2_with fail
      refine (toPlanS_any _ ps _ F1 hn hN).mono ?_
      rintro e w2 ⟨rfl, ⟨gs, X2, Y2, -⟩, hb2⟩
      have P2 : PB w2 w1.heap.size gs ps 41 := ⟨X2, fun i hi => (Y2 i hi).1⟩
      have B2 := Lib.hid (bthen hb1 hb2)
      clear X2 Y2 hb1 hb2 F1
      generalize w1.heap.size = G at P2 ⊢
      go_wp2_with fail
      refine (toInt64S_any _ ts _ (HE.out.step (Nat.le_refl _) B2.out) ht).mono ?_
      rintro e w3 ⟨rfl, T3, hb3⟩
      have P3 := P2.step hb3
      have B3 := Lib.hid (bthen B2.out hb3)
      clear hb3 P2 B2
      generalize w2.heap.size = H at T3 ⊢
      go_wp2_with fail
      refine (KS _ _ _ _ P3 T3).mono ?_
      rintro e w4 ⟨⟨v1, l1, rfl, O1⟩, hb4⟩
      have B4 := Lib.hid (bthen B3.out hb4)
      have h4w := Lib.hid (show w.heap.size ≤ w4.heap.size from B4.out.size)
      have S1 := O1.psl (fun i hi => (HQ.out.2 i hi).1) hq8 hq6
      obtain ⟨a1', c1', rfl⟩ := S1.any
      have HS1 := Lib.hid S1
      clear hb4 B3 P3 T3 KS O1 S1
      go_wp2_with fail
      refine (toPlanS_any _ ps _ (HF.out.step (Nat.le_refl _) B4.out) hn hN).mono ?_
      rintro e w5 ⟨rfl, ⟨gs5, X5, Y5, hgd⟩, hb5⟩
      have P5 : PB w5 w4.heap.size gs5 ps 41 := ⟨X5, fun i hi => (Y5 i hi).1⟩
      have HG5 := Lib.hid (And.intro hgd (And.intro (show w4.heap.size < w5.heap.size from X5.lt) (fun i hi => And.intro (Y5 i hi).2 (Y5 i hi).1.lt)))
      have B5 := Lib.hid (bthen B4.out hb5)
      have C5 := Lib.hid hb5
      clear X5 Y5 hb5 B4 hgd
      go_wp2_with fail
      refine (toInt64S_any _ ts _ (HE.out.step (Nat.le_refl _) B5.out) ht).mono ?_
      rintro e w6 ⟨rfl, T6, hb6⟩
      have P6 := P5.step hb6
      have B6 := Lib.hid (bthen B5.out hb6)
      have C6 := Lib.hid (bthen C5.out hb6)
      have h56 := Lib.hid (show w5.heap.size < w6.heap.size from T6.lt)
      clear hb6 P5 B5 C5
      go_wp2_with fail
      refine (KI _ _ _ _ P6 T6).mono ?_
      rintro e w7 ⟨⟨v2, l2, rfl, O2⟩, hb7⟩
      have P7 := P6.step hb7
      have T7 := T6.step hb7
      have B7 := Lib.hid (bthen B6.out hb7)
      have C7 := Lib.hid (bthen C6.out hb7)
      obtain ⟨a2', c2', rfl⟩ := (O2.psl (fun i hi => (HQ.out.2 i hi).1) hq8 hq6).any
      have KI2 := Lib.hid KI
      clear hb7 P6 T6 B6 C6 KI
      go_wp2_with fail
      refine (eqPlanS_st _ _ qs hq6' hq8' _ (O2.psl (fun i hi => (HQ.out.2 i hi).1) hq8 hq6) (HS1.out.step (Nat.le_refl _) C7.out)).mono ?_
      rintro e w8 ⟨rfl, hb8⟩
      replace P7 := P7.step hb8
      replace T7 := T7.step hb8
      replace O2 := O2.step hb8
      replace B7 := Lib.hid (bthen B7.out hb8)
      replace C7 := Lib.hid (bthen C7.out hb8)
      clear hb8
      go_wp2_with fail
      refine (toPlanS_any _ ps _ (HF.out.step (Nat.le_refl _) B7.out) hn hN).mono ?_
      rintro e w9 ⟨rfl, ⟨gs8, X8, Y8, -⟩, hb9⟩
      replace P7 := P7.step hb9
      replace T7 := T7.step hb9
      replace O2 := O2.step hb9
      have E8 : PB w9 w8.heap.size gs8 ps 41 := ⟨X8, fun i hi => (Y8 i hi).1⟩
      replace B7 := Lib.hid (bthen B7.out hb9)
      replace C7 := Lib.hid (bthen C7.out hb9)
      clear X8 Y8 hb9
      generalize w8.heap.size = G8 at E8 ⊢
      have S3 := PSl.of_at (cap := ps.length) P7.row P7.sl hW hL hmn
      have S4 := PSl.of_at (cap := ps.length) E8.row E8.sl hW hL hmn
      clear E8
      go_wp2_with fail
      refine (eqPlanS_st _ _ ps hn hLL _ S3 S4).mono ?_
      rintro e w10 ⟨rfl, hb10⟩
      replace P7 := P7.step hb10
      replace T7 := T7.step hb10
      replace O2 := O2.step hb10
      replace B7 := Lib.hid (bthen B7.out hb10)
      replace C7 := Lib.hid (bthen C7.out hb10)
      clear hb10 S3 S4
      go_wp2_with fail
      refine (toInt64S_any _ ts _ (HE.out.step (Nat.le_refl _) B7.out) ht).mono ?_
      rintro e w11 ⟨rfl, T10, hb11⟩
      replace P7 := P7.step hb11
      replace T7 := T7.step hb11
      replace O2 := O2.step hb11
      replace B7 := Lib.hid (bthen B7.out hb11)
      replace C7 := Lib.hid (bthen C7.out hb11)
      clear hb11
      go_wp2_with fail
      refine (eqInt64S_same _ _ ts ht _ _ _ T7 T10).mono ?_
      rintro e w12 ⟨rfl, hb12⟩
      replace P7 := P7.step hb12
      replace T7 := T7.step hb12
      replace O2 := O2.step hb12
      replace B7 := Lib.hid (bthen B7.out hb12)
      replace C7 := Lib.hid (bthen C7.out hb12)
      clear hb12 T10
      have hSa : sN (fun i => (pS ps i).length) ps.length ≤ 100000000 := by rw [sN_psN]; omega
      go_wp2_with fail
      refine (markPlanS_held _ ps.length ps.length gs5 _ _ _ hn hLL hSa w4.heap.size w5.heap.size ⟨Nat.le_refl _, fun i hi => Nat.le_of_lt (HG5.out.2.2 i hi).1⟩ ⟨HG5.out.2.1, fun i hi => (HG5.out.2.2 i hi).2⟩ w12 (P7.mp hW HG5.out.1)).mono ?_
      rintro e w13 ⟨rfl, hb13, hs13, hsame, -⟩
      have r56 := h56.out
      have r45 := HG5.out.2.1
      replace T7 : At w13 w5.heap.size (il ts) 2 := (hsame _ (Nat.le_refl _)).trans T7
      replace O2 := O2.keep2 (w' := w13) (fun k hk => hsame k (by omega))
      replace B7 := Lib.hid (B7.out.trans (hb13.mono h4w.out))
      replace C7 := Lib.hid (C7.out.trans hb13)
      have r4 := h4w.out
      clear hb13 hs13 hsame P7
      generalize sN (fun i => (pS ps i).length) ps.length = M0 at hSa ⊢
      go_wp2_with fail
      refine (markInt64S_any _ ts.length ts.length (M0 : Int) ⟨by omega, by omega⟩ (il ts) 2 ht (by rw [il_size]; exact Nat.le_refl _) w13 T7).mono ?_
      rintro e w14 ⟨rfl, cI, hw14⟩
      replace O2 := O2.keep2 (w' := w14) (fun k hk => by rw [hw14]; exact heap_setRow_other _ _ _ _ (by omega))
      replace B7 : Hid (Below w.heap.size w w14) := Lib.hid (by rw [hw14]; exact bset B7.out (by omega) cI)
      replace C7 : Hid (Below w4.heap.size w4 w14) := Lib.hid (by rw [hw14]; exact bset C7.out (by omega) cI)
      have hneg : ¬ ((M0 : Int) + (ts.length : Int) < 0) := by omega
      clear hw14 T7
      generalize (M0 : Int) + (ts.length : Int) = M1 at hneg ⊢
      go_wp2_with fail
      refine (eqPlanS_st _ _ qs hq6' hq8' _ (O2.psl (fun i hi => (HQ.out.2 i hi).1) hq8 hq6) (HS1.out.step (Nat.le_refl _) C7.out)).mono ?_
      rintro e w15 ⟨rfl, hb15⟩
      replace O2 := O2.step hb15
      replace B7 := Lib.hid (bthen B7.out hb15)
      replace C7 := Lib.hid (bthen C7.out hb15)
      clear hb15
      obtain ⟨M, hM0, KM⟩ := O2.marks HQ.out.1 (fun i hi => (HQ.out.2 i hi).2)
      have hM0' : ¬ M < 0 := by omega
      go_wp2_with fail
      refine KM.mono ?_
      rintro e w16 ⟨rfl, hb16, hs16, KH⟩
      replace B7 := Lib.hid (B7.out.trans (hb16.mono (by omega)))
      replace C7 := Lib.hid (C7.out.trans (hb16.mono (by omega)))
      have D := Lib.hid (Below.refl w16.heap.size w16)
      have HKH := Lib.hid KH
      clear hb16 hs16 KM O2 KH r4 r45 r56 HG5
      go_wp2_with fail
      refine (HKH.out w16 (Below.refl _ _)).mono ?_
      rintro e w17 ⟨rfl, rfl⟩
      go_wp2_with fail
      refine (toPlanS_any _ ps _ (HF.out.step (Nat.le_refl _) B7.out) hn hN).mono ?_
      rintro e w18 ⟨rfl, ⟨gs9, X9, Y9, -⟩, hb18⟩
      have P9 : PB w18 w17.heap.size gs9 ps 41 := ⟨X9, fun i hi => (Y9 i hi).1⟩
      replace B7 := Lib.hid (bthen B7.out hb18)
      replace C7 := Lib.hid (bthen C7.out hb18)
      replace D := Lib.hid (bthen D.out hb18)
      clear X9 Y9 hb18
      go_wp2_with fail
      refine (toInt64S_any _ ts _ (HE.out.step (Nat.le_refl _) B7.out) ht).mono ?_
      rintro e w19 ⟨rfl, T9, hb19⟩
      replace P9 := P9.step hb19
      replace B7 := Lib.hid (bthen B7.out hb19)
      replace C7 := Lib.hid (bthen C7.out hb19)
      replace D := Lib.hid (bthen D.out hb19)
      clear hb19
      go_wp2_with fail
      refine (KI2.out _ _ _ _ P9 T9).mono ?_
      rintro e w20 ⟨⟨v3, l3, rfl, O3⟩, hb20⟩
      replace B7 := Lib.hid (bthen B7.out hb20)
      replace C7 := Lib.hid (bthen C7.out hb20)
      replace D := Lib.hid (bthen D.out hb20)
      have S5 := O3.psl (fun i hi => (HQ.out.2 i hi).1) hq8 hq6
      obtain ⟨a3', c3', rfl⟩ := S5.any
      clear hb20 P9 T9 O3
      go_wp2_with fail
      refine (eqPlanS_st _ _ qs hq6' hq8' _ S5 (HS1.out.step (Nat.le_refl _) C7.out)).mono ?_
      rintro e w21 ⟨rfl, hb21⟩
      replace B7 := Lib.hid (bthen B7.out hb21)
      replace D := Lib.hid (bthen D.out hb21)
      clear hb21 S5 C7
      go_wp2_with fail
      refine (HKH.out w21 D.out).mono ?_
      rintro e w22 ⟨rfl, rfl⟩
      go_wp2_with fail
      go_ret
      exact ⟨rfl, B7.out⟩
  · have hd1 : (1048576 : Int) < (ts.length : Int) := by omega
    clear HF HE K hW hL
    generalize ts.length = nt at *
    generalize ps.length = np at *
    go_enter Try.func3, Try.ntmps3
    go_wp2_with fail
    go_ret
    exact ⟨rfl, Below.refl _ _⟩

set_option maxRecDepth 100000 in
theorem lifted (os : Os) (started : os.Started) (H : Type) (enc : TypeId × Value → H) :
    ReturnsInHanded {} Try.checked os 3 .any (Rows.fnExactWaveOfSpec.pre6 enc Try.prog Try.f3 Rows.fnExactWaveOfRow.domain false) (Rows.fnExactWaveOfSpec.post enc Try.prog Try.f3 false true false false) := by
  refine law_liftedS enc os started (by kernel_rfl) Try.func3
    (ChangeSpec.witness6 (enc := enc) (C := Try.checked) false ⟨#[], #[.slice none 0 0, .slice none 0 0, .int .i64 0], []⟩ 24 (by kernel_rfl) (by kernel_rfl) (by kernel_rfl) (by kernel_rfl)) rfl (by kernel_rfl) ?_ ?_ ?_
  · rw [Try.params3]
    intro t ht
    have hall : (#[22, 23, 2].toList.all fun u => Try.prog.readableRec u && decide (u < Try.prog.types.size)) = true := by kernel_rfl
    have := List.all_eq_true.1 hall t ht
    simpa using this
  · intro ds h
    rw [Try.params3] at h
    match ds, h with
    | [d0, d1, d2], _ => rfl
  · intro W base args ds ps hl hval hA
    rw [Try.params3] at hl hval hA
    obtain ⟨v0, v1, v2, rfl⟩ : ∃ v0 v1 v2, args = #[v0, v1, v2] := by
      obtain ⟨l⟩ := args
      match l, hl with
      | [v0, v1, v2], _ => exact ⟨v0, v1, v2, rfl⟩
    obtain ⟨vx0, vy0, dd0, de0, pp0, pq0, ee0, -, -, tr0, rr0⟩ := trodAll_cons hA
    obtain ⟨rfl, rfl⟩ := List.cons.inj ee0
    obtain ⟨vx1, vy1, dd1, de1, pp1, pq1, ee1, -, -, tr1, rr1⟩ := trodAll_cons rr0
    obtain ⟨rfl, rfl⟩ := List.cons.inj ee1
    obtain ⟨vx2, vy2, dd2, de2, pp2, pq2, ee2, -, -, tr2, rr2⟩ := trodAll_cons rr1
    obtain ⟨rfl, rfl⟩ := List.cons.inj ee2
    obtain ⟨x0, h0⟩ := shape_plans (okWide_slice Try.underlying22 (hval 0 _ _ rfl rfl)) tr0
    obtain ⟨x1, h1⟩ := shape_i64s Try.underlying23 Try.underlying2 (by kernel_rfl) (okWide_slice Try.underlying23 (hval 1 _ _ rfl rfl)) tr1
    obtain ⟨x2, rfl, h2⟩ := shape_i64 (hval 2 _ _ rfl rfl)
    exact walk W v0 x0 h0 v1 x1 h1 x2 h2

/-- THE STATEMENT -/
theorem proved : Rows.FnExactWaveOfSaid := by
  first
    | (refine OpenClaim.holds_of_wide 3 Try.f3 rfl rfl rfl rfl rfl rfl rfl ⟨rfl, rfl, rfl, rfl, rfl⟩ rfl rfl rfl rfl rfl (by kernel_rfl) Try.func3 (by kernel_rfl) (of_decide_eq_true (by kernel_rfl)) ?_ (fun os started H enc _ => lifted os started H enc))
    | (refine OpenClaim.holds_of_wide_leaving 3 Try.f3 rfl rfl rfl rfl rfl rfl rfl ⟨rfl, rfl, rfl, rfl, rfl⟩ rfl rfl rfl rfl rfl (by kernel_rfl) Try.func3 (by kernel_rfl) (of_decide_eq_true (by kernel_rfl)) ?_ (fun os started H enc _ => leaving_of_handed (lifted os started H enc)))
  unfold Func.isWrapper
  first | (rw [if_pos (by decide +kernel)]; kernel_rfl) | (rw [if_neg (by decide +kernel)]; exact ⟨rfl, rfl⟩)
#print axioms proved
end Go.Proofs.Ytboahhipobcabab.lawFnExactWaveOf
