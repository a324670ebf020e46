/-
  FnExactWaveWidth: the program's WaveWidth answers as its model, at every slice of plans, slice of times and movement. No condition.
-/
import Derived.Test.YtkaghfoaicbngabWideI
import Derived.Test.YtkaghfoaicbngabWideS
import Derived.Test.YtkaghfoaicbngabG13
import Derived.Test.YtkaghfoaicbngabPlTo
import Derived.Test.YtkaghfoaicbngabInts
import Derived.Test.YtkaghfoaicbngabShPls
import Derived.Test.YtkaghfoaicbngabLawS
namespace Go.Proofs.Ytkaghfoaicbngab.lawFnExactWaveWidth
open Go Go.ChangeShapes Go.WideShapes Go.ChangeAt Go.RowKit

theorem PSl.wfs {w : World} {v : Value} {ps : Ps} (h : PSl w v ps) : ∀ i, i < ps.length → SlW (pS ps i) ∧ (pS ps i).length ≤ maxLen := by
  rcases h.val with ⟨rfl, -⟩ | ⟨g, off, cap, -, -, hc⟩
  · intro i hi; simp at hi
  · intro i hi
    obtain ⟨a, c, hs, -⟩ := hc i hi
    exact ⟨hs.wf, hs.len⟩

set_option maxRecDepth 100000
set_option maxHeartbeats 2000000 in
theorem walk (w : World) (v0 : Value) (ps : Ps) (hF : PSl w v0 ps) (v1 : Value) (ts : List Int) (hE : ISl w v1 ts) (mv : Int) (_hm : -9223372036854775808 ≤ mv ∧ mv ≤ 9223372036854775807) :
    Calls Try.prog 4 #[v0, v1, .int .i64 mv] w (True? w) := by
  have K := szPlanS_any v0 ps 1048576 (by omega) w hF
  have hW : ∀ i, i < ps.length → SlW (pS ps i) := fun i hi => (PSl.wfs hF i hi).1
  have hL : ∀ i, i < ps.length → (pS ps i).length ≤ maxLen := fun i hi => (PSl.wfs hF i hi).2
  have hmn := hF.len
  have hmt := hE.len
  have hm2 : ts.length ≤ 9223372036854775807 := Nat.le_trans hmt (by decide)
  obtain ⟨a0, c0, rfl⟩ := hF.any
  obtain ⟨a1, c1, rfl⟩ := hE.any
  have HF := Lib.hid hF
  have HE := Lib.hid hE
  clear hF hE
  by_cases ht : ts.length ≤ 1048576
  · have hd1 : ¬ (1048576 : Int) < (ts.length : Int) := by omega
    by_cases hq : (1048576 : Int) < (ps.length : Int) + (psN ps ps.length : Int)
    · rw [szV_lt hq] at K
      clear HF HE hq
      generalize ts.length = nt at *
      generalize ps.length = np at *
      go_enter Try.func4, Try.ntmps4
      go_wp2_with fail
      refine K.mono ?_
      rintro e w1 ⟨rfl, hb1⟩
      go_wp2_with fail
      go_ret
      exact ⟨rfl, hb1⟩
    · rw [szV_ge hq] at K
      have hn : ps.length ≤ 1048576 := by omega
      have hN : psN ps ps.length ≤ 1048576 := by omega
      have hLL : ∀ k, k < ps.length → (pS ps k).length ≤ 1048576 := fun k hk => Nat.le_trans (psN_le hk) hN
      have hnn : ¬ (1048576 - ((ps.length : Int) + (psN ps ps.length : Int)) < 0) := by omega
      have KS := fun G gs H w (P0 : PB w G gs ps 49) (H0 : At w H (il ts) 2) => sWaveWidth_any G gs ps 49 H ts 2 mv hW hn ht w P0 H0
      have KI := fun G gs H w (P0 : PB w G gs ps 49) (H0 : At w H (il ts) 2) => WaveWidth_any G gs ps 49 H ts 2 mv hW hn ht w P0 H0
      generalize vWid ps ts mv = q at KS KI
      obtain ⟨u, cd⟩ := q
      simp only at KS KI
      clear hq
      go_enter Try.func4, Try.ntmps4
      go_wp2_with fail
      refine K.mono ?_
      rintro e w1 ⟨rfl, hb1⟩
      clear K
      have F1 := HF.out.step (Nat.le_refl _) hb1
      go_wp2_with fail
      refine (toPlanS_any _ ps _ F1 hn hN).mono ?_
      rintro e w2 ⟨rfl, ⟨gs, X2, Y2, -⟩, hb2⟩
      have P2 : PB w2 w1.heap.size gs ps 49 := ⟨X2, fun i hi => (Y2 i hi).1⟩
      have B2 := Lib.hid (bthen hb1 hb2)
      clear X2 Y2 hb1 hb2 F1
      generalize w1.heap.size = G at P2 ⊢
      go_wp2_with fail
      refine (toInt64S_any _ ts _ (HE.out.step (Nat.le_refl _) B2.out) ht).mono ?_
      rintro e w3 ⟨rfl, T3, hb3⟩
      have P3 := P2.step hb3
      have B3 := Lib.hid (bthen B2.out hb3)
      clear hb3 P2 B2
      generalize w2.heap.size = H at T3 ⊢
      go_wp2_with fail
      refine (KS _ _ _ _ P3 T3).mono ?_
      rintro e w4 ⟨rfl, hb4⟩
      have B4 := Lib.hid (bthen B3.out hb4)
      clear hb4 B3 P3 T3 KS
      go_wp2_with fail
      refine (toPlanS_any _ ps _ (HF.out.step (Nat.le_refl _) B4.out) hn hN).mono ?_
      rintro e w5 ⟨rfl, ⟨gs5, X5, Y5, -⟩, hb5⟩
      have P5 : PB w5 w4.heap.size gs5 ps 49 := ⟨X5, fun i hi => (Y5 i hi).1⟩
      have B5 := Lib.hid (bthen B4.out hb5)
      clear X5 Y5 hb5 B4
      generalize w4.heap.size = G5 at P5 ⊢
      go_wp2_with fail
      refine (toInt64S_any _ ts _ (HE.out.step (Nat.le_refl _) B5.out) ht).mono ?_
      rintro e w6 ⟨rfl, T6, hb6⟩
      have P6 := P5.step hb6
      have B6 := Lib.hid (bthen B5.out hb6)
      clear hb6 P5 B5
      generalize w5.heap.size = H6 at T6 ⊢
      go_wp2_with fail
      refine (KI _ _ _ _ P6 T6).mono ?_
      rintro e w7 ⟨rfl, hb7⟩
      have P7 := P6.step hb7
      have T7 := T6.step hb7
      have B7 := Lib.hid (bthen B6.out hb7)
      clear hb7 P6 T6 B6 KI
      go_wp2_with fail
      refine (toPlanS_any _ ps _ (HF.out.step (Nat.le_refl _) B7.out) hn hN).mono ?_
      rintro e w8 ⟨rfl, ⟨gs8, X8, Y8, -⟩, hb8⟩
      have P8 := P7.step hb8
      have T8 := T7.step hb8
      have E8 : PB w8 w7.heap.size gs8 ps 49 := ⟨X8, fun i hi => (Y8 i hi).1⟩
      have B8 := Lib.hid (bthen B7.out hb8)
      clear X8 Y8 hb8 P7 T7 B7
      generalize w7.heap.size = G8 at E8 ⊢
      have S1 := PSl.of_at (cap := ps.length) P8.row P8.sl hW hL hmn
      have S2 := PSl.of_at (cap := ps.length) E8.row E8.sl hW hL hmn
      clear P8 E8
      go_wp2_with fail
      refine (eqPlanS_st _ _ ps hn hLL _ S1 S2).mono ?_
      rintro e w9 ⟨rfl, hb9⟩
      have T9 := T8.step hb9
      have B9 := Lib.hid (bthen B8.out hb9)
      clear hb9 T8 B8 S1 S2
      go_wp2_with fail
      refine (toInt64S_any _ ts _ (HE.out.step (Nat.le_refl _) B9.out) ht).mono ?_
      rintro e w10 ⟨rfl, T10, hb10⟩
      have U10 := T9.step hb10
      have B10 := Lib.hid (bthen B9.out hb10)
      clear hb10 B9 T9
      go_wp2_with fail
      refine (eqInt64S_same _ _ ts ht _ _ _ U10 T10).mono ?_
      rintro e w11 ⟨rfl, hb11⟩
      go_wp2_with fail
      go_ret
      exact ⟨rfl, bthen B10.out hb11⟩
  · have hd1 : (1048576 : Int) < (ts.length : Int) := by omega
    clear HF HE K hW hL
    generalize ts.length = nt at *
    generalize ps.length = np at *
    go_enter Try.func4, Try.ntmps4
    go_wp2_with fail
    go_ret
    exact ⟨rfl, Below.refl _ _⟩

set_option maxRecDepth 100000 in
theorem lifted (os : Os) (started : os.Started) (H : Type) (enc : TypeId × Value → H) :
    ReturnsInHanded {} Try.checked os 4 .any (Rows.fnExactWaveWidthSpec.pre6 enc Try.prog Try.f4 Rows.fnExactWaveWidthRow.domain false) (Rows.fnExactWaveWidthSpec.post enc Try.prog Try.f4 false true false false) := by
  refine law_liftedS enc os started (by kernel_rfl) Try.func4
    (ChangeSpec.witness6 (enc := enc) (C := Try.checked) false ⟨#[], #[.slice none 0 0, .slice none 0 0, .int .i64 0], []⟩ 24 (by kernel_rfl) (by kernel_rfl) (by kernel_rfl) (by kernel_rfl)) rfl (by kernel_rfl) ?_ ?_ ?_
  · rw [Try.params4]
    intro t ht
    have hall : (#[22, 23, 2].toList.all fun u => Try.prog.readableRec u && decide (u < Try.prog.types.size)) = true := by kernel_rfl
    have := List.all_eq_true.1 hall t ht
    simpa using this
  · intro ds h
    rw [Try.params4] at h
    match ds, h with
    | [d0, d1, d2], _ => rfl
  · intro W base args ds ps hl hval hA
    rw [Try.params4] at hl hval hA
    obtain ⟨v0, v1, v2, rfl⟩ : ∃ v0 v1 v2, args = #[v0, v1, v2] := by
      obtain ⟨l⟩ := args
      match l, hl with
      | [v0, v1, v2], _ => exact ⟨v0, v1, v2, rfl⟩
    obtain ⟨vx0, vy0, dd0, de0, pp0, pq0, ee0, -, -, tr0, rr0⟩ := trodAll_cons hA
    obtain ⟨rfl, rfl⟩ := List.cons.inj ee0
    obtain ⟨vx1, vy1, dd1, de1, pp1, pq1, ee1, -, -, tr1, rr1⟩ := trodAll_cons rr0
    obtain ⟨rfl, rfl⟩ := List.cons.inj ee1
    obtain ⟨vx2, vy2, dd2, de2, pp2, pq2, ee2, -, -, tr2, rr2⟩ := trodAll_cons rr1
    obtain ⟨rfl, rfl⟩ := List.cons.inj ee2
    obtain ⟨x0, h0⟩ := shape_plans (okWide_slice Try.underlying22 (hval 0 _ _ rfl rfl)) tr0
    obtain ⟨x1, h1⟩ := shape_i64s Try.underlying23 Try.underlying2 (by kernel_rfl) (okWide_slice Try.underlying23 (hval 1 _ _ rfl rfl)) tr1
    obtain ⟨x2, rfl, h2⟩ := shape_i64 (hval 2 _ _ rfl rfl)
    exact walk W v0 x0 h0 v1 x1 h1 x2 h2

/-- THE STATEMENT -/
theorem proved : Rows.FnExactWaveWidthSaid := by
  first
    | (refine OpenClaim.holds_of_wide 4 Try.f4 rfl rfl rfl rfl rfl rfl rfl ⟨rfl, rfl, rfl, rfl, rfl⟩ rfl rfl rfl rfl rfl (by kernel_rfl) Try.func4 (by kernel_rfl) (of_decide_eq_true (by kernel_rfl)) ?_ (fun os started H enc _ => lifted os started H enc))
    | (refine OpenClaim.holds_of_wide_leaving 4 Try.f4 rfl rfl rfl rfl rfl rfl rfl ⟨rfl, rfl, rfl, rfl, rfl⟩ rfl rfl rfl rfl rfl (by kernel_rfl) Try.func4 (by kernel_rfl) (of_decide_eq_true (by kernel_rfl)) ?_ (fun os started H enc _ => leaving_of_handed (lifted os started H enc)))
  unfold Func.isWrapper
  first | (rw [if_pos (by decide +kernel)]; kernel_rfl) | (rw [if_neg (by decide +kernel)]; exact ⟨rfl, rfl⟩)
#print axioms proved
end Go.Proofs.Ytkaghfoaicbngab.lawFnExactWaveWidth
