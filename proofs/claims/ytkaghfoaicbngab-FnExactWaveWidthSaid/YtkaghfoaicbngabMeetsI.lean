/-
  CONTRACTS: a car that meets green at all plans: the program.
-/
import Derived.Test.YtkaghfoaicbngabG11
import Derived.Test.YtkaghfoaicbngabNextG
namespace Go.Proofs.Ytkaghfoaicbngab
open Go Go.ChangeShapes Go.WideShapes Go.ChangeAt Go.RowKit
set_option maxRecDepth 100000

set_option maxHeartbeats 400000 in
theorem meetsGreen_any (G : Nat) (gs : Nat → Nat) (ps : Ps) (T : TypeId) (H : Nat) (ts : List Int) (T4 : TypeId) (m : Nat) (hm : m < 8) (hW : ∀ i, i < ps.length → SlW (pS ps i)) (hok : ∀ k, k < ps.length → okP (pS ps k) (pB ps k) (pO ps k) = true) (hn : 1 ≤ ps.length ∧ ps.length ≤ 6) (ht : ts.length + 1 = ps.length) (hts : ∀ k, k < ts.length → 0 ≤ ith ts k ∧ ith ts k ≤ 100000) (t0 : Nat) (h0 : t0 ≤ 240) (w : World) (P0 : PB w G gs ps T) (H0 : At w H (il ts) T4) :
    Calls Try.prog 52 #[.slice (some ⟨G, 0, none⟩) ps.length ps.length, .slice (some ⟨H, 0, none⟩) ts.length ts.length, .int .i64 (m : Int), .int .i64 (t0 : Int)] w fun e w' => e = .returned (.bool (mtG ps ts m t0)) ∧ Below w.heap.size w w' := by
  unfold mtG
  have HX := Lib.hid (And.intro P0 (And.intro H0 (And.intro hW (And.intro hok hts))))
  obtain ⟨n, hnn⟩ : ∃ n, n = ps.length := ⟨_, rfl⟩
  obtain ⟨t, htt⟩ : ∃ t, t = ts.length := ⟨_, rfl⟩
  rw [← hnn] at hn ht
  rw [← hnn]
  rw [← htt] at ht ⊢
  have HN := Lib.hid hnn
  have HT := Lib.hid htt
  clear hnn htt hW P0 H0 hok hts
  go_enter Try.func52, Try.ntmps52
  go_wp2
  go_loopw [13, 3] (fun iv tv wr => ∃ (k : Nat) (u : Int), k ≤ n ∧ iv = .int .i64 (k : Int) ∧ tv = .int .i64 u ∧ (0 ≤ u ∧ u ≤ 240 + 100000 * k) ∧ Hid (u = t0 + sm ts (k - 1)) ∧ Hid (allK (mG ps ts m t0) k = true) ∧ Hid (Below w.heap.size w wr)) (fun iv _ _ => n - (intOf iv).toNat)
  case atStart => exact ⟨0, t0, by omega, rfl, rfl, ⟨by omega, by omega⟩, Lib.hid (by simp [sm]), Lib.hid rfl, Lib.hid (Below.refl _ _)⟩
  case round =>
    obtain ⟨k, u, hk, rfl, rfl, hub, hu, hall, B1⟩ := hrel
    by_cases hlt : k < n
    · have s2 : IntKind.i64.wrap ((k : Int) + 1) = (k : Int) + 1 := IntWalk.i64_in _ (by omega)
      have kd : (k : Int) < (n : Int) := by omega
      have hkl : k < ps.length := by rw [← HN.out]; exact hlt
      have hWk := HX.out.2.2.1 k hkl
      have P1 := HX.out.1.step B1.out
      have R1 := P1.row
      rw [← HN.out] at R1
      have S1 := P1.sl k hkl
      clear P1
      have hle : k * 3 + 3 ≤ (pvC (pvs gs ps n n)).size := by rw [pvC_size, pvs_len]; omega
      have hpl := pvC_at (l := pvs gs ps n n) (by rw [pvs_len]; exact hlt) (pvs_at hlt hlt) (rfl : k * 3 = k * 3)
      have N0 := At.new wr #[.slice none 0 0, .int .i64 0, .int .i64 0] 49
      have N1 := N0.setRow (plC (.slice (some ⟨gs k, 0, none⟩) (pS ps k).length (pS ps k).length) (pB ps k) (pO ps k))
      have S2 := (S1.alloc (.cells #[.slice none 0 0, .int .i64 0, .int .i64 0] 49)).setRow_other (k := wr.heap.size) (Nat.ne_of_lt S1.lt) (plC (.slice (some ⟨gs k, 0, none⟩) (pS ps k).length (pS ps k).length) (pB ps k) (pO ps k))
      have R2 := (R1.alloc (.cells #[.slice none 0 0, .int .i64 0, .int .i64 0] 49)).setRow_other (k := wr.heap.size) (Nat.ne_of_lt R1.lt) (plC (.slice (some ⟨gs k, 0, none⟩) (pS ps k).length (pS ps k).length) (pB ps k) (pO ps k))
      have B2 := Lib.hid (bset (bnew B1.out (.cells #[.slice none 0 0, .int .i64 0, .int .i64 0] 49)) (g := wr.heap.size) B1.out.size (plC (.slice (some ⟨gs k, 0, none⟩) (pS ps k).length (pS ps k).length) (pB ps k) (pO ps k)))
      by_cases k0 : 0 < k
      · have kd5 : (0 : Int) < (k : Int) := by omega
        obtain ⟨j, hj⟩ : ∃ j, j = k - 1 := ⟨_, rfl⟩
        have s7 : IntKind.i64.wrap ((k : Int) - 1) = (j : Int) := by rw [IntWalk.i64_in _ (by omega)]; omega
        have hkt : j < ts.length := by rw [← HT.out]; omega
        have hc := (((HX.out.2.1.step B1.out).alloc (.cells #[.slice none 0 0, .int .i64 0, .int .i64 0] 49)).setRow_other (k := wr.heap.size) (Nat.ne_of_lt (HX.out.2.1.step B1.out).lt) (plC (.slice (some ⟨gs k, 0, none⟩) (pS ps k).length (pS ps k).length) (pB ps k) (pO ps k))).cell (il_get (xs := ts) (k := j) hkt)
        have hx := HX.out.2.2.2.2 j hkt
        have kd7 : (j : Int) < (t : Int) := by omega
        have hr2 : u + ith ts j = t0 + sm ts k := by
          have h1 := hu.out
          rw [← hj] at h1
          have : sm ts (j + 1) = sm ts j + ith ts j := rfl
          rw [show j + 1 = k from by omega] at this
          omega
        have hu2 := Lib.hid hr2
        clear hr2
        generalize ith ts j = x at *
        clear hj hkt
        have s8 : IntKind.i64.wrap (u + x) = u + x := IntWalk.i64_in _ (by omega)
        have KN := hasGreen_any (gs k) (pS ps k) (pB ps k) (pO ps k) hWk 96 (HX.out.2.2.2.1 k hkl) m hm (u + x) (by omega) _ S2
        have hgk : gre (pB ps k) (pS ps k) m (((u + x) - pO ps k) % cyc (pS ps k) (pB ps k)).toNat = mG ps ts m t0 k := by
          unfold mG
          rw [hu2.out]
        rw [hgk] at KN
        have HK := Lib.hid hgk
        clear hgk
        have hv := Lib.hid (show ∀ (_ : mG ps ts m t0 k = false), allK (mG ps ts m t0) n = false from fun h => allK_no hlt h)
        have hy := Lib.hid (show ∀ (_ : mG ps ts m t0 k = true), allK (mG ps ts m t0) (k + 1) = true from fun h => allK_next hall.out h)
        generalize mG ps ts m t0 k = b at KN hv hy HK
        clear S1 R2 hkl hall
        go_wp2_with (first | ((with_reducible refine is_load 49 _ rfl ?_); refine wpList_load_part rfl 49 _ rfl _ (k * 3) rfl (pvC (pvs gs ps n n)) _ (by with_reducible assumption) 3 hle _ Try.underlying49 rfl (by kernel_rfl) (plC (.slice (some ⟨gs k, 0, none⟩) (pS ps k).length (pS ps k).length) (pB ps k) (pO ps k)) hpl ?_) | ((with_reducible refine is_store 49 _ _ rfl ?_); refine wpList_store_at rfl 49 _ _ rfl _ rfl (plC (.slice (some ⟨gs k, 0, none⟩) (pS ps k).length (pS ps k).length) (pB ps k) (pO ps k)) rfl (#[.slice none 0 0, .int .i64 0, .int .i64 0]) _ (by with_reducible assumption) 3 (plC_size _ _ _) rfl (by kernel_rfl) (pl_one _ (sl_one _ _ _) _ _) ?_) | ((with_reducible refine is_load 49 _ rfl ?_); refine wpList_load_at rfl 49 _ rfl _ rfl (plC (.slice (some ⟨gs k, 0, none⟩) (pS ps k).length (pS ps k).length) (pB ps k) (pO ps k)) _ (by with_reducible assumption) 3 (plC_size _ _ _) _ Try.underlying49 rfl (by kernel_rfl) ?_))
        refine KN.mono ?_
        rintro e w2 ⟨rfl, hb2⟩
        have B3 := Lib.hid (bthen B2.out hb2)
        clear KN hb2 B2 B1 N0 N1 R1 S2 HK
        cases b
        · have hv2 := Lib.hid (hv.out rfl)
          clear hv hy
          go_wp2_with fail
          go_ret
          exact ⟨by rw [hv2.out]; rfl, B3.out⟩
        · have hy2 := Lib.hid (hy.out rfl)
          clear hv hy
          go_wp2_with fail
          exact ⟨⟨k + 1, (u + x), by omega, by go_num, rfl, ⟨by omega, by omega⟩, hu2, hy2, B3⟩, by simp [intOf]; omega⟩
      · have kd5 : ¬ (0 : Int) < (k : Int) := by omega
        have hu2 := Lib.hid (show u = t0 + sm ts k from by rw [hu.out, show k - 1 = k from by omega])
        have k1 : (0 < k) = False := by simp; omega
        have KN := hasGreen_any (gs k) (pS ps k) (pB ps k) (pO ps k) hWk 96 (HX.out.2.2.2.1 k hkl) m hm u (by omega) _ S2
        have hgk : gre (pB ps k) (pS ps k) m ((u - pO ps k) % cyc (pS ps k) (pB ps k)).toNat = mG ps ts m t0 k := by
          unfold mG
          rw [hu2.out]
        rw [hgk] at KN
        have HK := Lib.hid hgk
        clear hgk
        have hv := Lib.hid (show ∀ (_ : mG ps ts m t0 k = false), allK (mG ps ts m t0) n = false from fun h => allK_no hlt h)
        have hy := Lib.hid (show ∀ (_ : mG ps ts m t0 k = true), allK (mG ps ts m t0) (k + 1) = true from fun h => allK_next hall.out h)
        generalize mG ps ts m t0 k = b at KN hv hy HK
        clear S1 R2 hkl hall
        go_wp2_with (first | ((with_reducible refine is_load 49 _ rfl ?_); refine wpList_load_part rfl 49 _ rfl _ (k * 3) rfl (pvC (pvs gs ps n n)) _ (by with_reducible assumption) 3 hle _ Try.underlying49 rfl (by kernel_rfl) (plC (.slice (some ⟨gs k, 0, none⟩) (pS ps k).length (pS ps k).length) (pB ps k) (pO ps k)) hpl ?_) | ((with_reducible refine is_store 49 _ _ rfl ?_); refine wpList_store_at rfl 49 _ _ rfl _ rfl (plC (.slice (some ⟨gs k, 0, none⟩) (pS ps k).length (pS ps k).length) (pB ps k) (pO ps k)) rfl (#[.slice none 0 0, .int .i64 0, .int .i64 0]) _ (by with_reducible assumption) 3 (plC_size _ _ _) rfl (by kernel_rfl) (pl_one _ (sl_one _ _ _) _ _) ?_) | ((with_reducible refine is_load 49 _ rfl ?_); refine wpList_load_at rfl 49 _ rfl _ rfl (plC (.slice (some ⟨gs k, 0, none⟩) (pS ps k).length (pS ps k).length) (pB ps k) (pO ps k)) _ (by with_reducible assumption) 3 (plC_size _ _ _) _ Try.underlying49 rfl (by kernel_rfl) ?_))
        refine KN.mono ?_
        rintro e w2 ⟨rfl, hb2⟩
        have B3 := Lib.hid (bthen B2.out hb2)
        clear KN hb2 B2 B1 N0 N1 R1 S2 HK
        cases b
        · have hv2 := Lib.hid (hv.out rfl)
          clear hv hy
          go_wp2_with fail
          go_ret
          exact ⟨by rw [hv2.out]; rfl, B3.out⟩
        · have hy2 := Lib.hid (hy.out rfl)
          clear hv hy
          go_wp2_with fail
          exact ⟨⟨k + 1, u, by omega, by go_num, rfl, ⟨by omega, by omega⟩, hu2, hy2, B3⟩, by simp [intOf]; omega⟩
    · obtain rfl : n = k := by omega
      have hv := Lib.hid (show allK (mG ps ts m t0) n = true from hall.out)
      go_wp2_with fail
      go_ret
      exact ⟨by rw [hv.out]; rfl, B1.out⟩

end Go.Proofs.Ytkaghfoaicbngab
