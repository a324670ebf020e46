/-
  CONTRACTS: two lists of tallies joined, as the program has it.
-/
import Derived.Test.YtlffcpoooaoneaaJoined
import Derived.BigQuiet
namespace Go.Proofs.Ytlffcpoooaoneaa
open Go Go.ChangeShapes Go.WideShapes Go.ChangeAt Go.RowKit
set_option maxRecDepth 100000

set_option maxHeartbeats 2000000 in
theorem JoinTallies_any (G : Nat) (xs : Ts) (hW : TW xs) (hn : xs.length ≤ 1048576) (T : TypeId) (G2 : Nat) (ys : Ts) (hW2 : TW ys) (hn2 : ys.length ≤ 1048576) (T2 : TypeId) (w : World) (h0 : At w G (tC xs) T) (h02 : At w G2 (tC ys) T2) :
    Calls Try.prog 18 #[.slice (some ⟨G, 0, none⟩) xs.length xs.length, .slice (some ⟨G2, 0, none⟩) ys.length ys.length] w fun e w' => TR w w' (vJoin xs ys).1 (vJoin xs ys).2 e := by
  have KV := ValidTallies_any G xs xs.length hW hn T w h0
  have KV2 := ValidTallies_any G2 ys ys.length hW2 hn2 T2
  cases h : okT xs
  · rw [vJoin_1a h]
    rw [h] at KV
    generalize xs.length = n at KV
    generalize ys.length = n2 at KV2
    go_enter Try.func18, Try.ntmps18
    go_wp2_with fail
    refine (KV).mono ?_
    rintro e w1 ⟨rfl, hb1⟩
    go_wp2_with fail
    go_ret2
    exact ⟨⟨_, rfl, OwnT.nil _ _⟩, hb1⟩
  · rw [h] at KV
    cases h' : okT ys
    · rw [vJoin_1b h']
      rw [h'] at KV2
      generalize xs.length = n at KV
      generalize ys.length = n2 at KV2
      go_enter Try.func18, Try.ntmps18
      go_wp2_with fail
      refine (KV).mono ?_
      rintro e w1 ⟨rfl, hb1⟩
      go_wp2_with fail
      refine (KV2 w1 (h02.step hb1)).mono ?_
      rintro e w2 ⟨rfl, hb2⟩
      have hb2 := bthen hb1 hb2
      go_wp2_with fail
      go_ret2
      exact ⟨⟨_, rfl, OwnT.nil _ _⟩, hb2⟩
    · rw [h'] at KV2
      have h96 := okT_len h
      have h96' := okT_len h'
      have HX := Lib.hid h0
      have HY := Lib.hid h02
      have HV := Lib.hid (And.intro (vJoin_0 h h') (vJoin_3 h h'))
      have HG := Lib.hid (show ∀ q, w.heap.size ≤ q → q ≠ G ∧ q ≠ G2 from fun q hq => by have := h0.lt; have := h02.lt; omega)
      have HJ := Lib.hid (show (join xs ys).length ≤ 192 from Nat.le_trans (join_len xs ys) (by omega))
      obtain ⟨vj, hvj⟩ : ∃ vj, vj = vJoin xs ys := ⟨_, rfl⟩
      rw [← hvj] at HV ⊢
      obtain ⟨n, hnn⟩ : ∃ n, n = xs.length := ⟨_, rfl⟩
      obtain ⟨n2, hnn2⟩ : ∃ n2, n2 = ys.length := ⟨_, rfl⟩
      rw [← hnn] at h96 KV ⊢
      rw [← hnn2] at h96' KV2 ⊢
      have HN := Lib.hid hnn
      have HN2 := Lib.hid hnn2
      clear hnn hnn2 hvj h0 h h' hn hn2 hW hW2
      go_enter Try.func18, Try.ntmps18
      go_wp2_with fail
      refine (KV).mono ?_
      rintro e w1 ⟨rfl, hb1⟩
      go_wp2_with fail
      refine (KV2 w1 (HY.out.step hb1)).mono ?_
      rintro e w2 ⟨rfl, hb2⟩
      have hb2 := bthen hb1 hb2
      have A1 := HX.out.step hb2
      have C1 := HY.out.step hb2
      have B1 := Lib.hid hb2
      clear hb1 hb2 KV KV2
      have KJ := joined_any G xs T G2 ys T2 (by rw [← HN.out]; exact h96) (by rw [← HN2.out]; exact h96') w2 A1 C1
      rw [← HN.out, ← HN2.out] at KJ
      clear A1 C1
      go_wp2_with fail
      refine KJ.mono ?_
      rintro e w3 ⟨⟨v, rfl, O3⟩, hb3⟩
      have B3 := Lib.hid (bthen B1.out hb3)
      have O3 := O3.low B1.out.size
      clear hb3 KJ B1
      generalize hL : join xs ys = L at *
      have hLl := HJ.out
      obtain ⟨va, vc, rfl⟩ := O3.any
      by_cases q : L.length ≤ 96
      · have q' : ¬ (96 : Int) < (L.length : Int) := by omega
        have hv := Lib.hid (HV.out.1 q)
        go_wp2_with fail
        go_ret2
        exact ⟨⟨_, by rw [hv.out]; rfl, by rw [hv.out]; exact O3⟩, B3.out⟩
      · have q' : (96 : Int) < (L.length : Int) := by omega
        have hv := Lib.hid (HV.out.2 q)
        go_wp2_with fail
        go_ret2
        exact ⟨⟨_, by rw [hv.out]; rfl, by rw [hv.out]; exact OwnT.nil _ _⟩, B3.out⟩

end Go.Proofs.Ytlffcpoooaoneaa
