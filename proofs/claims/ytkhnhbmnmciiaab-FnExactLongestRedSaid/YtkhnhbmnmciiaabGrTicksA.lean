/-
  CONTRACTS: in how many ticks of a cycle a movement has green.
-/
import Derived.Test.YtkhnhbmnmciiaabGrTicks
namespace Go.Proofs.Ytkhnhbmnmciiaab
open Go Go.ChangeShapes Go.WideShapes Go.ChangeAt Go.RowKit
set_option maxRecDepth 100000

theorem refusalOfGreen_any (G : Nat) (xs : Slots) (b o : Int) (hW : SlW xs) (T : TypeId) (k t : Int) (w : World) (A0 : At w G (slC xs) T) :
    Calls Try.prog 80 #[.agg (plC (.slice (some ⟨G, 0, none⟩) xs.length xs.length) b o), .int .i64 k, .int .i64 t] w fun e w' => e = .returned (.int .i64 (grC xs b o k t)) ∧ Below w.heap.size w w' := by
  have hmf : ∀ (fn : Fn) (first cap : Array Value) (w : World), (Instr.makeFunc fn first cap).run Try.prog w = .ok (.func fn first cap) w := fun _ _ _ _ => rfl
  have P0 : At (((w.alloc (.cells (plC (.slice (some ⟨G, 0, none⟩) xs.length xs.length) b o) 29)).alloc (.cells #[.int .i64 k] 2)).alloc (.cells #[.int .i64 t] 2)) w.heap.size (plC (.slice (some ⟨G, 0, none⟩) xs.length xs.length) b o) 29 := ((At.new w _ _).alloc _).alloc _
  have K0 : At (((w.alloc (.cells (plC (.slice (some ⟨G, 0, none⟩) xs.length xs.length) b o) 29)).alloc (.cells #[.int .i64 k] 2)).alloc (.cells #[.int .i64 t] 2)) (w.heap.size + 1) #[.int .i64 k] 2 := (At.last1 w _ _ _).alloc _
  have M0 : At (((w.alloc (.cells (plC (.slice (some ⟨G, 0, none⟩) xs.length xs.length) b o) 29)).alloc (.cells #[.int .i64 k] 2)).alloc (.cells #[.int .i64 t] 2)) (w.heap.size + 1 + 1) #[.int .i64 t] 2 := by
    have := At.new ((w.alloc (.cells (plC (.slice (some ⟨G, 0, none⟩) xs.length xs.length) b o) 29)).alloc (.cells #[.int .i64 k] 2)) #[.int .i64 t] 2
    rwa [World.size_alloc, World.size_alloc] at this
  have A1 := ((A0.alloc (.cells (plC (.slice (some ⟨G, 0, none⟩) xs.length xs.length) b o) 29)).alloc (.cells #[.int .i64 k] 2)).alloc (.cells #[.int .i64 t] 2)
  have KR := refusalOf_any 112 #[.pointer (some ⟨w.heap.size, 0, none⟩), .pointer (some ⟨w.heap.size + 1, 0, none⟩), .pointer (some ⟨w.heap.size + 1 + 1, 0, none⟩)] (grC xs b o k t) (((w.alloc (.cells (plC (.slice (some ⟨G, 0, none⟩) xs.length xs.length) b o) 29)).alloc (.cells #[.int .i64 k] 2)).alloc (.cells #[.int .i64 t] 2)) (fun _ => by kernel_rfl) (fun w1 hb => refusalOfGreen1_any w.heap.size (w.heap.size + 1) (w.heap.size + 1 + 1) 29 2 2 G xs b o hW T k t w1 (P0.step hb) (K0.step hb) (M0.step hb) (A1.step hb))
  have B0 := Lib.hid (bnew (bnew (b0 w (.cells (plC (.slice (some ⟨G, 0, none⟩) xs.length xs.length) b o) 29)) (.cells #[.int .i64 k] 2)) (.cells #[.int .i64 t] 2))
  clear P0 K0 M0 A0 A1
  go_enter Try.func80, Try.ntmps80
  go_wp2_with fail
  refine KR.mono ?_
  rintro e w1 ⟨rfl, hb1⟩
  go_wp2_with fail
  go_ret
  exact ⟨rfl, bthen B0.out hb1⟩
def vGT (xs : Slots) (b o k : Int) : Int × Int := if grC xs b o k 0 = 0 then (GT xs k.toNat, 0) else (0, grC xs b o k 0)
theorem vGT_no {xs : Slots} {b o k : Int} (h : grC xs b o k 0 ≠ 0) : vGT xs b o k = (0, grC xs b o k 0) := by unfold vGT; rw [if_neg h]
theorem vGT_yes {xs : Slots} {b o : Int} {m : Nat} (h : grC xs b o m 0 = 0) : vGT xs b o m = (GT xs m, 0) := by unfold vGT; rw [if_pos h, Int.toNat_natCast]
theorem GreenTicks_any (G : Nat) (xs : Slots) (b o : Int) (hW : SlW xs) (T : TypeId) (k : Int) (_hk : I64 k) (w : World) (A0 : At w G (slC xs) T) :
    Calls Try.prog 26 #[.agg (plC (.slice (some ⟨G, 0, none⟩) xs.length xs.length) b o), .int .i64 k] w fun e w' => e = .returned (.tuple #[.int .i64 (vGT xs b o k).1, .int .i64 (vGT xs b o k).2]) ∧ Below w.heap.size w w' := by
  clear _hk
  have P0 := At.new w (plC (.slice (some ⟨G, 0, none⟩) xs.length xs.length) b o) 29
  have A1 := A0.alloc (.cells (plC (.slice (some ⟨G, 0, none⟩) xs.length xs.length) b o) 29)
  have B0 := Lib.hid (b0 w (.cells (plC (.slice (some ⟨G, 0, none⟩) xs.length xs.length) b o) 29))
  have KR := refusalOfGreen_any G xs b o hW T k 0 _ A1
  by_cases hg : grC xs b o k 0 = 0
  · obtain ⟨hok, m, rfl, hm8, -, -⟩ := grC_parts hg
    obtain ⟨hl, hb, htk, -, -⟩ := okP_parts hok
    have hv := vGT_yes hg
    rw [hg] at KR
    go_enter Try.func26, Try.ntmps26
    go_wp2_with (((with_reducible refine is_load 29 _ rfl ?_); refine wpList_load_at rfl 29 _ rfl _ rfl ((plC (.slice (some ⟨G, 0, none⟩) xs.length xs.length) b o)) _ (by with_reducible assumption) 3 (plC_size _ _ _) _ Try.underlying29 rfl (by kernel_rfl) ?_))
    refine KR.mono ?_
    rintro e w1 ⟨rfl, hb1⟩
    have P1 := P0.step hb1
    have KG := greenTicks_any G xs b o hW T hl.2 htk m hm8 w1 (A1.step hb1)
    have B1 := Lib.hid (bthen B0.out hb1)
    clear P0 A0 A1 B0 hb1 KR hl hb htk
    go_wp2_with (((with_reducible refine is_load 29 _ rfl ?_); refine wpList_load_at rfl 29 _ rfl _ rfl ((plC (.slice (some ⟨G, 0, none⟩) xs.length xs.length) b o)) _ (by with_reducible assumption) 3 (plC_size _ _ _) _ Try.underlying29 rfl (by kernel_rfl) ?_))
    refine KG.mono ?_
    rintro e w2 ⟨rfl, hb2⟩
    go_wp2_with fail
    go_ret2
    exact ⟨by rw [hv]; rfl, bthen B1.out hb2⟩
  · have hv := vGT_no hg
    generalize grC xs b o k 0 = cc at KR hg hv
    have hne : (cc != 0) = true := by simpa using hg
    go_enter Try.func26, Try.ntmps26
    go_wp2_with (((with_reducible refine is_load 29 _ rfl ?_); refine wpList_load_at rfl 29 _ rfl _ rfl ((plC (.slice (some ⟨G, 0, none⟩) xs.length xs.length) b o)) _ (by with_reducible assumption) 3 (plC_size _ _ _) _ Try.underlying29 rfl (by kernel_rfl) ?_))
    refine KR.mono ?_
    rintro e w1 ⟨rfl, hb1⟩
    go_wp2_with fail
    go_ret2
    exact ⟨by rw [hv]; rfl, bthen B0.out hb1⟩

theorem l04Moves_any (g : Nat) (T' : TypeId) (G : Nat) (xs : Slots) (b o : Int) (hW : SlW xs) (T : TypeId) (k : Int) (w : World) (P0 : At w g (plC (.slice (some ⟨G, 0, none⟩) xs.length xs.length) b o) T') (A0 : At w G (slC xs) T) :
    Calls Try.prog 78 #[.pointer (some ⟨g, 0, none⟩), .int .i64 k] w fun e w' => e = .returned (.int .i64 (grC xs b o k 0)) ∧ Below w.heap.size w w' := by
  have KO := l04Ok_any g T' G xs b o hW T w P0 A0
  have h0 : inB 0 1000000000 (0 : Int) = true := by decide
  cases hok : okP xs b o
  · rw [hok] at KO
    have hg := grC_1 (k := k) (t := 0) hok
    go_enter Try.func78, Try.ntmps78
    go_wp2_with fail
    refine KO.mono ?_
    rintro e w1 ⟨rfl, hb1⟩
    go_wp2_with fail
    go_ret
    exact ⟨by rw [hg]; rfl, hb1⟩
  · rw [hok] at KO
    have KM := l04Movement_b k
    cases hm : inB 0 7 k
    · rw [hm] at KM
      have hg := grC_2 (t := 0) hok (show (inB 0 7 k && inB 0 1000000000 (0 : Int)) = false from by rw [hm]; rfl)
      go_enter Try.func78, Try.ntmps78
      go_wp2_with fail
      refine KO.mono ?_
      rintro e w1 ⟨rfl, hb1⟩
      go_wp2_with fail
      refine (KM _).mono ?_
      rintro e w2 ⟨rfl, n2, rfl⟩
      go_wp2_with fail
      go_ret
      exact ⟨by rw [hg]; rfl, bdrew hb1 _⟩
    · rw [hm] at KM
      obtain ⟨mm, hkm, hm8⟩ : ∃ mm : Nat, k = mm ∧ mm < 8 := by
        have : 0 ≤ k ∧ k ≤ 7 := by simpa [inB] using hm
        exact ⟨k.toNat, by omega, by omega⟩
      subst hkm
      have hboth : (inB 0 7 (mm : Int) && inB 0 1000000000 (0 : Int)) = true := by rw [hm, h0]; rfl
      have hbd := GT_bnd hok mm
      have KG := fun wr hP hA => l04Greens_gt g T' G xs b o hW T hok mm hm8 wr hP hA
      go_enter Try.func78, Try.ntmps78
      go_wp2_with fail
      refine KO.mono ?_
      rintro e w1 ⟨rfl, hb1⟩
      go_wp2_with fail
      refine (KM _).mono ?_
      rintro e w2 ⟨rfl, n2, rfl⟩
      have KG1 := KG _ ((P0.step hb1).drewN n2) ((A0.step hb1).drewN n2)
      have B2 := Lib.hid (bdrew hb1 n2)
      clear KG KM KO hb1 P0 A0
      go_wp2_with fail
      refine KG1.mono ?_
      rintro e w3 ⟨v, rfl, -, hb3⟩
      by_cases hpos : 0 < GT xs mm
      · have hg := grC_0 hok hboth hpos
        have hd : (GT xs mm == 0) = false := by simp; omega
        go_wp2_with fail
        go_ret
        exact ⟨by rw [hg]; rfl, bthen B2.out hb3⟩
      · have hg := grC_6 hok hboth hpos
        have hd : (GT xs mm == 0) = true := by simp; omega
        go_wp2_with fail
        go_ret
        exact ⟨by rw [hg]; rfl, bthen B2.out hb3⟩
theorem sGreenTicks_any (G : Nat) (xs : Slots) (b o : Int) (hW : SlW xs) (T : TypeId) (k : Int) (_hk : I64 k) (w : World) (A0 : At w G (slC xs) T) :
    Calls Try.prog 25 #[.agg (plC (.slice (some ⟨G, 0, none⟩) xs.length xs.length) b o), .int .i64 k] w fun e w' => e = .returned (.tuple #[.int .i64 (vGT xs b o k).1, .int .i64 (vGT xs b o k).2]) ∧ Below w.heap.size w w' := by
  clear _hk
  have P0 := At.new w (plC (.slice (some ⟨G, 0, none⟩) xs.length xs.length) b o) 29
  have A1 := A0.alloc (.cells (plC (.slice (some ⟨G, 0, none⟩) xs.length xs.length) b o) 29)
  have B0 := Lib.hid (b0 w (.cells (plC (.slice (some ⟨G, 0, none⟩) xs.length xs.length) b o) 29))
  have KR := l04Moves_any w.heap.size 29 G xs b o hW T k _ P0 A1
  by_cases hg : grC xs b o k 0 = 0
  · obtain ⟨hok, m, rfl, hm8, -, -⟩ := grC_parts hg
    have hv := vGT_yes hg
    rw [hg] at KR
    go_enter Try.func25, Try.ntmps25
    go_wp2_with fail
    refine KR.mono ?_
    rintro e w1 ⟨rfl, hb1⟩
    have KG := l04Greens_gt w.heap.size 29 G xs b o hW T hok m hm8 w1 (P0.step hb1) (A1.step hb1)
    have B1 := Lib.hid (bthen B0.out hb1)
    clear P0 A0 A1 B0 hb1 KR
    go_wp2_with fail
    refine KG.mono ?_
    rintro e w2 ⟨v, rfl, -, hb2⟩
    go_wp2_with fail
    go_ret2
    exact ⟨by rw [hv]; rfl, bthen B1.out hb2⟩
  · have hv := vGT_no hg
    generalize grC xs b o k 0 = cc at KR hg hv
    have hne : (cc != 0) = true := by simpa using hg
    go_enter Try.func25, Try.ntmps25
    go_wp2_with fail
    refine KR.mono ?_
    rintro e w1 ⟨rfl, hb1⟩
    go_wp2_with fail
    go_ret2
    exact ⟨by rw [hv]; rfl, bthen B0.out hb1⟩

end Go.Proofs.Ytkhnhbmnmciiaab
