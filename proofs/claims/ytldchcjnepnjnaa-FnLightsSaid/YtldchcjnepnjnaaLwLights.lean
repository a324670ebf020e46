/-
  FnLights: a light goes round, as long as it is asked to. No condition.
-/
import Derived.Test.YtldchcjnepnjnaaLawB
import Derived.Test.YtldchcjnepnjnaaLtW
import Derived.Test.YtldchcjnepnjnaaLtS
namespace Go.Proofs.Ytldchcjnepnjnaa.lawFnLights
open Go Go.ChangeShapes Go.WideShapes Go.ChangeAt Go.RowKit

set_option maxRecDepth 100000
theorem q_build0 {P : Program} {C : World → Prop} {o : Oper} {a : Act} {K : Act → Prop} (t : TypeId) (ho : o.op = .build t #[]) (c : Array Value) (hc : P.built t [] = some c) (hK : K (a.put o.dst (.agg c))) : o.quiet P a C K := by
  refine ⟨.agg c, fun w hw => ?_, hK⟩
  unfold Oper.quietAt execOp
  simp only [ho, Sem.run_bind, List.map_toArray, List.map_nil, run_build w t #[] c hc, Result.andThen_ok]
  exact ⟨rfl, rfl⟩

theorem slY_green {xs : Slots} {zs : Array Value} (h : SlW xs) {i j k : Nat} (hi : i < xs.length) (hj : j < 8) (hk : k = i * 9 + j) : (slY xs zs)[k]? = some (.bool (bn (sb xs i) j)) := by
  unfold slY
  rw [Array.getElem?_append_left (by rw [slC_size h]; omega)]
  exact slC_green h hi hj hk

set_option maxHeartbeats 8000000 in
theorem walk (W : World) (a0 : Option Addr) (c0 : Nat) (x0 : List Nat) (h0 : BSl W a0 x0) (a1 : Option Addr) (c1 : Nat) (x1 : List Nat) (h1 : BSl W a1 x1) :
    Calls Try.prog 3 #[.slice a0 x0.length c0, .slice a1 x1.length c1] W (True? W) := by
  by_cases hb0 : 4096 < x0.length
  · have KB := f6big_any a0 x0.length c0 h0.len W
    rw [decide_eq_true hb0] at KB
    go_enter Try.func3, Try.ntmps3
    go_wp2_with fail
    refine KB.mono ?_
    rintro e w1 ⟨rfl, rfl⟩
    go_wp2_with fail
    go_ret
    exact ⟨rfl, Below.refl _ _⟩
  have KB0 := f6big_any a0 x0.length c0 h0.len W
  rw [decide_eq_false hb0] at KB0
  by_cases hb1 : 4096 < x1.length
  · have KB := f6big_any a1 x1.length c1 h1.len W
    rw [decide_eq_true hb1] at KB
    go_enter Try.func3, Try.ntmps3
    go_wp2_with fail
    refine KB0.mono ?_
    rintro e w1 ⟨rfl, rfl⟩
    go_wp2_with fail
    refine KB.mono ?_
    rintro e w1 ⟨rfl, rfl⟩
    go_wp2_with fail
    go_ret
    exact ⟨rfl, Below.refl _ _⟩
  have KB1 := f6big_any a1 x1.length c1 h1.len W
  rw [decide_eq_false hb1] at KB1
  clear hb0 hb1
  have BW := Lib.hid (Below.refl W.heap.size W)
  go_enter Try.func3, Try.ntmps3
  go_wp2_with fail
  refine KB0.mono ?_
  rintro e w0 ⟨rfl, rfl⟩
  go_wp2_with fail
  refine KB1.mono ?_
  rintro e w0 ⟨rfl, rfl⟩
  clear KB0 KB1
  go_wp2_with fail
  refine (P6Plan_e a0 c0 x0 _ h0).mono ?_
  rintro e w1 ⟨G, cap, zs, xs, b, o, rfl, AG, hW, hok, hx1, hx4, hb3, hb⟩
  replace BW := Lib.hid (BW.out.trans (hb.mono BW.out.size))
  clear hb
  have L := At.new w1 (plC (.slice none 0 0) 0 0) 26
  have A5 := L.setRow (plC (.slice (some ⟨G, 0, none⟩) xs.length cap) b o)
  replace AG := (AG.alloc (.cells (plC (.slice none 0 0) 0 0) 26)).setRow_other (k := w1.heap.size) (Nat.ne_of_lt AG.lt) (plC (.slice (some ⟨G, 0, none⟩) xs.length cap) b o)
  replace BW := Lib.hid (bset (BW.out.alloc BW.out.size (.cells (plC (.slice none 0 0) 0 0) 26)) (g := w1.heap.size) BW.out.size (plC (.slice (some ⟨G, 0, none⟩) xs.length cap) b o))
  go_wp2_with (first | ((with_reducible refine is_store 26 _ _ rfl ?_); refine wpList_store_at rfl 26 _ _ rfl _ rfl (plC (.slice (some ⟨G, 0, none⟩) xs.length cap) b o) rfl (plC (.slice none 0 0) 0 0) _ L 3 (plC_size _ _ _) (plC_size _ _ _) (by kernel_rfl) (pl_one _ rfl _ _) ?_))
  rw [show (#[.slice none 0 0, .int .i64 0, .int .i64 0] : Array Value) = plC (.slice none 0 0) 0 0 from by kernel_rfl]
  clear L
  generalize World.setRow _ _ _ = w2 at AG A5 BW ⊢
  have H2 := h1.step BW.out (Nat.le_refl _)
  refine (P6Phase_e a1 c1 x1 _ H2).mono ?_
  rintro e w3 ⟨cs, rfl, hcs, hb⟩
  clear H2
  replace AG := AG.step hb
  replace A5 := A5.step hb
  replace BW := Lib.hid (BW.out.trans (hb.mono BW.out.size))
  clear hb
  have hcs8 : (bl cs).size = 8 := by rw [bl_size, hcs]
  have L := At.new w3 (bl (noes 8)) 29
  have A6 := L.setRow (bl cs)
  replace AG := (AG.alloc (.cells (bl (noes 8)) 29)).setRow_other (k := w3.heap.size) (Nat.ne_of_lt AG.lt) (bl cs)
  replace A5 := (A5.alloc (.cells (bl (noes 8)) 29)).setRow_other (k := w3.heap.size) (Nat.ne_of_lt A5.lt) (bl cs)
  replace BW := Lib.hid (bset (BW.out.alloc BW.out.size (.cells (bl (noes 8)) 29)) (g := w3.heap.size) BW.out.size (bl cs))
  go_wp2_with (first | ((with_reducible refine is_store 29 _ _ rfl ?_); refine wpList_store_at rfl 29 _ _ rfl _ rfl (bl cs) rfl (bl (noes 8)) _ L 8 (hcs8) (by rw [bl_size, noes_len]) (by kernel_rfl) (bl_one _) ?_))
  rw [show (#[.bool false, .bool false, .bool false, .bool false, .bool false, .bool false, .bool false, .bool false] : Array Value) = bl (noes 8) from by kernel_rfl]
  clear L
  generalize World.setRow _ _ _ = w4 at AG A5 A6 BW ⊢
  have H2 := h1.step BW.out (Nat.le_refl _)
  refine (P6Pick_e a1 c1 x1 5 (by omega) (by omega) _ H2).mono ?_
  rintro e w5 ⟨l0, rfl, hl0, hb⟩
  clear H2
  replace AG := AG.step hb
  replace A5 := A5.step hb
  replace A6 := A6.step hb
  replace BW := Lib.hid (BW.out.trans (hb.mono BW.out.size))
  clear hb
  obtain ⟨le, hle⟩ : ∃ q, q = l0 + 1 := ⟨_, rfl⟩
  have s1 : IntKind.i64.wrap (1 + (l0 : Int)) = (le : Int) := by rw [IntWalk.i64_in _ (by omega)]; omega
  have HLE := Lib.hid (show 1 ≤ le ∧ le ≤ 5 by omega)
  clear hle hl0
  go_wp2_with fail
  have H2 := h0.step BW.out (Nat.le_refl _)
  refine (P6Pick_e a0 c0 x0 5 (by omega) (by omega) _ H2).mono ?_
  rintro e w6 ⟨m0, rfl, hm0, hb⟩
  clear H2 s1
  replace AG := AG.step hb
  replace A5 := A5.step hb
  replace A6 := A6.step hb
  replace BW := Lib.hid (BW.out.trans (hb.mono BW.out.size))
  clear hb
  obtain ⟨mo, hmo⟩ : ∃ q, q = le + m0 := ⟨_, rfl⟩
  have s1 : IntKind.i64.wrap ((le : Int) + (m0 : Int)) = (mo : Int) := by have := HLE.out; rw [IntWalk.i64_in _ (by omega)]; omega
  have HMO := Lib.hid (show le ≤ mo ∧ mo ≤ 9 by have := HLE.out; omega)
  clear hmo hm0
  go_wp2_with fail
  refine (FirstLight_any _).mono ?_
  rintro e w7 ⟨rfl, hb⟩
  clear s1
  replace AG := AG.step hb
  replace A5 := A5.step hb
  replace A6 := A6.step hb
  replace BW := Lib.hid (BW.out.trans (hb.mono BW.out.size))
  clear hb
  have HG := Lib.hid (And.intro AG.lt (And.intro A5.lt (And.intro A6.lt BW.out.size)))
  have L := At.new w7 (ltC 0 0 false) 33
  have A9 := L.setRow (ltC 0 0 false)
  replace AG := (AG.alloc (.cells (ltC 0 0 false) 33)).setRow_other (k := w7.heap.size) (Nat.ne_of_lt AG.lt) (ltC 0 0 false)
  replace A5 := (A5.alloc (.cells (ltC 0 0 false) 33)).setRow_other (k := w7.heap.size) (Nat.ne_of_lt A5.lt) (ltC 0 0 false)
  replace A6 := (A6.alloc (.cells (ltC 0 0 false) 33)).setRow_other (k := w7.heap.size) (Nat.ne_of_lt A6.lt) (ltC 0 0 false)
  replace BW := Lib.hid (bset (BW.out.alloc BW.out.size (.cells (ltC 0 0 false) 33)) (g := w7.heap.size) BW.out.size (ltC 0 0 false))
  go_wp2_with (first | ((with_reducible refine is_store 33 _ _ rfl ?_); refine wpList_store_at rfl 33 _ _ rfl _ rfl (ltC 0 0 false) rfl (ltC 0 0 false) _ L 3 (ltC_size _ _ _) (ltC_size _ _ _) (by kernel_rfl) (lt_one _ _ _) ?_))
  rw [show (#[.int .i64 0, .int .i64 0, .bool false] : Array Value) = ltC 0 0 false from by kernel_rfl]
  clear L
  generalize World.setRow _ _ _ = w8 at AG A5 A6 A9 BW ⊢
  go_loopw [10, 11, 12, 13] (fun sv rv tv iv wr => ∃ (k s : Nat) (r : Bool) (st rd i tn : Nat), i ≤ 60 ∧ tn ≤ i ∧ iv = .int .i64 (i : Int) ∧ sv = .int .i64 (st : Int) ∧ rv = .int .i64 (rd : Int) ∧ tv = .int .i64 (tn : Int) ∧ Hid (LInv xs b cs le mo k s r st rd i tn) ∧ At wr G (slY xs zs) 40 ∧ At wr w1.heap.size (plC (.slice (some ⟨G, 0, none⟩) xs.length cap) b o) 26 ∧ At wr w3.heap.size (bl cs) 29 ∧ At wr w7.heap.size (ltC k s r) 33 ∧ Hid (Below w0.heap.size w0 wr)) (fun _ _ _ iv _ => 60 - (intOf iv).toNat)
  case atStart => exact ⟨0, 0, false, 0, 0, 0, 0, by omega, by omega, rfl, rfl, rfl, rfl, Lib.hid (LInv.first (by omega) (by have := HLE.out; omega) (by have := HMO.out; omega)), AG, A5, A6, A9, BW⟩
  case round =>
    clear AG A5 A6 A9 BW
    obtain ⟨k, s, r, st, rd, i, tn, hi60, htn, rfl, rfl, rfl, rfl, hI0, AG, A5, A6, A9, BW⟩ := hrel
    have hl1 := HLE.out
    have hm1 := HMO.out
    have hs9 : s ≤ 20 ∧ st ≤ 20 ∧ rd ≤ 20 := by
      have hI := hI0.out
      cases r
      · have := hI.g rfl; omega
      · have := hI.q rfl
        have h2 := this.2.2
        split at h2 <;> omega
    have hlp : lpB xs b o k s r = true := lp_of hok hI0.out.lt (by omega) (fun h => by have := hI0.out.q h; omega)
    by_cases hlt : i < 60
    · have id60 : (i : Int) < 60 := by omega
      have si : IntKind.i64.wrap ((i : Int) + 1) = (i : Int) + 1 := IntWalk.i64_in _ (by omega)
      rcases round_l hI0.out hl1.1 hm1.1 with ⟨rfl, hT, I2⟩ | ⟨rfl, hb0, hT, I2⟩ | ⟨rfl, hb0, hT, hrb, hst⟩ | ⟨rfl, hT, I2⟩ | ⟨rfl, hT, hrb, hst⟩
      · as_aux_lemma =>
          have hknl := hI0.out.lt
          have hlp2 : lpB xs b o k ((s + 1 : Nat) : Int) false = true := lp_of hok hknl (by omega) (by intro h; cases h)
          have KI := fun w A0 => StepLight_e cap zs G xs b o hW 40 cs hcs le mo k s false k (s + 1) false hlp (by omega) hI0.out.lt (by omega) (by omega) (by omega) (by omega) hT w A0
          have KS := fun w A0 => sStepLight_e cap zs G xs b o hW 40 cs hcs le mo k s false k (s + 1) false hlp (by omega) hI0.out.lt (by omega) (by omega) (by omega) (by omega) hT w A0
          have KL := fun w A0 => LightPhaseZ_any cap zs G xs b o hW 40 k ((s + 1 : Nat) : Int) false (by omega) w A0
          rw [vLp_gr hlp2] at KL
          have ec : ((s + 1 : Nat) : Int) = (s : Int) + 1 := by omega
          rw [ec] at KI KS KL
          clear ec
          have hph : (bl (sb xs k)).size = 8 := by rw [bl_size]; exact (hW.at hknl).1
          have KN := fun w => run_neq_light w k ((s : Int) + 1) false
          have KQ := fun w => run_neq_phases w (sb xs k) (sb xs k) (by exact (hW.at hknl).1) (by exact (hW.at hknl).1)
          rw [decide_eq_true rfl] at KQ
          clear hT hlp hlp2
          go_wp2_with (first | ((with_reducible refine is_load 26 _ rfl ?_); refine wpList_load_at rfl 26 _ rfl _ rfl (plC (.slice (some ⟨G, 0, none⟩) xs.length cap) b o) _ A5 3 (plC_size _ _ _) _ Try.underlying26 rfl (by kernel_rfl) ?_) | ((with_reducible refine is_load 29 _ rfl ?_); refine wpList_load_at rfl 29 _ rfl _ rfl (bl cs) _ A6 8 (hcs8) _ Try.underlying29 rfl (by kernel_rfl) ?_) | ((with_reducible refine is_load 33 _ rfl ?_); refine wpList_load_at rfl 33 _ rfl _ rfl (ltC k s false) _ A9 3 (ltC_size _ _ _) _ Try.underlying33 rfl (by kernel_rfl) ?_))
          refine (KI _ AG).mono ?_
          rintro e v1 ⟨rfl, hb⟩
          replace AG := AG.step hb
          replace A5 := A5.step hb
          replace A6 := A6.step hb
          replace A9 := A9.step hb
          replace BW := Lib.hid (BW.out.trans (hb.mono BW.out.size))
          clear hb
          have L := At.new v1 (ltC 0 0 false) 33
          have A14 := L.setRow (ltC k ((s : Int) + 1) false)
          replace AG := (AG.alloc (.cells (ltC 0 0 false) 33)).setRow_other (k := v1.heap.size) (Nat.ne_of_lt AG.lt) (ltC k ((s : Int) + 1) false)
          replace A5 := (A5.alloc (.cells (ltC 0 0 false) 33)).setRow_other (k := v1.heap.size) (Nat.ne_of_lt A5.lt) (ltC k ((s : Int) + 1) false)
          replace A6 := (A6.alloc (.cells (ltC 0 0 false) 33)).setRow_other (k := v1.heap.size) (Nat.ne_of_lt A6.lt) (ltC k ((s : Int) + 1) false)
          replace A9 := (A9.alloc (.cells (ltC 0 0 false) 33)).setRow_other (k := v1.heap.size) (Nat.ne_of_lt A9.lt) (ltC k ((s : Int) + 1) false)
          replace BW := Lib.hid (bset (BW.out.alloc BW.out.size (.cells (ltC 0 0 false) 33)) (g := v1.heap.size) BW.out.size (ltC k ((s : Int) + 1) false))
          go_wp2_with (first | ((with_reducible refine is_store 33 _ _ rfl ?_); refine wpList_store_at rfl 33 _ _ rfl _ rfl (ltC k ((s : Int) + 1) false) rfl (ltC 0 0 false) _ L 3 (ltC_size _ _ _) (ltC_size _ _ _) (by kernel_rfl) (lt_one _ _ _) ?_) | ((with_reducible refine is_load 26 _ rfl ?_); refine wpList_load_at rfl 26 _ rfl _ rfl (plC (.slice (some ⟨G, 0, none⟩) xs.length cap) b o) _ A5 3 (plC_size _ _ _) _ Try.underlying26 rfl (by kernel_rfl) ?_) | ((with_reducible refine is_load 29 _ rfl ?_); refine wpList_load_at rfl 29 _ rfl _ rfl (bl cs) _ A6 8 (hcs8) _ Try.underlying29 rfl (by kernel_rfl) ?_) | ((with_reducible refine is_load 33 _ rfl ?_); refine wpList_load_at rfl 33 _ rfl _ rfl (ltC k s false) _ A9 3 (ltC_size _ _ _) _ Try.underlying33 rfl (by kernel_rfl) ?_))
          rw [show (#[.int .i64 0, .int .i64 0, .bool false] : Array Value) = ltC 0 0 false from by kernel_rfl]
          clear L
          generalize World.setRow _ _ _ = v2 at AG A5 A6 A9 A14 BW ⊢
          refine (KS _ AG).mono ?_
          rintro e v3 ⟨rfl, hb⟩
          replace AG := AG.step hb
          replace A5 := A5.step hb
          replace A6 := A6.step hb
          replace A9 := A9.step hb
          replace A14 := A14.step hb
          replace BW := Lib.hid (BW.out.trans (hb.mono BW.out.size))
          clear hb
          have L := At.new v3 (ltC 0 0 false) 33
          have A16 := L.setRow (ltC k ((s : Int) + 1) false)
          replace AG := (AG.alloc (.cells (ltC 0 0 false) 33)).setRow_other (k := v3.heap.size) (Nat.ne_of_lt AG.lt) (ltC k ((s : Int) + 1) false)
          replace A5 := (A5.alloc (.cells (ltC 0 0 false) 33)).setRow_other (k := v3.heap.size) (Nat.ne_of_lt A5.lt) (ltC k ((s : Int) + 1) false)
          replace A6 := (A6.alloc (.cells (ltC 0 0 false) 33)).setRow_other (k := v3.heap.size) (Nat.ne_of_lt A6.lt) (ltC k ((s : Int) + 1) false)
          replace A9 := (A9.alloc (.cells (ltC 0 0 false) 33)).setRow_other (k := v3.heap.size) (Nat.ne_of_lt A9.lt) (ltC k ((s : Int) + 1) false)
          replace A14 := (A14.alloc (.cells (ltC 0 0 false) 33)).setRow_other (k := v3.heap.size) (Nat.ne_of_lt A14.lt) (ltC k ((s : Int) + 1) false)
          replace BW := Lib.hid (bset (BW.out.alloc BW.out.size (.cells (ltC 0 0 false) 33)) (g := v3.heap.size) BW.out.size (ltC k ((s : Int) + 1) false))
          go_wp2_with (first | ((with_reducible refine is_store 33 _ _ rfl ?_); refine wpList_store_at rfl 33 _ _ rfl _ rfl (ltC k ((s : Int) + 1) false) rfl (ltC 0 0 false) _ L 3 (ltC_size _ _ _) (ltC_size _ _ _) (by kernel_rfl) (lt_one _ _ _) ?_) | ((with_reducible refine is_load 26 _ rfl ?_); refine wpList_load_at rfl 26 _ rfl _ rfl (plC (.slice (some ⟨G, 0, none⟩) xs.length cap) b o) _ A5 3 (plC_size _ _ _) _ Try.underlying26 rfl (by kernel_rfl) ?_) | ((with_reducible refine is_load 33 _ rfl ?_); refine wpList_load_at rfl 33 _ rfl _ rfl (ltC k ((s : Int) + 1) false) _ A16 3 (ltC_size _ _ _) _ Try.underlying33 rfl (by kernel_rfl) ?_))
          rw [show (#[.int .i64 0, .int .i64 0, .bool false] : Array Value) = ltC 0 0 false from by kernel_rfl]
          clear L
          generalize World.setRow _ _ _ = v4 at AG A5 A6 A9 A14 A16 BW ⊢
          refine (KL _ AG).mono ?_
          rintro e v5 ⟨rfl, hb⟩
          replace AG := AG.step hb
          replace A5 := A5.step hb
          replace A6 := A6.step hb
          replace A9 := A9.step hb
          replace A14 := A14.step hb
          replace A16 := A16.step hb
          replace BW := Lib.hid (BW.out.trans (hb.mono BW.out.size))
          clear hb
          clear KI KS KL
          have L := At.new v5 (bl (noes 8)) 29
          have A18 := L.setRow (bl (sb xs k))
          replace AG := (AG.alloc (.cells (bl (noes 8)) 29)).setRow_other (k := v5.heap.size) (Nat.ne_of_lt AG.lt) (bl (sb xs k))
          replace A5 := (A5.alloc (.cells (bl (noes 8)) 29)).setRow_other (k := v5.heap.size) (Nat.ne_of_lt A5.lt) (bl (sb xs k))
          replace A6 := (A6.alloc (.cells (bl (noes 8)) 29)).setRow_other (k := v5.heap.size) (Nat.ne_of_lt A6.lt) (bl (sb xs k))
          replace A9 := (A9.alloc (.cells (bl (noes 8)) 29)).setRow_other (k := v5.heap.size) (Nat.ne_of_lt A9.lt) (bl (sb xs k))
          replace A14 := (A14.alloc (.cells (bl (noes 8)) 29)).setRow_other (k := v5.heap.size) (Nat.ne_of_lt A14.lt) (bl (sb xs k))
          replace A16 := (A16.alloc (.cells (bl (noes 8)) 29)).setRow_other (k := v5.heap.size) (Nat.ne_of_lt A16.lt) (bl (sb xs k))
          replace BW := Lib.hid (bset (BW.out.alloc BW.out.size (.cells (bl (noes 8)) 29)) (g := v5.heap.size) BW.out.size (bl (sb xs k)))
          go_wp2_with (first | ((with_reducible refine is_store 29 _ _ rfl ?_); refine wpList_store_at rfl 29 _ _ rfl _ rfl (bl (sb xs k)) rfl (bl (noes 8)) _ L 8 (hph) (by rw [bl_size, noes_len]) (by kernel_rfl) (bl_one _) ?_) | ((with_reducible refine is_load 33 _ rfl ?_); refine wpList_load_part_g rfl 33 _ rfl _ 0 rfl (ltC k ((s : Int) + 1) false) _ A14 3 (by rw [ltC_size]; omega) _ Try.underlying33 rfl (by kernel_rfl) (ltC k ((s : Int) + 1) false) (by rw [Nat.zero_add, Array.extract_eq_self_of_le (by rw [ltC_size]; exact Nat.le_refl _)]) ?_) | ((with_reducible refine is_load 33 _ rfl ?_); refine wpList_load_part_g rfl 33 _ rfl _ 0 rfl (ltC k ((s : Int) + 1) false) _ A16 3 (by rw [ltC_size]; omega) _ Try.underlying33 rfl (by kernel_rfl) (ltC k ((s : Int) + 1) false) (by rw [Nat.zero_add, Array.extract_eq_self_of_le (by rw [ltC_size]; exact Nat.le_refl _)]) ?_))
          rw [show (#[.bool false, .bool false, .bool false, .bool false, .bool false, .bool false, .bool false, .bool false] : Array Value) = bl (noes 8) from by kernel_rfl]
          clear L
          generalize World.setRow _ _ _ = v6 at AG A5 A6 A9 A14 A16 A18 BW ⊢
          have kd2 : (k : Int) < (xs.length : Int) := by omega
          have SS2 := slY_size (zs := zs) hW
          have hle2 : k * 9 + 8 ≤ (slY xs zs).size := by omega
          have hpp2 := slY_phase (zs := zs) hW hknl (k := k * 9) rfl
          clear SS2
          have hC := Cb.const v6
          refine wp_region_cb (by kernel_rfl) (by kernel_rfl) ?_
          repeat (first
            | go_big_quiet_skip
            | (go_big_quiet_want; first
              | (refine q_oneL 4 _ rfl _ Try.underlying4 rfl 2 rfl A16 _ (ltC_2 _ _ _) ?_; go_simp; go_big_quiet_on)
              | (refine q_oneL 2 _ rfl _ Try.underlying2 rfl 0 rfl A16 _ (ltC_0 _ _ _) ?_; go_simp; go_big_quiet_on)
              | (refine q_oneL 24 _ rfl _ Try.underlying24 rfl 0 rfl A5 _ (plC_0 _ _ _) ?_; go_simp; go_big_quiet_on)
              | (refine q_row 29 _ rfl rfl A18 8 hph _ Try.underlying29 rfl (by kernel_rfl) ?_; go_simp; go_big_quiet_on)
              | (refine q_part 29 _ rfl (k * 9) rfl AG 8 hle2 _ Try.underlying29 rfl (by kernel_rfl) (bl (sb xs k)) hpp2 ?_; go_simp; go_big_quiet_on)
              | (refine q_build0 29 rfl (bl (noes 8)) (by kernel_rfl) ?_; go_simp; go_big_quiet_on)
              | (refine q_neqT 29 _ _ rfl _ _ rfl rfl (by kernel_rfl) _ KQ ?_; go_simp; go_big_quiet_on)
              | (go_big_quiet_op; go_big_quiet_on)))
          refine wpQuiet_nil ?_
          intro v7 hb
          replace AG := AG.step hb
          replace A5 := A5.step hb
          replace A6 := A6.step hb
          replace A9 := A9.step hb
          replace A14 := A14.step hb
          replace A16 := A16.step hb
          replace A18 := A18.step hb
          replace BW := Lib.hid (BW.out.trans (hb.mono BW.out.size))
          clear hb hC
          clear kd2 hle2 hpp2 A14 A18 KQ KN hph
          have c90 := A9.cell (ltC_0 _ _ _)
          have c92 := A9.cell (ltC_2 _ _ _)
          have c160 := A16.cell (ltC_0 _ _ _)
          have c161 := A16.cell (ltC_1 _ _ _)
          have c162 := A16.cell (ltC_2 _ _ _)
          have z1 : ((s : Int) + 1 = 0) = False := eq_false (by omega)
          have sst : IntKind.i64.wrap ((st : Int) + 1) = (st : Int) + 1 := IntWalk.i64_in _ (by omega)
          have hG4 := HG.out
          have A9b := A9.setRow (ltC k ((s : Int) + 1) false)
          have AGb := AG.setRow_other (k := w7.heap.size) (by omega) (ltC k ((s : Int) + 1) false)
          have A5b := A5.setRow_other (k := w7.heap.size) (by omega) (ltC k ((s : Int) + 1) false)
          have A6b := A6.setRow_other (k := w7.heap.size) (by omega) (ltC k ((s : Int) + 1) false)
          have B9 := Lib.hid (bset BW.out (g := w7.heap.size) (by omega) (ltC k ((s : Int) + 1) false))
          go_wp2_with (first | ((with_reducible refine is_load 33 _ rfl ?_); refine wpList_load_at rfl 33 _ rfl _ rfl (ltC k ((s : Int) + 1) false) _ A16 3 (ltC_size _ _ _) _ Try.underlying33 rfl (by kernel_rfl) ?_) | ((with_reducible refine is_store 33 _ _ rfl ?_); refine wpList_store_at rfl 33 _ _ rfl _ rfl (ltC k ((s : Int) + 1) false) rfl (ltC k s false) _ A9 3 (ltC_size _ _ _) (ltC_size _ _ _) (by kernel_rfl) (lt_one _ _ _) ?_))
          exact ⟨⟨k, (s + 1), false, (st + 1), rd, i + 1, tn, by omega, by omega, by go_num, by go_num, by go_num, by go_num, Lib.hid I2, AGb, A5b, A6b, A9b, B9⟩, by simp [intOf]; omega⟩
      · as_aux_lemma =>
          have hknl := hI0.out.lt
          have hlp2 : lpB xs b o k ((0 : Nat) : Int) true = true := lp_of hok hknl (by omega) (by intro _; omega)
          have KI := fun w A0 => StepLight_e cap zs G xs b o hW 40 cs hcs le mo k s false k 0 true hlp (by omega) hI0.out.lt (by omega) (by omega) (by omega) (by omega) hT w A0
          have KS := fun w A0 => sStepLight_e cap zs G xs b o hW 40 cs hcs le mo k s false k 0 true hlp (by omega) hI0.out.lt (by omega) (by omega) (by omega) (by omega) hT w A0
          have KL := fun w A0 => LightPhaseZ_any cap zs G xs b o hW 40 k ((0 : Nat) : Int) true (by omega) w A0
          rw [vLp_red hlp2] at KL
          rw [show ((0 : Nat) : Int) = 0 from rfl] at KI KS KL
          have hph : (bl (noes 8)).size = 8 := by rw [bl_size]; exact noes_len 8
          have KN := fun w => run_neq_light w k 0 true
          have KQ := fun w => run_neq_phases w (noes 8) (noes 8) (by exact noes_len 8) (by exact noes_len 8)
          rw [decide_eq_true rfl] at KQ
          clear hT hlp hlp2
          go_wp2_with (first | ((with_reducible refine is_load 26 _ rfl ?_); refine wpList_load_at rfl 26 _ rfl _ rfl (plC (.slice (some ⟨G, 0, none⟩) xs.length cap) b o) _ A5 3 (plC_size _ _ _) _ Try.underlying26 rfl (by kernel_rfl) ?_) | ((with_reducible refine is_load 29 _ rfl ?_); refine wpList_load_at rfl 29 _ rfl _ rfl (bl cs) _ A6 8 (hcs8) _ Try.underlying29 rfl (by kernel_rfl) ?_) | ((with_reducible refine is_load 33 _ rfl ?_); refine wpList_load_at rfl 33 _ rfl _ rfl (ltC k s false) _ A9 3 (ltC_size _ _ _) _ Try.underlying33 rfl (by kernel_rfl) ?_))
          refine (KI _ AG).mono ?_
          rintro e v1 ⟨rfl, hb⟩
          replace AG := AG.step hb
          replace A5 := A5.step hb
          replace A6 := A6.step hb
          replace A9 := A9.step hb
          replace BW := Lib.hid (BW.out.trans (hb.mono BW.out.size))
          clear hb
          have L := At.new v1 (ltC 0 0 false) 33
          have A14 := L.setRow (ltC k 0 true)
          replace AG := (AG.alloc (.cells (ltC 0 0 false) 33)).setRow_other (k := v1.heap.size) (Nat.ne_of_lt AG.lt) (ltC k 0 true)
          replace A5 := (A5.alloc (.cells (ltC 0 0 false) 33)).setRow_other (k := v1.heap.size) (Nat.ne_of_lt A5.lt) (ltC k 0 true)
          replace A6 := (A6.alloc (.cells (ltC 0 0 false) 33)).setRow_other (k := v1.heap.size) (Nat.ne_of_lt A6.lt) (ltC k 0 true)
          replace A9 := (A9.alloc (.cells (ltC 0 0 false) 33)).setRow_other (k := v1.heap.size) (Nat.ne_of_lt A9.lt) (ltC k 0 true)
          replace BW := Lib.hid (bset (BW.out.alloc BW.out.size (.cells (ltC 0 0 false) 33)) (g := v1.heap.size) BW.out.size (ltC k 0 true))
          go_wp2_with (first | ((with_reducible refine is_store 33 _ _ rfl ?_); refine wpList_store_at rfl 33 _ _ rfl _ rfl (ltC k 0 true) rfl (ltC 0 0 false) _ L 3 (ltC_size _ _ _) (ltC_size _ _ _) (by kernel_rfl) (lt_one _ _ _) ?_) | ((with_reducible refine is_load 26 _ rfl ?_); refine wpList_load_at rfl 26 _ rfl _ rfl (plC (.slice (some ⟨G, 0, none⟩) xs.length cap) b o) _ A5 3 (plC_size _ _ _) _ Try.underlying26 rfl (by kernel_rfl) ?_) | ((with_reducible refine is_load 29 _ rfl ?_); refine wpList_load_at rfl 29 _ rfl _ rfl (bl cs) _ A6 8 (hcs8) _ Try.underlying29 rfl (by kernel_rfl) ?_) | ((with_reducible refine is_load 33 _ rfl ?_); refine wpList_load_at rfl 33 _ rfl _ rfl (ltC k s false) _ A9 3 (ltC_size _ _ _) _ Try.underlying33 rfl (by kernel_rfl) ?_))
          rw [show (#[.int .i64 0, .int .i64 0, .bool false] : Array Value) = ltC 0 0 false from by kernel_rfl]
          clear L
          generalize World.setRow _ _ _ = v2 at AG A5 A6 A9 A14 BW ⊢
          refine (KS _ AG).mono ?_
          rintro e v3 ⟨rfl, hb⟩
          replace AG := AG.step hb
          replace A5 := A5.step hb
          replace A6 := A6.step hb
          replace A9 := A9.step hb
          replace A14 := A14.step hb
          replace BW := Lib.hid (BW.out.trans (hb.mono BW.out.size))
          clear hb
          have L := At.new v3 (ltC 0 0 false) 33
          have A16 := L.setRow (ltC k 0 true)
          replace AG := (AG.alloc (.cells (ltC 0 0 false) 33)).setRow_other (k := v3.heap.size) (Nat.ne_of_lt AG.lt) (ltC k 0 true)
          replace A5 := (A5.alloc (.cells (ltC 0 0 false) 33)).setRow_other (k := v3.heap.size) (Nat.ne_of_lt A5.lt) (ltC k 0 true)
          replace A6 := (A6.alloc (.cells (ltC 0 0 false) 33)).setRow_other (k := v3.heap.size) (Nat.ne_of_lt A6.lt) (ltC k 0 true)
          replace A9 := (A9.alloc (.cells (ltC 0 0 false) 33)).setRow_other (k := v3.heap.size) (Nat.ne_of_lt A9.lt) (ltC k 0 true)
          replace A14 := (A14.alloc (.cells (ltC 0 0 false) 33)).setRow_other (k := v3.heap.size) (Nat.ne_of_lt A14.lt) (ltC k 0 true)
          replace BW := Lib.hid (bset (BW.out.alloc BW.out.size (.cells (ltC 0 0 false) 33)) (g := v3.heap.size) BW.out.size (ltC k 0 true))
          go_wp2_with (first | ((with_reducible refine is_store 33 _ _ rfl ?_); refine wpList_store_at rfl 33 _ _ rfl _ rfl (ltC k 0 true) rfl (ltC 0 0 false) _ L 3 (ltC_size _ _ _) (ltC_size _ _ _) (by kernel_rfl) (lt_one _ _ _) ?_) | ((with_reducible refine is_load 26 _ rfl ?_); refine wpList_load_at rfl 26 _ rfl _ rfl (plC (.slice (some ⟨G, 0, none⟩) xs.length cap) b o) _ A5 3 (plC_size _ _ _) _ Try.underlying26 rfl (by kernel_rfl) ?_) | ((with_reducible refine is_load 33 _ rfl ?_); refine wpList_load_at rfl 33 _ rfl _ rfl (ltC k 0 true) _ A16 3 (ltC_size _ _ _) _ Try.underlying33 rfl (by kernel_rfl) ?_))
          rw [show (#[.int .i64 0, .int .i64 0, .bool false] : Array Value) = ltC 0 0 false from by kernel_rfl]
          clear L
          generalize World.setRow _ _ _ = v4 at AG A5 A6 A9 A14 A16 BW ⊢
          refine (KL _ AG).mono ?_
          rintro e v5 ⟨rfl, hb⟩
          replace AG := AG.step hb
          replace A5 := A5.step hb
          replace A6 := A6.step hb
          replace A9 := A9.step hb
          replace A14 := A14.step hb
          replace A16 := A16.step hb
          replace BW := Lib.hid (BW.out.trans (hb.mono BW.out.size))
          clear hb
          clear KI KS KL
          have L := At.new v5 (bl (noes 8)) 29
          have A18 := L.setRow (bl (noes 8))
          replace AG := (AG.alloc (.cells (bl (noes 8)) 29)).setRow_other (k := v5.heap.size) (Nat.ne_of_lt AG.lt) (bl (noes 8))
          replace A5 := (A5.alloc (.cells (bl (noes 8)) 29)).setRow_other (k := v5.heap.size) (Nat.ne_of_lt A5.lt) (bl (noes 8))
          replace A6 := (A6.alloc (.cells (bl (noes 8)) 29)).setRow_other (k := v5.heap.size) (Nat.ne_of_lt A6.lt) (bl (noes 8))
          replace A9 := (A9.alloc (.cells (bl (noes 8)) 29)).setRow_other (k := v5.heap.size) (Nat.ne_of_lt A9.lt) (bl (noes 8))
          replace A14 := (A14.alloc (.cells (bl (noes 8)) 29)).setRow_other (k := v5.heap.size) (Nat.ne_of_lt A14.lt) (bl (noes 8))
          replace A16 := (A16.alloc (.cells (bl (noes 8)) 29)).setRow_other (k := v5.heap.size) (Nat.ne_of_lt A16.lt) (bl (noes 8))
          replace BW := Lib.hid (bset (BW.out.alloc BW.out.size (.cells (bl (noes 8)) 29)) (g := v5.heap.size) BW.out.size (bl (noes 8)))
          go_wp2_with (first | ((with_reducible refine is_store 29 _ _ rfl ?_); refine wpList_store_at rfl 29 _ _ rfl _ rfl (bl (noes 8)) rfl (bl (noes 8)) _ L 8 (hph) (by rw [bl_size, noes_len]) (by kernel_rfl) (bl_one _) ?_) | ((with_reducible refine is_load 33 _ rfl ?_); refine wpList_load_part_g rfl 33 _ rfl _ 0 rfl (ltC k 0 true) _ A14 3 (by rw [ltC_size]; omega) _ Try.underlying33 rfl (by kernel_rfl) (ltC k 0 true) (by rw [Nat.zero_add, Array.extract_eq_self_of_le (by rw [ltC_size]; exact Nat.le_refl _)]) ?_) | ((with_reducible refine is_load 33 _ rfl ?_); refine wpList_load_part_g rfl 33 _ rfl _ 0 rfl (ltC k 0 true) _ A16 3 (by rw [ltC_size]; omega) _ Try.underlying33 rfl (by kernel_rfl) (ltC k 0 true) (by rw [Nat.zero_add, Array.extract_eq_self_of_le (by rw [ltC_size]; exact Nat.le_refl _)]) ?_))
          rw [show (#[.bool false, .bool false, .bool false, .bool false, .bool false, .bool false, .bool false, .bool false] : Array Value) = bl (noes 8) from by kernel_rfl]
          clear L
          generalize World.setRow _ _ _ = v6 at AG A5 A6 A9 A14 A16 A18 BW ⊢
          have kd2 : (k : Int) < (xs.length : Int) := by omega
          have SS2 := slY_size (zs := zs) hW
          have hle2 : k * 9 + 8 ≤ (slY xs zs).size := by omega
          have hpp2 := slY_phase (zs := zs) hW hknl (k := k * 9) rfl
          clear SS2
          have hC := Cb.const v6
          refine wp_region_cb (by kernel_rfl) (by kernel_rfl) ?_
          repeat (first
            | go_big_quiet_skip
            | (go_big_quiet_want; first
              | (refine q_oneL 4 _ rfl _ Try.underlying4 rfl 2 rfl A16 _ (ltC_2 _ _ _) ?_; go_simp; go_big_quiet_on)
              | (refine q_oneL 2 _ rfl _ Try.underlying2 rfl 0 rfl A16 _ (ltC_0 _ _ _) ?_; go_simp; go_big_quiet_on)
              | (refine q_oneL 24 _ rfl _ Try.underlying24 rfl 0 rfl A5 _ (plC_0 _ _ _) ?_; go_simp; go_big_quiet_on)
              | (refine q_row 29 _ rfl rfl A18 8 hph _ Try.underlying29 rfl (by kernel_rfl) ?_; go_simp; go_big_quiet_on)
              | (refine q_part 29 _ rfl (k * 9) rfl AG 8 hle2 _ Try.underlying29 rfl (by kernel_rfl) (bl (sb xs k)) hpp2 ?_; go_simp; go_big_quiet_on)
              | (refine q_build0 29 rfl (bl (noes 8)) (by kernel_rfl) ?_; go_simp; go_big_quiet_on)
              | (refine q_neqT 29 _ _ rfl _ _ rfl rfl (by kernel_rfl) _ KQ ?_; go_simp; go_big_quiet_on)
              | (go_big_quiet_op; go_big_quiet_on)))
          refine wpQuiet_nil ?_
          intro v7 hb
          replace AG := AG.step hb
          replace A5 := A5.step hb
          replace A6 := A6.step hb
          replace A9 := A9.step hb
          replace A14 := A14.step hb
          replace A16 := A16.step hb
          replace A18 := A18.step hb
          replace BW := Lib.hid (BW.out.trans (hb.mono BW.out.size))
          clear hb hC
          clear kd2 hle2 hpp2 A14 A18 KQ KN hph
          have c90 := A9.cell (ltC_0 _ _ _)
          have c92 := A9.cell (ltC_2 _ _ _)
          have c160 := A16.cell (ltC_0 _ _ _)
          have c161 := A16.cell (ltC_1 _ _ _)
          have c162 := A16.cell (ltC_2 _ _ _)
          have sst : IntKind.i64.wrap ((st : Int) + 1) = (st : Int) + 1 := IntWalk.i64_in _ (by omega)
          have hG4 := HG.out
          have A9b := A9.setRow (ltC k 0 true)
          have AGb := AG.setRow_other (k := w7.heap.size) (by omega) (ltC k 0 true)
          have A5b := A5.setRow_other (k := w7.heap.size) (by omega) (ltC k 0 true)
          have A6b := A6.setRow_other (k := w7.heap.size) (by omega) (ltC k 0 true)
          have B9 := Lib.hid (bset BW.out (g := w7.heap.size) (by omega) (ltC k 0 true))
          go_wp2_with (first | ((with_reducible refine is_load 33 _ rfl ?_); refine wpList_load_at rfl 33 _ rfl _ rfl (ltC k 0 true) _ A16 3 (ltC_size _ _ _) _ Try.underlying33 rfl (by kernel_rfl) ?_) | ((with_reducible refine is_store 33 _ _ rfl ?_); refine wpList_store_at rfl 33 _ _ rfl _ rfl (ltC k 0 true) rfl (ltC k s false) _ A9 3 (ltC_size _ _ _) (ltC_size _ _ _) (by kernel_rfl) (lt_one _ _ _) ?_))
          exact ⟨⟨k, 0, true, (st + 1), rd, i + 1, tn, by omega, by omega, by go_num, by go_num, by go_num, by go_num, Lib.hid I2, AGb, A5b, A6b, A9b, B9⟩, by simp [intOf]; omega⟩
      · as_aux_lemma =>
          obtain ⟨kn, hkn⟩ : ∃ q, q = (k + 1) % xs.length := ⟨_, rfl⟩
          rw [← hkn] at hT
          have hknl : kn < xs.length := by rw [hkn]; exact Nat.mod_lt _ (by omega)
          have HKN := Lib.hid hkn
          have HST := Lib.hid hst
          have HRB := Lib.hid hrb
          clear hkn hst hrb
          have HB0 := Lib.hid hb0
          clear hb0
          have hlp2 : lpB xs b o kn ((0 : Nat) : Int) false = true := lp_of hok hknl (by omega) (by intro h; cases h)
          have KI := fun w A0 => StepLight_e cap zs G xs b o hW 40 cs hcs le mo k s false kn 0 false hlp (by omega) hI0.out.lt (by omega) (by omega) (by omega) (by omega) hT w A0
          have KS := fun w A0 => sStepLight_e cap zs G xs b o hW 40 cs hcs le mo k s false kn 0 false hlp (by omega) hI0.out.lt (by omega) (by omega) (by omega) (by omega) hT w A0
          have KL := fun w A0 => LightPhaseZ_any cap zs G xs b o hW 40 kn ((0 : Nat) : Int) false (by omega) w A0
          rw [vLp_gr hlp2] at KL
          rw [show ((0 : Nat) : Int) = 0 from rfl] at KI KS KL
          have hph : (bl (sb xs kn)).size = 8 := by rw [bl_size]; exact (hW.at hknl).1
          have KN := fun w => run_neq_light w kn 0 false
          have KQ := fun w => run_neq_phases w (sb xs kn) (sb xs kn) (by exact (hW.at hknl).1) (by exact (hW.at hknl).1)
          rw [decide_eq_true rfl] at KQ
          clear hT hlp hlp2
          go_wp2_with (first | ((with_reducible refine is_load 26 _ rfl ?_); refine wpList_load_at rfl 26 _ rfl _ rfl (plC (.slice (some ⟨G, 0, none⟩) xs.length cap) b o) _ A5 3 (plC_size _ _ _) _ Try.underlying26 rfl (by kernel_rfl) ?_) | ((with_reducible refine is_load 29 _ rfl ?_); refine wpList_load_at rfl 29 _ rfl _ rfl (bl cs) _ A6 8 (hcs8) _ Try.underlying29 rfl (by kernel_rfl) ?_) | ((with_reducible refine is_load 33 _ rfl ?_); refine wpList_load_at rfl 33 _ rfl _ rfl (ltC k s false) _ A9 3 (ltC_size _ _ _) _ Try.underlying33 rfl (by kernel_rfl) ?_))
          refine (KI _ AG).mono ?_
          rintro e v1 ⟨rfl, hb⟩
          replace AG := AG.step hb
          replace A5 := A5.step hb
          replace A6 := A6.step hb
          replace A9 := A9.step hb
          replace BW := Lib.hid (BW.out.trans (hb.mono BW.out.size))
          clear hb
          have L := At.new v1 (ltC 0 0 false) 33
          have A14 := L.setRow (ltC kn 0 false)
          replace AG := (AG.alloc (.cells (ltC 0 0 false) 33)).setRow_other (k := v1.heap.size) (Nat.ne_of_lt AG.lt) (ltC kn 0 false)
          replace A5 := (A5.alloc (.cells (ltC 0 0 false) 33)).setRow_other (k := v1.heap.size) (Nat.ne_of_lt A5.lt) (ltC kn 0 false)
          replace A6 := (A6.alloc (.cells (ltC 0 0 false) 33)).setRow_other (k := v1.heap.size) (Nat.ne_of_lt A6.lt) (ltC kn 0 false)
          replace A9 := (A9.alloc (.cells (ltC 0 0 false) 33)).setRow_other (k := v1.heap.size) (Nat.ne_of_lt A9.lt) (ltC kn 0 false)
          replace BW := Lib.hid (bset (BW.out.alloc BW.out.size (.cells (ltC 0 0 false) 33)) (g := v1.heap.size) BW.out.size (ltC kn 0 false))
          go_wp2_with (first | ((with_reducible refine is_store 33 _ _ rfl ?_); refine wpList_store_at rfl 33 _ _ rfl _ rfl (ltC kn 0 false) rfl (ltC 0 0 false) _ L 3 (ltC_size _ _ _) (ltC_size _ _ _) (by kernel_rfl) (lt_one _ _ _) ?_) | ((with_reducible refine is_load 26 _ rfl ?_); refine wpList_load_at rfl 26 _ rfl _ rfl (plC (.slice (some ⟨G, 0, none⟩) xs.length cap) b o) _ A5 3 (plC_size _ _ _) _ Try.underlying26 rfl (by kernel_rfl) ?_) | ((with_reducible refine is_load 29 _ rfl ?_); refine wpList_load_at rfl 29 _ rfl _ rfl (bl cs) _ A6 8 (hcs8) _ Try.underlying29 rfl (by kernel_rfl) ?_) | ((with_reducible refine is_load 33 _ rfl ?_); refine wpList_load_at rfl 33 _ rfl _ rfl (ltC k s false) _ A9 3 (ltC_size _ _ _) _ Try.underlying33 rfl (by kernel_rfl) ?_))
          rw [show (#[.int .i64 0, .int .i64 0, .bool false] : Array Value) = ltC 0 0 false from by kernel_rfl]
          clear L
          generalize World.setRow _ _ _ = v2 at AG A5 A6 A9 A14 BW ⊢
          refine (KS _ AG).mono ?_
          rintro e v3 ⟨rfl, hb⟩
          replace AG := AG.step hb
          replace A5 := A5.step hb
          replace A6 := A6.step hb
          replace A9 := A9.step hb
          replace A14 := A14.step hb
          replace BW := Lib.hid (BW.out.trans (hb.mono BW.out.size))
          clear hb
          have L := At.new v3 (ltC 0 0 false) 33
          have A16 := L.setRow (ltC kn 0 false)
          replace AG := (AG.alloc (.cells (ltC 0 0 false) 33)).setRow_other (k := v3.heap.size) (Nat.ne_of_lt AG.lt) (ltC kn 0 false)
          replace A5 := (A5.alloc (.cells (ltC 0 0 false) 33)).setRow_other (k := v3.heap.size) (Nat.ne_of_lt A5.lt) (ltC kn 0 false)
          replace A6 := (A6.alloc (.cells (ltC 0 0 false) 33)).setRow_other (k := v3.heap.size) (Nat.ne_of_lt A6.lt) (ltC kn 0 false)
          replace A9 := (A9.alloc (.cells (ltC 0 0 false) 33)).setRow_other (k := v3.heap.size) (Nat.ne_of_lt A9.lt) (ltC kn 0 false)
          replace A14 := (A14.alloc (.cells (ltC 0 0 false) 33)).setRow_other (k := v3.heap.size) (Nat.ne_of_lt A14.lt) (ltC kn 0 false)
          replace BW := Lib.hid (bset (BW.out.alloc BW.out.size (.cells (ltC 0 0 false) 33)) (g := v3.heap.size) BW.out.size (ltC kn 0 false))
          go_wp2_with (first | ((with_reducible refine is_store 33 _ _ rfl ?_); refine wpList_store_at rfl 33 _ _ rfl _ rfl (ltC kn 0 false) rfl (ltC 0 0 false) _ L 3 (ltC_size _ _ _) (ltC_size _ _ _) (by kernel_rfl) (lt_one _ _ _) ?_) | ((with_reducible refine is_load 26 _ rfl ?_); refine wpList_load_at rfl 26 _ rfl _ rfl (plC (.slice (some ⟨G, 0, none⟩) xs.length cap) b o) _ A5 3 (plC_size _ _ _) _ Try.underlying26 rfl (by kernel_rfl) ?_) | ((with_reducible refine is_load 33 _ rfl ?_); refine wpList_load_at rfl 33 _ rfl _ rfl (ltC kn 0 false) _ A16 3 (ltC_size _ _ _) _ Try.underlying33 rfl (by kernel_rfl) ?_))
          rw [show (#[.int .i64 0, .int .i64 0, .bool false] : Array Value) = ltC 0 0 false from by kernel_rfl]
          clear L
          generalize World.setRow _ _ _ = v4 at AG A5 A6 A9 A14 A16 BW ⊢
          refine (KL _ AG).mono ?_
          rintro e v5 ⟨rfl, hb⟩
          replace AG := AG.step hb
          replace A5 := A5.step hb
          replace A6 := A6.step hb
          replace A9 := A9.step hb
          replace A14 := A14.step hb
          replace A16 := A16.step hb
          replace BW := Lib.hid (BW.out.trans (hb.mono BW.out.size))
          clear hb
          clear KI KS KL
          have L := At.new v5 (bl (noes 8)) 29
          have A18 := L.setRow (bl (sb xs kn))
          replace AG := (AG.alloc (.cells (bl (noes 8)) 29)).setRow_other (k := v5.heap.size) (Nat.ne_of_lt AG.lt) (bl (sb xs kn))
          replace A5 := (A5.alloc (.cells (bl (noes 8)) 29)).setRow_other (k := v5.heap.size) (Nat.ne_of_lt A5.lt) (bl (sb xs kn))
          replace A6 := (A6.alloc (.cells (bl (noes 8)) 29)).setRow_other (k := v5.heap.size) (Nat.ne_of_lt A6.lt) (bl (sb xs kn))
          replace A9 := (A9.alloc (.cells (bl (noes 8)) 29)).setRow_other (k := v5.heap.size) (Nat.ne_of_lt A9.lt) (bl (sb xs kn))
          replace A14 := (A14.alloc (.cells (bl (noes 8)) 29)).setRow_other (k := v5.heap.size) (Nat.ne_of_lt A14.lt) (bl (sb xs kn))
          replace A16 := (A16.alloc (.cells (bl (noes 8)) 29)).setRow_other (k := v5.heap.size) (Nat.ne_of_lt A16.lt) (bl (sb xs kn))
          replace BW := Lib.hid (bset (BW.out.alloc BW.out.size (.cells (bl (noes 8)) 29)) (g := v5.heap.size) BW.out.size (bl (sb xs kn)))
          go_wp2_with (first | ((with_reducible refine is_store 29 _ _ rfl ?_); refine wpList_store_at rfl 29 _ _ rfl _ rfl (bl (sb xs kn)) rfl (bl (noes 8)) _ L 8 (hph) (by rw [bl_size, noes_len]) (by kernel_rfl) (bl_one _) ?_) | ((with_reducible refine is_load 33 _ rfl ?_); refine wpList_load_part_g rfl 33 _ rfl _ 0 rfl (ltC kn 0 false) _ A14 3 (by rw [ltC_size]; omega) _ Try.underlying33 rfl (by kernel_rfl) (ltC kn 0 false) (by rw [Nat.zero_add, Array.extract_eq_self_of_le (by rw [ltC_size]; exact Nat.le_refl _)]) ?_) | ((with_reducible refine is_load 33 _ rfl ?_); refine wpList_load_part_g rfl 33 _ rfl _ 0 rfl (ltC kn 0 false) _ A16 3 (by rw [ltC_size]; omega) _ Try.underlying33 rfl (by kernel_rfl) (ltC kn 0 false) (by rw [Nat.zero_add, Array.extract_eq_self_of_le (by rw [ltC_size]; exact Nat.le_refl _)]) ?_))
          rw [show (#[.bool false, .bool false, .bool false, .bool false, .bool false, .bool false, .bool false, .bool false] : Array Value) = bl (noes 8) from by kernel_rfl]
          clear L
          generalize World.setRow _ _ _ = v6 at AG A5 A6 A9 A14 A16 A18 BW ⊢
          have kd2 : (kn : Int) < (xs.length : Int) := by omega
          have SS2 := slY_size (zs := zs) hW
          have hle2 : kn * 9 + 8 ≤ (slY xs zs).size := by omega
          have hpp2 := slY_phase (zs := zs) hW hknl (k := kn * 9) rfl
          clear SS2
          have hC := Cb.const v6
          refine wp_region_cb (by kernel_rfl) (by kernel_rfl) ?_
          repeat (first
            | go_big_quiet_skip
            | (go_big_quiet_want; first
              | (refine q_oneL 4 _ rfl _ Try.underlying4 rfl 2 rfl A16 _ (ltC_2 _ _ _) ?_; go_simp; go_big_quiet_on)
              | (refine q_oneL 2 _ rfl _ Try.underlying2 rfl 0 rfl A16 _ (ltC_0 _ _ _) ?_; go_simp; go_big_quiet_on)
              | (refine q_oneL 24 _ rfl _ Try.underlying24 rfl 0 rfl A5 _ (plC_0 _ _ _) ?_; go_simp; go_big_quiet_on)
              | (refine q_row 29 _ rfl rfl A18 8 hph _ Try.underlying29 rfl (by kernel_rfl) ?_; go_simp; go_big_quiet_on)
              | (refine q_part 29 _ rfl (kn * 9) rfl AG 8 hle2 _ Try.underlying29 rfl (by kernel_rfl) (bl (sb xs kn)) hpp2 ?_; go_simp; go_big_quiet_on)
              | (refine q_build0 29 rfl (bl (noes 8)) (by kernel_rfl) ?_; go_simp; go_big_quiet_on)
              | (refine q_neqT 29 _ _ rfl _ _ rfl rfl (by kernel_rfl) _ KQ ?_; go_simp; go_big_quiet_on)
              | (go_big_quiet_op; go_big_quiet_on)))
          refine wpQuiet_nil ?_
          intro v7 hb
          replace AG := AG.step hb
          replace A5 := A5.step hb
          replace A6 := A6.step hb
          replace A9 := A9.step hb
          replace A14 := A14.step hb
          replace A16 := A16.step hb
          replace A18 := A18.step hb
          replace BW := Lib.hid (BW.out.trans (hb.mono BW.out.size))
          clear hb hC
          clear kd2 hle2 hpp2 A14 A18 KQ KN hph
          have hst2 : le ≤ st + 1 ∧ st + 1 ≤ mo := by have := HST.out; split at this <;> omega
          have sst : IntKind.i64.wrap ((st : Int) + 1) = (st : Int) + 1 := IntWalk.i64_in _ (by omega)
          have stn : IntKind.i64.wrap ((tn : Int) + 1) = (tn : Int) + 1 := IntWalk.i64_in _ (by omega)
          have f1 : (((st : Int) + 1) < (le : Int)) = False := eq_false (by omega)
          have f2 : ((mo : Int) < ((st : Int) + 1)) = False := eq_false (by omega)
          have f3 : ((rd : Int) = (b : Int)) = True := eq_true (by have := HRB.out; omega)
          have f4 : ((rd : Int) != (b : Int)) = false := bne_eq_false_iff_eq.mpr (of_eq_true f3)
          have g1 : (st + 1 < le) = False := eq_false (by omega)
          have g2 : (mo < st + 1) = False := eq_false (by omega)
          have g3 : (rd = b) = True := eq_true HRB.out
          have hkl0 := hI0.out.lt
          have hm0 : ¬ (xs.length : Int) = 0 := by omega
          have q1 : IntKind.i64.wrap ((k : Int) + 1) = (k : Int) + 1 := IntWalk.i64_in _ (by omega)
          have hq0 : ((k : Int) + 1) % (xs.length : Int) = (kn : Int) := by
            have hq : (((k + 1) % xs.length : Nat) : Int) = ((k : Int) + 1) % (xs.length : Int) := by simp
            rw [← hq, ← HKN.out]
          have q2 : IntKind.i64.wrap (((k : Int) + 1).tmod (xs.length : Int)) = ((k : Int) + 1) % (xs.length : Int) := by
            rw [Int.tmod_eq_emod_of_nonneg (by omega), hq0]
            exact IntWalk.i64_in _ (by omega)
          have q3 : ((kn : Int) != ((k : Int) + 1) % (xs.length : Int)) = false := by rw [hq0]; simp
          clear hq0
          have HI := Lib.hid (LInv.next (b := b) (cs := cs) (i := i + 1) (tn := tn) hkl0 hl1.1 hm1.1)
          rw [← HKN.out] at HI
          have hek : ((((kn : Int) = (k : Int)) = True) ∧ (((kn : Int) != (k : Int)) = false)) ∨ ((((kn : Int) = (k : Int)) = False) ∧ (((kn : Int) != (k : Int)) = true)) := by
            by_cases h : kn = k
            · exact Or.inl ⟨eq_true (by omega), bne_eq_false_iff_eq.mpr (by omega)⟩
            · exact Or.inr ⟨eq_false (by omega), bne_iff_ne.mpr (by omega)⟩
          rcases hek with ⟨hek, hek2⟩ | ⟨hek, hek2⟩
          · have c90 := A9.cell (ltC_0 _ _ _)
            have c92 := A9.cell (ltC_2 _ _ _)
            have c160 := A16.cell (ltC_0 _ _ _)
            have c161 := A16.cell (ltC_1 _ _ _)
            have c162 := A16.cell (ltC_2 _ _ _)
            go_wp2_with fail
            have hC := Cb.const v7
            refine wp_region_cb (by kernel_rfl) (by kernel_rfl) ?_
            repeat (first
              | go_big_quiet_skip
              | (go_big_quiet_want; first
                | (refine q_oneL 2 _ rfl _ Try.underlying2 rfl 0 rfl A16 _ (ltC_0 _ _ _) ?_; go_simp; go_big_quiet_on)
                | (refine q_oneL 2 _ rfl _ Try.underlying2 rfl 0 rfl A9 _ (ltC_0 _ _ _) ?_; go_simp; go_big_quiet_on)
                | (refine q_oneL 24 _ rfl _ Try.underlying24 rfl 0 rfl A5 _ (plC_0 _ _ _) ?_; go_simp; go_big_quiet_on)
                | (refine q_oneL 2 _ rfl _ Try.underlying2 rfl 1 rfl A5 _ (plC_1 _ _ _) ?_; go_simp; go_big_quiet_on)
                | (go_big_quiet_op; go_big_quiet_on)))
            refine wpQuiet_nil ?_
            intro v8 hb
            replace AG := AG.step hb
            replace A5 := A5.step hb
            replace A6 := A6.step hb
            replace A9 := A9.step hb
            replace A16 := A16.step hb
            replace BW := Lib.hid (BW.out.trans (hb.mono BW.out.size))
            clear hb hC
            go_wp2_with fail
            go_loopw [20, 21] (fun cv jv wr => ∃ (j : Nat) (c : Bool), j ≤ 8 ∧ jv = .int .i64 (j : Int) ∧ cv = .bool c ∧ Hid (c = cal (sb xs k) cs j) ∧ At wr G (slY xs zs) 40 ∧ At wr w1.heap.size (plC (.slice (some ⟨G, 0, none⟩) xs.length cap) b o) 26 ∧ At wr w3.heap.size (bl cs) 29 ∧ At wr w7.heap.size (ltC k s false) 33 ∧ At wr v3.heap.size (ltC kn 0 false) 33 ∧ Hid (Below w0.heap.size w0 wr)) (fun _ jv _ => 8 - (intOf jv).toNat)
            case atStart => exact ⟨0, false, by omega, rfl, rfl, Lib.hid rfl, AG, A5, A6, A9, A16, BW⟩
            case round =>
              clear AG A5 A6 A9 A16 BW
              obtain ⟨j, c, hj, rfl, rfl, hc, AG, A5, A6, A9, A16, BW⟩ := hrel
              by_cases hj8 : j < 8
              · have s4 : IntKind.i64.wrap ((j : Int) + 1) = (j : Int) + 1 := IntWalk.i64_in _ (by omega)
                have jd8 : (j : Int) < 8 := by omega
                have kd : (k : Int) < (xs.length : Int) := by omega
                have d0 := A5.cell (plC_0 _ _ _)
                have d3 := A9.cell (ltC_0 _ _ _)
                have d1 := AG.cell (slY_green (zs := zs) hW hkl0 hj8 (k := k * 9 + j) rfl)
                have d2 := A6.cell (bl_get (bs := cs) (k := j) (by omega))
                cases c
                · cases hg : bn (sb xs k) j
                  · rw [hg] at d1
                    have hc2 := Lib.hid (show false = cal (sb xs k) cs (j + 1) from by rw [cal, ← hc.out, hg]; rfl)
                    clear hg hc
                    go_wp2_with fail
                    exact ⟨⟨j + 1, _, by omega, by go_num, rfl, hc2, AG, A5, A6, A9, A16, BW⟩, by simp [intOf]; omega⟩
                  · cases hq : bn cs j
                    · rw [hg] at d1
                      rw [hq] at d2
                      have hc2 := Lib.hid (show false = cal (sb xs k) cs (j + 1) from by rw [cal, ← hc.out, hg, hq]; rfl)
                      clear hg hq hc
                      go_wp2_with fail
                      exact ⟨⟨j + 1, _, by omega, by go_num, rfl, hc2, AG, A5, A6, A9, A16, BW⟩, by simp [intOf]; omega⟩
                    · rw [hg] at d1
                      rw [hq] at d2
                      have hc2 := Lib.hid (show true = cal (sb xs k) cs (j + 1) from by rw [cal, ← hc.out, hg, hq]; rfl)
                      clear hg hq hc
                      go_wp2_with fail
                      exact ⟨⟨j + 1, _, by omega, by go_num, rfl, hc2, AG, A5, A6, A9, A16, BW⟩, by simp [intOf]; omega⟩
                · have hc2 := Lib.hid (show true = cal (sb xs k) cs (j + 1) from by rw [cal, ← hc.out]; rfl)
                  clear hc
                  go_wp2_with fail
                  exact ⟨⟨j + 1, _, by omega, by go_num, rfl, hc2, AG, A5, A6, A9, A16, BW⟩, by simp [intOf]; omega⟩
              · obtain rfl : j = 8 := by omega
                cases c
                · have h5 : st + 1 = le := by have := HST.out; rw [← hc.out] at this; rw [if_neg (by decide)] at this; exact this
                  have f5 : (((st : Int) + 1) = (le : Int)) = True := eq_true (by omega)
                  have g5 : ((((st : Int) + 1)) != (le : Int)) = false := bne_eq_false_iff_eq.mpr (by omega)
                  clear h5
                  have hG4 := HG.out
                  have A9b := A9.setRow (ltC kn 0 false)
                  have AGb := AG.setRow_other (k := w7.heap.size) (by omega) (ltC kn 0 false)
                  have A5b := A5.setRow_other (k := w7.heap.size) (by omega) (ltC kn 0 false)
                  have A6b := A6.setRow_other (k := w7.heap.size) (by omega) (ltC kn 0 false)
                  have B9 := Lib.hid (bset BW.out (g := w7.heap.size) (by omega) (ltC kn 0 false))
                  go_wp2_with (first | ((with_reducible refine is_load 33 _ rfl ?_); refine wpList_load_at rfl 33 _ rfl _ rfl (ltC kn 0 false) _ A16 3 (ltC_size _ _ _) _ Try.underlying33 rfl (by kernel_rfl) ?_) | ((with_reducible refine is_store 33 _ _ rfl ?_); refine wpList_store_at rfl 33 _ _ rfl _ rfl (ltC kn 0 false) rfl (ltC k s false) _ A9 3 (ltC_size _ _ _) (ltC_size _ _ _) (by kernel_rfl) (lt_one _ _ _) ?_))
                  exact ⟨⟨kn, 0, false, 0, 0, i + 1, (tn + 1), by omega, by omega, by go_num, by go_num, by go_num, by go_num, HI, AGb, A5b, A6b, A9b, B9⟩, by simp [intOf]; omega⟩
                · have h5 : st + 1 = mo := by have := HST.out; rw [← hc.out] at this; rw [if_pos rfl] at this; exact this
                  have f5 : (((st : Int) + 1) = (mo : Int)) = True := eq_true (by omega)
                  have g5 : ((((st : Int) + 1)) != (mo : Int)) = false := bne_eq_false_iff_eq.mpr (by omega)
                  clear h5
                  have hG4 := HG.out
                  have A9b := A9.setRow (ltC kn 0 false)
                  have AGb := AG.setRow_other (k := w7.heap.size) (by omega) (ltC kn 0 false)
                  have A5b := A5.setRow_other (k := w7.heap.size) (by omega) (ltC kn 0 false)
                  have A6b := A6.setRow_other (k := w7.heap.size) (by omega) (ltC kn 0 false)
                  have B9 := Lib.hid (bset BW.out (g := w7.heap.size) (by omega) (ltC kn 0 false))
                  go_wp2_with (first | ((with_reducible refine is_load 33 _ rfl ?_); refine wpList_load_at rfl 33 _ rfl _ rfl (ltC kn 0 false) _ A16 3 (ltC_size _ _ _) _ Try.underlying33 rfl (by kernel_rfl) ?_) | ((with_reducible refine is_store 33 _ _ rfl ?_); refine wpList_store_at rfl 33 _ _ rfl _ rfl (ltC kn 0 false) rfl (ltC k s false) _ A9 3 (ltC_size _ _ _) (ltC_size _ _ _) (by kernel_rfl) (lt_one _ _ _) ?_))
                  exact ⟨⟨kn, 0, false, 0, 0, i + 1, (tn + 1), by omega, by omega, by go_num, by go_num, by go_num, by go_num, HI, AGb, A5b, A6b, A9b, B9⟩, by simp [intOf]; omega⟩
          · have c90 := A9.cell (ltC_0 _ _ _)
            have c92 := A9.cell (ltC_2 _ _ _)
            have c160 := A16.cell (ltC_0 _ _ _)
            have c161 := A16.cell (ltC_1 _ _ _)
            have c162 := A16.cell (ltC_2 _ _ _)
            go_wp2_with fail
            have hC := Cb.const v7
            refine wp_region_cb (by kernel_rfl) (by kernel_rfl) ?_
            repeat (first
              | go_big_quiet_skip
              | (go_big_quiet_want; first
                | (refine q_oneL 2 _ rfl _ Try.underlying2 rfl 0 rfl A16 _ (ltC_0 _ _ _) ?_; go_simp; go_big_quiet_on)
                | (refine q_oneL 2 _ rfl _ Try.underlying2 rfl 0 rfl A9 _ (ltC_0 _ _ _) ?_; go_simp; go_big_quiet_on)
                | (refine q_oneL 24 _ rfl _ Try.underlying24 rfl 0 rfl A5 _ (plC_0 _ _ _) ?_; go_simp; go_big_quiet_on)
                | (refine q_oneL 2 _ rfl _ Try.underlying2 rfl 1 rfl A5 _ (plC_1 _ _ _) ?_; go_simp; go_big_quiet_on)
                | (go_big_quiet_op; go_big_quiet_on)))
            refine wpQuiet_nil ?_
            intro v8 hb
            replace AG := AG.step hb
            replace A5 := A5.step hb
            replace A6 := A6.step hb
            replace A9 := A9.step hb
            replace A16 := A16.step hb
            replace BW := Lib.hid (BW.out.trans (hb.mono BW.out.size))
            clear hb hC
            go_wp2_with fail
            go_loopw [20, 21] (fun cv jv wr => ∃ (j : Nat) (c : Bool), j ≤ 8 ∧ jv = .int .i64 (j : Int) ∧ cv = .bool c ∧ Hid (c = cal (sb xs k) cs j) ∧ At wr G (slY xs zs) 40 ∧ At wr w1.heap.size (plC (.slice (some ⟨G, 0, none⟩) xs.length cap) b o) 26 ∧ At wr w3.heap.size (bl cs) 29 ∧ At wr w7.heap.size (ltC k s false) 33 ∧ At wr v3.heap.size (ltC kn 0 false) 33 ∧ Hid (Below w0.heap.size w0 wr)) (fun _ jv _ => 8 - (intOf jv).toNat)
            case atStart => exact ⟨0, false, by omega, rfl, rfl, Lib.hid rfl, AG, A5, A6, A9, A16, BW⟩
            case round =>
              clear AG A5 A6 A9 A16 BW
              obtain ⟨j, c, hj, rfl, rfl, hc, AG, A5, A6, A9, A16, BW⟩ := hrel
              by_cases hj8 : j < 8
              · have s4 : IntKind.i64.wrap ((j : Int) + 1) = (j : Int) + 1 := IntWalk.i64_in _ (by omega)
                have jd8 : (j : Int) < 8 := by omega
                have kd : (k : Int) < (xs.length : Int) := by omega
                have d0 := A5.cell (plC_0 _ _ _)
                have d3 := A9.cell (ltC_0 _ _ _)
                have d1 := AG.cell (slY_green (zs := zs) hW hkl0 hj8 (k := k * 9 + j) rfl)
                have d2 := A6.cell (bl_get (bs := cs) (k := j) (by omega))
                cases c
                · cases hg : bn (sb xs k) j
                  · rw [hg] at d1
                    have hc2 := Lib.hid (show false = cal (sb xs k) cs (j + 1) from by rw [cal, ← hc.out, hg]; rfl)
                    clear hg hc
                    go_wp2_with fail
                    exact ⟨⟨j + 1, _, by omega, by go_num, rfl, hc2, AG, A5, A6, A9, A16, BW⟩, by simp [intOf]; omega⟩
                  · cases hq : bn cs j
                    · rw [hg] at d1
                      rw [hq] at d2
                      have hc2 := Lib.hid (show false = cal (sb xs k) cs (j + 1) from by rw [cal, ← hc.out, hg, hq]; rfl)
                      clear hg hq hc
                      go_wp2_with fail
                      exact ⟨⟨j + 1, _, by omega, by go_num, rfl, hc2, AG, A5, A6, A9, A16, BW⟩, by simp [intOf]; omega⟩
                    · rw [hg] at d1
                      rw [hq] at d2
                      have hc2 := Lib.hid (show true = cal (sb xs k) cs (j + 1) from by rw [cal, ← hc.out, hg, hq]; rfl)
                      clear hg hq hc
                      go_wp2_with fail
                      exact ⟨⟨j + 1, _, by omega, by go_num, rfl, hc2, AG, A5, A6, A9, A16, BW⟩, by simp [intOf]; omega⟩
                · have hc2 := Lib.hid (show true = cal (sb xs k) cs (j + 1) from by rw [cal, ← hc.out]; rfl)
                  clear hc
                  go_wp2_with fail
                  exact ⟨⟨j + 1, _, by omega, by go_num, rfl, hc2, AG, A5, A6, A9, A16, BW⟩, by simp [intOf]; omega⟩
              · obtain rfl : j = 8 := by omega
                cases c
                · have h5 : st + 1 = le := by have := HST.out; rw [← hc.out] at this; rw [if_neg (by decide)] at this; exact this
                  have f5 : (((st : Int) + 1) = (le : Int)) = True := eq_true (by omega)
                  have g5 : ((((st : Int) + 1)) != (le : Int)) = false := bne_eq_false_iff_eq.mpr (by omega)
                  clear h5
                  have hG4 := HG.out
                  have A9b := A9.setRow (ltC kn 0 false)
                  have AGb := AG.setRow_other (k := w7.heap.size) (by omega) (ltC kn 0 false)
                  have A5b := A5.setRow_other (k := w7.heap.size) (by omega) (ltC kn 0 false)
                  have A6b := A6.setRow_other (k := w7.heap.size) (by omega) (ltC kn 0 false)
                  have B9 := Lib.hid (bset BW.out (g := w7.heap.size) (by omega) (ltC kn 0 false))
                  go_wp2_with (first | ((with_reducible refine is_load 33 _ rfl ?_); refine wpList_load_at rfl 33 _ rfl _ rfl (ltC kn 0 false) _ A16 3 (ltC_size _ _ _) _ Try.underlying33 rfl (by kernel_rfl) ?_) | ((with_reducible refine is_store 33 _ _ rfl ?_); refine wpList_store_at rfl 33 _ _ rfl _ rfl (ltC kn 0 false) rfl (ltC k s false) _ A9 3 (ltC_size _ _ _) (ltC_size _ _ _) (by kernel_rfl) (lt_one _ _ _) ?_))
                  exact ⟨⟨kn, 0, false, 0, 0, i + 1, (tn + 1), by omega, by omega, by go_num, by go_num, by go_num, by go_num, HI, AGb, A5b, A6b, A9b, B9⟩, by simp [intOf]; omega⟩
                · have h5 : st + 1 = mo := by have := HST.out; rw [← hc.out] at this; rw [if_pos rfl] at this; exact this
                  have f5 : (((st : Int) + 1) = (mo : Int)) = True := eq_true (by omega)
                  have g5 : ((((st : Int) + 1)) != (mo : Int)) = false := bne_eq_false_iff_eq.mpr (by omega)
                  clear h5
                  have hG4 := HG.out
                  have A9b := A9.setRow (ltC kn 0 false)
                  have AGb := AG.setRow_other (k := w7.heap.size) (by omega) (ltC kn 0 false)
                  have A5b := A5.setRow_other (k := w7.heap.size) (by omega) (ltC kn 0 false)
                  have A6b := A6.setRow_other (k := w7.heap.size) (by omega) (ltC kn 0 false)
                  have B9 := Lib.hid (bset BW.out (g := w7.heap.size) (by omega) (ltC kn 0 false))
                  go_wp2_with (first | ((with_reducible refine is_load 33 _ rfl ?_); refine wpList_load_at rfl 33 _ rfl _ rfl (ltC kn 0 false) _ A16 3 (ltC_size _ _ _) _ Try.underlying33 rfl (by kernel_rfl) ?_) | ((with_reducible refine is_store 33 _ _ rfl ?_); refine wpList_store_at rfl 33 _ _ rfl _ rfl (ltC kn 0 false) rfl (ltC k s false) _ A9 3 (ltC_size _ _ _) (ltC_size _ _ _) (by kernel_rfl) (lt_one _ _ _) ?_))
                  exact ⟨⟨kn, 0, false, 0, 0, i + 1, (tn + 1), by omega, by omega, by go_num, by go_num, by go_num, by go_num, HI, AGb, A5b, A6b, A9b, B9⟩, by simp [intOf]; omega⟩
      · as_aux_lemma =>
          have hknl := hI0.out.lt
          have hb0 : 0 < b := by have := hI0.out.q rfl; omega
          have hlp2 : lpB xs b o k ((s + 1 : Nat) : Int) true = true := lp_of hok hknl (by omega) (by intro _; omega)
          have KI := fun w A0 => StepLight_e cap zs G xs b o hW 40 cs hcs le mo k s true k (s + 1) true hlp (by omega) hI0.out.lt (by omega) (by omega) (by omega) (by omega) hT w A0
          have KS := fun w A0 => sStepLight_e cap zs G xs b o hW 40 cs hcs le mo k s true k (s + 1) true hlp (by omega) hI0.out.lt (by omega) (by omega) (by omega) (by omega) hT w A0
          have KL := fun w A0 => LightPhaseZ_any cap zs G xs b o hW 40 k ((s + 1 : Nat) : Int) true (by omega) w A0
          rw [vLp_red hlp2] at KL
          have ec : ((s + 1 : Nat) : Int) = (s : Int) + 1 := by omega
          rw [ec] at KI KS KL
          clear ec
          have hph : (bl (noes 8)).size = 8 := by rw [bl_size]; exact noes_len 8
          have KN := fun w => run_neq_light w k ((s : Int) + 1) true
          have KQ := fun w => run_neq_phases w (noes 8) (noes 8) (by exact noes_len 8) (by exact noes_len 8)
          rw [decide_eq_true rfl] at KQ
          clear hT hlp hlp2
          go_wp2_with (first | ((with_reducible refine is_load 26 _ rfl ?_); refine wpList_load_at rfl 26 _ rfl _ rfl (plC (.slice (some ⟨G, 0, none⟩) xs.length cap) b o) _ A5 3 (plC_size _ _ _) _ Try.underlying26 rfl (by kernel_rfl) ?_) | ((with_reducible refine is_load 29 _ rfl ?_); refine wpList_load_at rfl 29 _ rfl _ rfl (bl cs) _ A6 8 (hcs8) _ Try.underlying29 rfl (by kernel_rfl) ?_) | ((with_reducible refine is_load 33 _ rfl ?_); refine wpList_load_at rfl 33 _ rfl _ rfl (ltC k s true) _ A9 3 (ltC_size _ _ _) _ Try.underlying33 rfl (by kernel_rfl) ?_))
          refine (KI _ AG).mono ?_
          rintro e v1 ⟨rfl, hb⟩
          replace AG := AG.step hb
          replace A5 := A5.step hb
          replace A6 := A6.step hb
          replace A9 := A9.step hb
          replace BW := Lib.hid (BW.out.trans (hb.mono BW.out.size))
          clear hb
          have L := At.new v1 (ltC 0 0 false) 33
          have A14 := L.setRow (ltC k ((s : Int) + 1) true)
          replace AG := (AG.alloc (.cells (ltC 0 0 false) 33)).setRow_other (k := v1.heap.size) (Nat.ne_of_lt AG.lt) (ltC k ((s : Int) + 1) true)
          replace A5 := (A5.alloc (.cells (ltC 0 0 false) 33)).setRow_other (k := v1.heap.size) (Nat.ne_of_lt A5.lt) (ltC k ((s : Int) + 1) true)
          replace A6 := (A6.alloc (.cells (ltC 0 0 false) 33)).setRow_other (k := v1.heap.size) (Nat.ne_of_lt A6.lt) (ltC k ((s : Int) + 1) true)
          replace A9 := (A9.alloc (.cells (ltC 0 0 false) 33)).setRow_other (k := v1.heap.size) (Nat.ne_of_lt A9.lt) (ltC k ((s : Int) + 1) true)
          replace BW := Lib.hid (bset (BW.out.alloc BW.out.size (.cells (ltC 0 0 false) 33)) (g := v1.heap.size) BW.out.size (ltC k ((s : Int) + 1) true))
          go_wp2_with (first | ((with_reducible refine is_store 33 _ _ rfl ?_); refine wpList_store_at rfl 33 _ _ rfl _ rfl (ltC k ((s : Int) + 1) true) rfl (ltC 0 0 false) _ L 3 (ltC_size _ _ _) (ltC_size _ _ _) (by kernel_rfl) (lt_one _ _ _) ?_) | ((with_reducible refine is_load 26 _ rfl ?_); refine wpList_load_at rfl 26 _ rfl _ rfl (plC (.slice (some ⟨G, 0, none⟩) xs.length cap) b o) _ A5 3 (plC_size _ _ _) _ Try.underlying26 rfl (by kernel_rfl) ?_) | ((with_reducible refine is_load 29 _ rfl ?_); refine wpList_load_at rfl 29 _ rfl _ rfl (bl cs) _ A6 8 (hcs8) _ Try.underlying29 rfl (by kernel_rfl) ?_) | ((with_reducible refine is_load 33 _ rfl ?_); refine wpList_load_at rfl 33 _ rfl _ rfl (ltC k s true) _ A9 3 (ltC_size _ _ _) _ Try.underlying33 rfl (by kernel_rfl) ?_))
          rw [show (#[.int .i64 0, .int .i64 0, .bool false] : Array Value) = ltC 0 0 false from by kernel_rfl]
          clear L
          generalize World.setRow _ _ _ = v2 at AG A5 A6 A9 A14 BW ⊢
          refine (KS _ AG).mono ?_
          rintro e v3 ⟨rfl, hb⟩
          replace AG := AG.step hb
          replace A5 := A5.step hb
          replace A6 := A6.step hb
          replace A9 := A9.step hb
          replace A14 := A14.step hb
          replace BW := Lib.hid (BW.out.trans (hb.mono BW.out.size))
          clear hb
          have L := At.new v3 (ltC 0 0 false) 33
          have A16 := L.setRow (ltC k ((s : Int) + 1) true)
          replace AG := (AG.alloc (.cells (ltC 0 0 false) 33)).setRow_other (k := v3.heap.size) (Nat.ne_of_lt AG.lt) (ltC k ((s : Int) + 1) true)
          replace A5 := (A5.alloc (.cells (ltC 0 0 false) 33)).setRow_other (k := v3.heap.size) (Nat.ne_of_lt A5.lt) (ltC k ((s : Int) + 1) true)
          replace A6 := (A6.alloc (.cells (ltC 0 0 false) 33)).setRow_other (k := v3.heap.size) (Nat.ne_of_lt A6.lt) (ltC k ((s : Int) + 1) true)
          replace A9 := (A9.alloc (.cells (ltC 0 0 false) 33)).setRow_other (k := v3.heap.size) (Nat.ne_of_lt A9.lt) (ltC k ((s : Int) + 1) true)
          replace A14 := (A14.alloc (.cells (ltC 0 0 false) 33)).setRow_other (k := v3.heap.size) (Nat.ne_of_lt A14.lt) (ltC k ((s : Int) + 1) true)
          replace BW := Lib.hid (bset (BW.out.alloc BW.out.size (.cells (ltC 0 0 false) 33)) (g := v3.heap.size) BW.out.size (ltC k ((s : Int) + 1) true))
          go_wp2_with (first | ((with_reducible refine is_store 33 _ _ rfl ?_); refine wpList_store_at rfl 33 _ _ rfl _ rfl (ltC k ((s : Int) + 1) true) rfl (ltC 0 0 false) _ L 3 (ltC_size _ _ _) (ltC_size _ _ _) (by kernel_rfl) (lt_one _ _ _) ?_) | ((with_reducible refine is_load 26 _ rfl ?_); refine wpList_load_at rfl 26 _ rfl _ rfl (plC (.slice (some ⟨G, 0, none⟩) xs.length cap) b o) _ A5 3 (plC_size _ _ _) _ Try.underlying26 rfl (by kernel_rfl) ?_) | ((with_reducible refine is_load 33 _ rfl ?_); refine wpList_load_at rfl 33 _ rfl _ rfl (ltC k ((s : Int) + 1) true) _ A16 3 (ltC_size _ _ _) _ Try.underlying33 rfl (by kernel_rfl) ?_))
          rw [show (#[.int .i64 0, .int .i64 0, .bool false] : Array Value) = ltC 0 0 false from by kernel_rfl]
          clear L
          generalize World.setRow _ _ _ = v4 at AG A5 A6 A9 A14 A16 BW ⊢
          refine (KL _ AG).mono ?_
          rintro e v5 ⟨rfl, hb⟩
          replace AG := AG.step hb
          replace A5 := A5.step hb
          replace A6 := A6.step hb
          replace A9 := A9.step hb
          replace A14 := A14.step hb
          replace A16 := A16.step hb
          replace BW := Lib.hid (BW.out.trans (hb.mono BW.out.size))
          clear hb
          clear KI KS KL
          have L := At.new v5 (bl (noes 8)) 29
          have A18 := L.setRow (bl (noes 8))
          replace AG := (AG.alloc (.cells (bl (noes 8)) 29)).setRow_other (k := v5.heap.size) (Nat.ne_of_lt AG.lt) (bl (noes 8))
          replace A5 := (A5.alloc (.cells (bl (noes 8)) 29)).setRow_other (k := v5.heap.size) (Nat.ne_of_lt A5.lt) (bl (noes 8))
          replace A6 := (A6.alloc (.cells (bl (noes 8)) 29)).setRow_other (k := v5.heap.size) (Nat.ne_of_lt A6.lt) (bl (noes 8))
          replace A9 := (A9.alloc (.cells (bl (noes 8)) 29)).setRow_other (k := v5.heap.size) (Nat.ne_of_lt A9.lt) (bl (noes 8))
          replace A14 := (A14.alloc (.cells (bl (noes 8)) 29)).setRow_other (k := v5.heap.size) (Nat.ne_of_lt A14.lt) (bl (noes 8))
          replace A16 := (A16.alloc (.cells (bl (noes 8)) 29)).setRow_other (k := v5.heap.size) (Nat.ne_of_lt A16.lt) (bl (noes 8))
          replace BW := Lib.hid (bset (BW.out.alloc BW.out.size (.cells (bl (noes 8)) 29)) (g := v5.heap.size) BW.out.size (bl (noes 8)))
          go_wp2_with (first | ((with_reducible refine is_store 29 _ _ rfl ?_); refine wpList_store_at rfl 29 _ _ rfl _ rfl (bl (noes 8)) rfl (bl (noes 8)) _ L 8 (hph) (by rw [bl_size, noes_len]) (by kernel_rfl) (bl_one _) ?_) | ((with_reducible refine is_load 33 _ rfl ?_); refine wpList_load_part_g rfl 33 _ rfl _ 0 rfl (ltC k ((s : Int) + 1) true) _ A14 3 (by rw [ltC_size]; omega) _ Try.underlying33 rfl (by kernel_rfl) (ltC k ((s : Int) + 1) true) (by rw [Nat.zero_add, Array.extract_eq_self_of_le (by rw [ltC_size]; exact Nat.le_refl _)]) ?_) | ((with_reducible refine is_load 33 _ rfl ?_); refine wpList_load_part_g rfl 33 _ rfl _ 0 rfl (ltC k ((s : Int) + 1) true) _ A16 3 (by rw [ltC_size]; omega) _ Try.underlying33 rfl (by kernel_rfl) (ltC k ((s : Int) + 1) true) (by rw [Nat.zero_add, Array.extract_eq_self_of_le (by rw [ltC_size]; exact Nat.le_refl _)]) ?_))
          rw [show (#[.bool false, .bool false, .bool false, .bool false, .bool false, .bool false, .bool false, .bool false] : Array Value) = bl (noes 8) from by kernel_rfl]
          clear L
          generalize World.setRow _ _ _ = v6 at AG A5 A6 A9 A14 A16 A18 BW ⊢
          have kd2 : (k : Int) < (xs.length : Int) := by omega
          have SS2 := slY_size (zs := zs) hW
          have hle2 : k * 9 + 8 ≤ (slY xs zs).size := by omega
          have hpp2 := slY_phase (zs := zs) hW hknl (k := k * 9) rfl
          clear SS2
          have hC := Cb.const v6
          refine wp_region_cb (by kernel_rfl) (by kernel_rfl) ?_
          repeat (first
            | go_big_quiet_skip
            | (go_big_quiet_want; first
              | (refine q_oneL 4 _ rfl _ Try.underlying4 rfl 2 rfl A16 _ (ltC_2 _ _ _) ?_; go_simp; go_big_quiet_on)
              | (refine q_oneL 2 _ rfl _ Try.underlying2 rfl 0 rfl A16 _ (ltC_0 _ _ _) ?_; go_simp; go_big_quiet_on)
              | (refine q_oneL 24 _ rfl _ Try.underlying24 rfl 0 rfl A5 _ (plC_0 _ _ _) ?_; go_simp; go_big_quiet_on)
              | (refine q_row 29 _ rfl rfl A18 8 hph _ Try.underlying29 rfl (by kernel_rfl) ?_; go_simp; go_big_quiet_on)
              | (refine q_part 29 _ rfl (k * 9) rfl AG 8 hle2 _ Try.underlying29 rfl (by kernel_rfl) (bl (sb xs k)) hpp2 ?_; go_simp; go_big_quiet_on)
              | (refine q_build0 29 rfl (bl (noes 8)) (by kernel_rfl) ?_; go_simp; go_big_quiet_on)
              | (refine q_neqT 29 _ _ rfl _ _ rfl rfl (by kernel_rfl) _ KQ ?_; go_simp; go_big_quiet_on)
              | (go_big_quiet_op; go_big_quiet_on)))
          refine wpQuiet_nil ?_
          intro v7 hb
          replace AG := AG.step hb
          replace A5 := A5.step hb
          replace A6 := A6.step hb
          replace A9 := A9.step hb
          replace A14 := A14.step hb
          replace A16 := A16.step hb
          replace A18 := A18.step hb
          replace BW := Lib.hid (BW.out.trans (hb.mono BW.out.size))
          clear hb hC
          clear kd2 hle2 hpp2 A14 A18 KQ KN hph
          have c90 := A9.cell (ltC_0 _ _ _)
          have c92 := A9.cell (ltC_2 _ _ _)
          have c160 := A16.cell (ltC_0 _ _ _)
          have c161 := A16.cell (ltC_1 _ _ _)
          have c162 := A16.cell (ltC_2 _ _ _)
          have z1 : ((s : Int) + 1 = 0) = False := eq_false (by omega)
          have sst : IntKind.i64.wrap ((rd : Int) + 1) = (rd : Int) + 1 := IntWalk.i64_in _ (by omega)
          have hG4 := HG.out
          have A9b := A9.setRow (ltC k ((s : Int) + 1) true)
          have AGb := AG.setRow_other (k := w7.heap.size) (by omega) (ltC k ((s : Int) + 1) true)
          have A5b := A5.setRow_other (k := w7.heap.size) (by omega) (ltC k ((s : Int) + 1) true)
          have A6b := A6.setRow_other (k := w7.heap.size) (by omega) (ltC k ((s : Int) + 1) true)
          have B9 := Lib.hid (bset BW.out (g := w7.heap.size) (by omega) (ltC k ((s : Int) + 1) true))
          go_wp2_with (first | ((with_reducible refine is_load 33 _ rfl ?_); refine wpList_load_at rfl 33 _ rfl _ rfl (ltC k ((s : Int) + 1) true) _ A16 3 (ltC_size _ _ _) _ Try.underlying33 rfl (by kernel_rfl) ?_) | ((with_reducible refine is_store 33 _ _ rfl ?_); refine wpList_store_at rfl 33 _ _ rfl _ rfl (ltC k ((s : Int) + 1) true) rfl (ltC k s true) _ A9 3 (ltC_size _ _ _) (ltC_size _ _ _) (by kernel_rfl) (lt_one _ _ _) ?_))
          exact ⟨⟨k, (s + 1), true, st, (rd + 1), i + 1, tn, by omega, by omega, by go_num, by go_num, by go_num, by go_num, Lib.hid I2, AGb, A5b, A6b, A9b, B9⟩, by simp [intOf]; omega⟩
      · as_aux_lemma =>
          obtain ⟨kn, hkn⟩ : ∃ q, q = (k + 1) % xs.length := ⟨_, rfl⟩
          rw [← hkn] at hT
          have hknl : kn < xs.length := by rw [hkn]; exact Nat.mod_lt _ (by omega)
          have HKN := Lib.hid hkn
          have HST := Lib.hid hst
          have HRB := Lib.hid hrb
          clear hkn hst hrb
          have hlp2 : lpB xs b o kn ((0 : Nat) : Int) false = true := lp_of hok hknl (by omega) (by intro h; cases h)
          have KI := fun w A0 => StepLight_e cap zs G xs b o hW 40 cs hcs le mo k s true kn 0 false hlp (by omega) hI0.out.lt (by omega) (by omega) (by omega) (by omega) hT w A0
          have KS := fun w A0 => sStepLight_e cap zs G xs b o hW 40 cs hcs le mo k s true kn 0 false hlp (by omega) hI0.out.lt (by omega) (by omega) (by omega) (by omega) hT w A0
          have KL := fun w A0 => LightPhaseZ_any cap zs G xs b o hW 40 kn ((0 : Nat) : Int) false (by omega) w A0
          rw [vLp_gr hlp2] at KL
          rw [show ((0 : Nat) : Int) = 0 from rfl] at KI KS KL
          have hph : (bl (sb xs kn)).size = 8 := by rw [bl_size]; exact (hW.at hknl).1
          have KN := fun w => run_neq_light w kn 0 false
          have KQ := fun w => run_neq_phases w (sb xs kn) (sb xs kn) (by exact (hW.at hknl).1) (by exact (hW.at hknl).1)
          rw [decide_eq_true rfl] at KQ
          clear hT hlp hlp2
          go_wp2_with (first | ((with_reducible refine is_load 26 _ rfl ?_); refine wpList_load_at rfl 26 _ rfl _ rfl (plC (.slice (some ⟨G, 0, none⟩) xs.length cap) b o) _ A5 3 (plC_size _ _ _) _ Try.underlying26 rfl (by kernel_rfl) ?_) | ((with_reducible refine is_load 29 _ rfl ?_); refine wpList_load_at rfl 29 _ rfl _ rfl (bl cs) _ A6 8 (hcs8) _ Try.underlying29 rfl (by kernel_rfl) ?_) | ((with_reducible refine is_load 33 _ rfl ?_); refine wpList_load_at rfl 33 _ rfl _ rfl (ltC k s true) _ A9 3 (ltC_size _ _ _) _ Try.underlying33 rfl (by kernel_rfl) ?_))
          refine (KI _ AG).mono ?_
          rintro e v1 ⟨rfl, hb⟩
          replace AG := AG.step hb
          replace A5 := A5.step hb
          replace A6 := A6.step hb
          replace A9 := A9.step hb
          replace BW := Lib.hid (BW.out.trans (hb.mono BW.out.size))
          clear hb
          have L := At.new v1 (ltC 0 0 false) 33
          have A14 := L.setRow (ltC kn 0 false)
          replace AG := (AG.alloc (.cells (ltC 0 0 false) 33)).setRow_other (k := v1.heap.size) (Nat.ne_of_lt AG.lt) (ltC kn 0 false)
          replace A5 := (A5.alloc (.cells (ltC 0 0 false) 33)).setRow_other (k := v1.heap.size) (Nat.ne_of_lt A5.lt) (ltC kn 0 false)
          replace A6 := (A6.alloc (.cells (ltC 0 0 false) 33)).setRow_other (k := v1.heap.size) (Nat.ne_of_lt A6.lt) (ltC kn 0 false)
          replace A9 := (A9.alloc (.cells (ltC 0 0 false) 33)).setRow_other (k := v1.heap.size) (Nat.ne_of_lt A9.lt) (ltC kn 0 false)
          replace BW := Lib.hid (bset (BW.out.alloc BW.out.size (.cells (ltC 0 0 false) 33)) (g := v1.heap.size) BW.out.size (ltC kn 0 false))
          go_wp2_with (first | ((with_reducible refine is_store 33 _ _ rfl ?_); refine wpList_store_at rfl 33 _ _ rfl _ rfl (ltC kn 0 false) rfl (ltC 0 0 false) _ L 3 (ltC_size _ _ _) (ltC_size _ _ _) (by kernel_rfl) (lt_one _ _ _) ?_) | ((with_reducible refine is_load 26 _ rfl ?_); refine wpList_load_at rfl 26 _ rfl _ rfl (plC (.slice (some ⟨G, 0, none⟩) xs.length cap) b o) _ A5 3 (plC_size _ _ _) _ Try.underlying26 rfl (by kernel_rfl) ?_) | ((with_reducible refine is_load 29 _ rfl ?_); refine wpList_load_at rfl 29 _ rfl _ rfl (bl cs) _ A6 8 (hcs8) _ Try.underlying29 rfl (by kernel_rfl) ?_) | ((with_reducible refine is_load 33 _ rfl ?_); refine wpList_load_at rfl 33 _ rfl _ rfl (ltC k s true) _ A9 3 (ltC_size _ _ _) _ Try.underlying33 rfl (by kernel_rfl) ?_))
          rw [show (#[.int .i64 0, .int .i64 0, .bool false] : Array Value) = ltC 0 0 false from by kernel_rfl]
          clear L
          generalize World.setRow _ _ _ = v2 at AG A5 A6 A9 A14 BW ⊢
          refine (KS _ AG).mono ?_
          rintro e v3 ⟨rfl, hb⟩
          replace AG := AG.step hb
          replace A5 := A5.step hb
          replace A6 := A6.step hb
          replace A9 := A9.step hb
          replace A14 := A14.step hb
          replace BW := Lib.hid (BW.out.trans (hb.mono BW.out.size))
          clear hb
          have L := At.new v3 (ltC 0 0 false) 33
          have A16 := L.setRow (ltC kn 0 false)
          replace AG := (AG.alloc (.cells (ltC 0 0 false) 33)).setRow_other (k := v3.heap.size) (Nat.ne_of_lt AG.lt) (ltC kn 0 false)
          replace A5 := (A5.alloc (.cells (ltC 0 0 false) 33)).setRow_other (k := v3.heap.size) (Nat.ne_of_lt A5.lt) (ltC kn 0 false)
          replace A6 := (A6.alloc (.cells (ltC 0 0 false) 33)).setRow_other (k := v3.heap.size) (Nat.ne_of_lt A6.lt) (ltC kn 0 false)
          replace A9 := (A9.alloc (.cells (ltC 0 0 false) 33)).setRow_other (k := v3.heap.size) (Nat.ne_of_lt A9.lt) (ltC kn 0 false)
          replace A14 := (A14.alloc (.cells (ltC 0 0 false) 33)).setRow_other (k := v3.heap.size) (Nat.ne_of_lt A14.lt) (ltC kn 0 false)
          replace BW := Lib.hid (bset (BW.out.alloc BW.out.size (.cells (ltC 0 0 false) 33)) (g := v3.heap.size) BW.out.size (ltC kn 0 false))
          go_wp2_with (first | ((with_reducible refine is_store 33 _ _ rfl ?_); refine wpList_store_at rfl 33 _ _ rfl _ rfl (ltC kn 0 false) rfl (ltC 0 0 false) _ L 3 (ltC_size _ _ _) (ltC_size _ _ _) (by kernel_rfl) (lt_one _ _ _) ?_) | ((with_reducible refine is_load 26 _ rfl ?_); refine wpList_load_at rfl 26 _ rfl _ rfl (plC (.slice (some ⟨G, 0, none⟩) xs.length cap) b o) _ A5 3 (plC_size _ _ _) _ Try.underlying26 rfl (by kernel_rfl) ?_) | ((with_reducible refine is_load 33 _ rfl ?_); refine wpList_load_at rfl 33 _ rfl _ rfl (ltC kn 0 false) _ A16 3 (ltC_size _ _ _) _ Try.underlying33 rfl (by kernel_rfl) ?_))
          rw [show (#[.int .i64 0, .int .i64 0, .bool false] : Array Value) = ltC 0 0 false from by kernel_rfl]
          clear L
          generalize World.setRow _ _ _ = v4 at AG A5 A6 A9 A14 A16 BW ⊢
          refine (KL _ AG).mono ?_
          rintro e v5 ⟨rfl, hb⟩
          replace AG := AG.step hb
          replace A5 := A5.step hb
          replace A6 := A6.step hb
          replace A9 := A9.step hb
          replace A14 := A14.step hb
          replace A16 := A16.step hb
          replace BW := Lib.hid (BW.out.trans (hb.mono BW.out.size))
          clear hb
          clear KI KS KL
          have L := At.new v5 (bl (noes 8)) 29
          have A18 := L.setRow (bl (sb xs kn))
          replace AG := (AG.alloc (.cells (bl (noes 8)) 29)).setRow_other (k := v5.heap.size) (Nat.ne_of_lt AG.lt) (bl (sb xs kn))
          replace A5 := (A5.alloc (.cells (bl (noes 8)) 29)).setRow_other (k := v5.heap.size) (Nat.ne_of_lt A5.lt) (bl (sb xs kn))
          replace A6 := (A6.alloc (.cells (bl (noes 8)) 29)).setRow_other (k := v5.heap.size) (Nat.ne_of_lt A6.lt) (bl (sb xs kn))
          replace A9 := (A9.alloc (.cells (bl (noes 8)) 29)).setRow_other (k := v5.heap.size) (Nat.ne_of_lt A9.lt) (bl (sb xs kn))
          replace A14 := (A14.alloc (.cells (bl (noes 8)) 29)).setRow_other (k := v5.heap.size) (Nat.ne_of_lt A14.lt) (bl (sb xs kn))
          replace A16 := (A16.alloc (.cells (bl (noes 8)) 29)).setRow_other (k := v5.heap.size) (Nat.ne_of_lt A16.lt) (bl (sb xs kn))
          replace BW := Lib.hid (bset (BW.out.alloc BW.out.size (.cells (bl (noes 8)) 29)) (g := v5.heap.size) BW.out.size (bl (sb xs kn)))
          go_wp2_with (first | ((with_reducible refine is_store 29 _ _ rfl ?_); refine wpList_store_at rfl 29 _ _ rfl _ rfl (bl (sb xs kn)) rfl (bl (noes 8)) _ L 8 (hph) (by rw [bl_size, noes_len]) (by kernel_rfl) (bl_one _) ?_) | ((with_reducible refine is_load 33 _ rfl ?_); refine wpList_load_part_g rfl 33 _ rfl _ 0 rfl (ltC kn 0 false) _ A14 3 (by rw [ltC_size]; omega) _ Try.underlying33 rfl (by kernel_rfl) (ltC kn 0 false) (by rw [Nat.zero_add, Array.extract_eq_self_of_le (by rw [ltC_size]; exact Nat.le_refl _)]) ?_) | ((with_reducible refine is_load 33 _ rfl ?_); refine wpList_load_part_g rfl 33 _ rfl _ 0 rfl (ltC kn 0 false) _ A16 3 (by rw [ltC_size]; omega) _ Try.underlying33 rfl (by kernel_rfl) (ltC kn 0 false) (by rw [Nat.zero_add, Array.extract_eq_self_of_le (by rw [ltC_size]; exact Nat.le_refl _)]) ?_))
          rw [show (#[.bool false, .bool false, .bool false, .bool false, .bool false, .bool false, .bool false, .bool false] : Array Value) = bl (noes 8) from by kernel_rfl]
          clear L
          generalize World.setRow _ _ _ = v6 at AG A5 A6 A9 A14 A16 A18 BW ⊢
          have kd2 : (kn : Int) < (xs.length : Int) := by omega
          have SS2 := slY_size (zs := zs) hW
          have hle2 : kn * 9 + 8 ≤ (slY xs zs).size := by omega
          have hpp2 := slY_phase (zs := zs) hW hknl (k := kn * 9) rfl
          clear SS2
          have hC := Cb.const v6
          refine wp_region_cb (by kernel_rfl) (by kernel_rfl) ?_
          repeat (first
            | go_big_quiet_skip
            | (go_big_quiet_want; first
              | (refine q_oneL 4 _ rfl _ Try.underlying4 rfl 2 rfl A16 _ (ltC_2 _ _ _) ?_; go_simp; go_big_quiet_on)
              | (refine q_oneL 2 _ rfl _ Try.underlying2 rfl 0 rfl A16 _ (ltC_0 _ _ _) ?_; go_simp; go_big_quiet_on)
              | (refine q_oneL 24 _ rfl _ Try.underlying24 rfl 0 rfl A5 _ (plC_0 _ _ _) ?_; go_simp; go_big_quiet_on)
              | (refine q_row 29 _ rfl rfl A18 8 hph _ Try.underlying29 rfl (by kernel_rfl) ?_; go_simp; go_big_quiet_on)
              | (refine q_part 29 _ rfl (kn * 9) rfl AG 8 hle2 _ Try.underlying29 rfl (by kernel_rfl) (bl (sb xs kn)) hpp2 ?_; go_simp; go_big_quiet_on)
              | (refine q_build0 29 rfl (bl (noes 8)) (by kernel_rfl) ?_; go_simp; go_big_quiet_on)
              | (refine q_neqT 29 _ _ rfl _ _ rfl rfl (by kernel_rfl) _ KQ ?_; go_simp; go_big_quiet_on)
              | (go_big_quiet_op; go_big_quiet_on)))
          refine wpQuiet_nil ?_
          intro v7 hb
          replace AG := AG.step hb
          replace A5 := A5.step hb
          replace A6 := A6.step hb
          replace A9 := A9.step hb
          replace A14 := A14.step hb
          replace A16 := A16.step hb
          replace A18 := A18.step hb
          replace BW := Lib.hid (BW.out.trans (hb.mono BW.out.size))
          clear hb hC
          clear kd2 hle2 hpp2 A14 A18 KQ KN hph
          have hst2 : le ≤ st ∧ st ≤ mo := by have := HST.out; split at this <;> omega
          have sst : IntKind.i64.wrap ((rd : Int) + 1) = (rd : Int) + 1 := IntWalk.i64_in _ (by omega)
          have stn : IntKind.i64.wrap ((tn : Int) + 1) = (tn : Int) + 1 := IntWalk.i64_in _ (by omega)
          have f1 : ((st : Int) < (le : Int)) = False := eq_false (by omega)
          have f2 : ((mo : Int) < (st : Int)) = False := eq_false (by omega)
          have f3 : (((rd : Int) + 1) = (b : Int)) = True := eq_true (by have := HRB.out; omega)
          have f4 : (((rd : Int) + 1) != (b : Int)) = false := bne_eq_false_iff_eq.mpr (of_eq_true f3)
          have g1 : (st < le) = False := eq_false (by omega)
          have g2 : (mo < st) = False := eq_false (by omega)
          have g3 : (rd + 1 = b) = True := eq_true HRB.out
          have hkl0 := hI0.out.lt
          have hm0 : ¬ (xs.length : Int) = 0 := by omega
          have q1 : IntKind.i64.wrap ((k : Int) + 1) = (k : Int) + 1 := IntWalk.i64_in _ (by omega)
          have hq0 : ((k : Int) + 1) % (xs.length : Int) = (kn : Int) := by
            have hq : (((k + 1) % xs.length : Nat) : Int) = ((k : Int) + 1) % (xs.length : Int) := by simp
            rw [← hq, ← HKN.out]
          have q2 : IntKind.i64.wrap (((k : Int) + 1).tmod (xs.length : Int)) = ((k : Int) + 1) % (xs.length : Int) := by
            rw [Int.tmod_eq_emod_of_nonneg (by omega), hq0]
            exact IntWalk.i64_in _ (by omega)
          have q3 : ((kn : Int) != ((k : Int) + 1) % (xs.length : Int)) = false := by rw [hq0]; simp
          clear hq0
          have HI := Lib.hid (LInv.next (b := b) (cs := cs) (i := i + 1) (tn := tn) hkl0 hl1.1 hm1.1)
          rw [← HKN.out] at HI
          have hek : ((((kn : Int) = (k : Int)) = True) ∧ (((kn : Int) != (k : Int)) = false)) ∨ ((((kn : Int) = (k : Int)) = False) ∧ (((kn : Int) != (k : Int)) = true)) := by
            by_cases h : kn = k
            · exact Or.inl ⟨eq_true (by omega), bne_eq_false_iff_eq.mpr (by omega)⟩
            · exact Or.inr ⟨eq_false (by omega), bne_iff_ne.mpr (by omega)⟩
          rcases hek with ⟨hek, hek2⟩ | ⟨hek, hek2⟩
          · have c90 := A9.cell (ltC_0 _ _ _)
            have c92 := A9.cell (ltC_2 _ _ _)
            have c160 := A16.cell (ltC_0 _ _ _)
            have c161 := A16.cell (ltC_1 _ _ _)
            have c162 := A16.cell (ltC_2 _ _ _)
            go_wp2_with fail
            have hC := Cb.const v7
            refine wp_region_cb (by kernel_rfl) (by kernel_rfl) ?_
            repeat (first
              | go_big_quiet_skip
              | (go_big_quiet_want; first
                | (refine q_oneL 2 _ rfl _ Try.underlying2 rfl 0 rfl A16 _ (ltC_0 _ _ _) ?_; go_simp; go_big_quiet_on)
                | (refine q_oneL 2 _ rfl _ Try.underlying2 rfl 0 rfl A9 _ (ltC_0 _ _ _) ?_; go_simp; go_big_quiet_on)
                | (refine q_oneL 24 _ rfl _ Try.underlying24 rfl 0 rfl A5 _ (plC_0 _ _ _) ?_; go_simp; go_big_quiet_on)
                | (refine q_oneL 2 _ rfl _ Try.underlying2 rfl 1 rfl A5 _ (plC_1 _ _ _) ?_; go_simp; go_big_quiet_on)
                | (go_big_quiet_op; go_big_quiet_on)))
            refine wpQuiet_nil ?_
            intro v8 hb
            replace AG := AG.step hb
            replace A5 := A5.step hb
            replace A6 := A6.step hb
            replace A9 := A9.step hb
            replace A16 := A16.step hb
            replace BW := Lib.hid (BW.out.trans (hb.mono BW.out.size))
            clear hb hC
            go_wp2_with fail
            go_loopw [20, 21] (fun cv jv wr => ∃ (j : Nat) (c : Bool), j ≤ 8 ∧ jv = .int .i64 (j : Int) ∧ cv = .bool c ∧ Hid (c = cal (sb xs k) cs j) ∧ At wr G (slY xs zs) 40 ∧ At wr w1.heap.size (plC (.slice (some ⟨G, 0, none⟩) xs.length cap) b o) 26 ∧ At wr w3.heap.size (bl cs) 29 ∧ At wr w7.heap.size (ltC k s true) 33 ∧ At wr v3.heap.size (ltC kn 0 false) 33 ∧ Hid (Below w0.heap.size w0 wr)) (fun _ jv _ => 8 - (intOf jv).toNat)
            case atStart => exact ⟨0, false, by omega, rfl, rfl, Lib.hid rfl, AG, A5, A6, A9, A16, BW⟩
            case round =>
              clear AG A5 A6 A9 A16 BW
              obtain ⟨j, c, hj, rfl, rfl, hc, AG, A5, A6, A9, A16, BW⟩ := hrel
              by_cases hj8 : j < 8
              · have s4 : IntKind.i64.wrap ((j : Int) + 1) = (j : Int) + 1 := IntWalk.i64_in _ (by omega)
                have jd8 : (j : Int) < 8 := by omega
                have kd : (k : Int) < (xs.length : Int) := by omega
                have d0 := A5.cell (plC_0 _ _ _)
                have d3 := A9.cell (ltC_0 _ _ _)
                have d1 := AG.cell (slY_green (zs := zs) hW hkl0 hj8 (k := k * 9 + j) rfl)
                have d2 := A6.cell (bl_get (bs := cs) (k := j) (by omega))
                cases c
                · cases hg : bn (sb xs k) j
                  · rw [hg] at d1
                    have hc2 := Lib.hid (show false = cal (sb xs k) cs (j + 1) from by rw [cal, ← hc.out, hg]; rfl)
                    clear hg hc
                    go_wp2_with fail
                    exact ⟨⟨j + 1, _, by omega, by go_num, rfl, hc2, AG, A5, A6, A9, A16, BW⟩, by simp [intOf]; omega⟩
                  · cases hq : bn cs j
                    · rw [hg] at d1
                      rw [hq] at d2
                      have hc2 := Lib.hid (show false = cal (sb xs k) cs (j + 1) from by rw [cal, ← hc.out, hg, hq]; rfl)
                      clear hg hq hc
                      go_wp2_with fail
                      exact ⟨⟨j + 1, _, by omega, by go_num, rfl, hc2, AG, A5, A6, A9, A16, BW⟩, by simp [intOf]; omega⟩
                    · rw [hg] at d1
                      rw [hq] at d2
                      have hc2 := Lib.hid (show true = cal (sb xs k) cs (j + 1) from by rw [cal, ← hc.out, hg, hq]; rfl)
                      clear hg hq hc
                      go_wp2_with fail
                      exact ⟨⟨j + 1, _, by omega, by go_num, rfl, hc2, AG, A5, A6, A9, A16, BW⟩, by simp [intOf]; omega⟩
                · have hc2 := Lib.hid (show true = cal (sb xs k) cs (j + 1) from by rw [cal, ← hc.out]; rfl)
                  clear hc
                  go_wp2_with fail
                  exact ⟨⟨j + 1, _, by omega, by go_num, rfl, hc2, AG, A5, A6, A9, A16, BW⟩, by simp [intOf]; omega⟩
              · obtain rfl : j = 8 := by omega
                cases c
                · have h5 : st = le := by have := HST.out; rw [← hc.out] at this; rw [if_neg (by decide)] at this; exact this
                  have f5 : ((st : Int) = (le : Int)) = True := eq_true (by omega)
                  have g5 : (((st : Int)) != (le : Int)) = false := bne_eq_false_iff_eq.mpr (by omega)
                  clear h5
                  have hG4 := HG.out
                  have A9b := A9.setRow (ltC kn 0 false)
                  have AGb := AG.setRow_other (k := w7.heap.size) (by omega) (ltC kn 0 false)
                  have A5b := A5.setRow_other (k := w7.heap.size) (by omega) (ltC kn 0 false)
                  have A6b := A6.setRow_other (k := w7.heap.size) (by omega) (ltC kn 0 false)
                  have B9 := Lib.hid (bset BW.out (g := w7.heap.size) (by omega) (ltC kn 0 false))
                  go_wp2_with (first | ((with_reducible refine is_load 33 _ rfl ?_); refine wpList_load_at rfl 33 _ rfl _ rfl (ltC kn 0 false) _ A16 3 (ltC_size _ _ _) _ Try.underlying33 rfl (by kernel_rfl) ?_) | ((with_reducible refine is_store 33 _ _ rfl ?_); refine wpList_store_at rfl 33 _ _ rfl _ rfl (ltC kn 0 false) rfl (ltC k s true) _ A9 3 (ltC_size _ _ _) (ltC_size _ _ _) (by kernel_rfl) (lt_one _ _ _) ?_))
                  exact ⟨⟨kn, 0, false, 0, 0, i + 1, (tn + 1), by omega, by omega, by go_num, by go_num, by go_num, by go_num, HI, AGb, A5b, A6b, A9b, B9⟩, by simp [intOf]; omega⟩
                · have h5 : st = mo := by have := HST.out; rw [← hc.out] at this; rw [if_pos rfl] at this; exact this
                  have f5 : ((st : Int) = (mo : Int)) = True := eq_true (by omega)
                  have g5 : (((st : Int)) != (mo : Int)) = false := bne_eq_false_iff_eq.mpr (by omega)
                  clear h5
                  have hG4 := HG.out
                  have A9b := A9.setRow (ltC kn 0 false)
                  have AGb := AG.setRow_other (k := w7.heap.size) (by omega) (ltC kn 0 false)
                  have A5b := A5.setRow_other (k := w7.heap.size) (by omega) (ltC kn 0 false)
                  have A6b := A6.setRow_other (k := w7.heap.size) (by omega) (ltC kn 0 false)
                  have B9 := Lib.hid (bset BW.out (g := w7.heap.size) (by omega) (ltC kn 0 false))
                  go_wp2_with (first | ((with_reducible refine is_load 33 _ rfl ?_); refine wpList_load_at rfl 33 _ rfl _ rfl (ltC kn 0 false) _ A16 3 (ltC_size _ _ _) _ Try.underlying33 rfl (by kernel_rfl) ?_) | ((with_reducible refine is_store 33 _ _ rfl ?_); refine wpList_store_at rfl 33 _ _ rfl _ rfl (ltC kn 0 false) rfl (ltC k s true) _ A9 3 (ltC_size _ _ _) (ltC_size _ _ _) (by kernel_rfl) (lt_one _ _ _) ?_))
                  exact ⟨⟨kn, 0, false, 0, 0, i + 1, (tn + 1), by omega, by omega, by go_num, by go_num, by go_num, by go_num, HI, AGb, A5b, A6b, A9b, B9⟩, by simp [intOf]; omega⟩
          · have c90 := A9.cell (ltC_0 _ _ _)
            have c92 := A9.cell (ltC_2 _ _ _)
            have c160 := A16.cell (ltC_0 _ _ _)
            have c161 := A16.cell (ltC_1 _ _ _)
            have c162 := A16.cell (ltC_2 _ _ _)
            go_wp2_with fail
            have hC := Cb.const v7
            refine wp_region_cb (by kernel_rfl) (by kernel_rfl) ?_
            repeat (first
              | go_big_quiet_skip
              | (go_big_quiet_want; first
                | (refine q_oneL 2 _ rfl _ Try.underlying2 rfl 0 rfl A16 _ (ltC_0 _ _ _) ?_; go_simp; go_big_quiet_on)
                | (refine q_oneL 2 _ rfl _ Try.underlying2 rfl 0 rfl A9 _ (ltC_0 _ _ _) ?_; go_simp; go_big_quiet_on)
                | (refine q_oneL 24 _ rfl _ Try.underlying24 rfl 0 rfl A5 _ (plC_0 _ _ _) ?_; go_simp; go_big_quiet_on)
                | (refine q_oneL 2 _ rfl _ Try.underlying2 rfl 1 rfl A5 _ (plC_1 _ _ _) ?_; go_simp; go_big_quiet_on)
                | (go_big_quiet_op; go_big_quiet_on)))
            refine wpQuiet_nil ?_
            intro v8 hb
            replace AG := AG.step hb
            replace A5 := A5.step hb
            replace A6 := A6.step hb
            replace A9 := A9.step hb
            replace A16 := A16.step hb
            replace BW := Lib.hid (BW.out.trans (hb.mono BW.out.size))
            clear hb hC
            go_wp2_with fail
            go_loopw [20, 21] (fun cv jv wr => ∃ (j : Nat) (c : Bool), j ≤ 8 ∧ jv = .int .i64 (j : Int) ∧ cv = .bool c ∧ Hid (c = cal (sb xs k) cs j) ∧ At wr G (slY xs zs) 40 ∧ At wr w1.heap.size (plC (.slice (some ⟨G, 0, none⟩) xs.length cap) b o) 26 ∧ At wr w3.heap.size (bl cs) 29 ∧ At wr w7.heap.size (ltC k s true) 33 ∧ At wr v3.heap.size (ltC kn 0 false) 33 ∧ Hid (Below w0.heap.size w0 wr)) (fun _ jv _ => 8 - (intOf jv).toNat)
            case atStart => exact ⟨0, false, by omega, rfl, rfl, Lib.hid rfl, AG, A5, A6, A9, A16, BW⟩
            case round =>
              clear AG A5 A6 A9 A16 BW
              obtain ⟨j, c, hj, rfl, rfl, hc, AG, A5, A6, A9, A16, BW⟩ := hrel
              by_cases hj8 : j < 8
              · have s4 : IntKind.i64.wrap ((j : Int) + 1) = (j : Int) + 1 := IntWalk.i64_in _ (by omega)
                have jd8 : (j : Int) < 8 := by omega
                have kd : (k : Int) < (xs.length : Int) := by omega
                have d0 := A5.cell (plC_0 _ _ _)
                have d3 := A9.cell (ltC_0 _ _ _)
                have d1 := AG.cell (slY_green (zs := zs) hW hkl0 hj8 (k := k * 9 + j) rfl)
                have d2 := A6.cell (bl_get (bs := cs) (k := j) (by omega))
                cases c
                · cases hg : bn (sb xs k) j
                  · rw [hg] at d1
                    have hc2 := Lib.hid (show false = cal (sb xs k) cs (j + 1) from by rw [cal, ← hc.out, hg]; rfl)
                    clear hg hc
                    go_wp2_with fail
                    exact ⟨⟨j + 1, _, by omega, by go_num, rfl, hc2, AG, A5, A6, A9, A16, BW⟩, by simp [intOf]; omega⟩
                  · cases hq : bn cs j
                    · rw [hg] at d1
                      rw [hq] at d2
                      have hc2 := Lib.hid (show false = cal (sb xs k) cs (j + 1) from by rw [cal, ← hc.out, hg, hq]; rfl)
                      clear hg hq hc
                      go_wp2_with fail
                      exact ⟨⟨j + 1, _, by omega, by go_num, rfl, hc2, AG, A5, A6, A9, A16, BW⟩, by simp [intOf]; omega⟩
                    · rw [hg] at d1
                      rw [hq] at d2
                      have hc2 := Lib.hid (show true = cal (sb xs k) cs (j + 1) from by rw [cal, ← hc.out, hg, hq]; rfl)
                      clear hg hq hc
                      go_wp2_with fail
                      exact ⟨⟨j + 1, _, by omega, by go_num, rfl, hc2, AG, A5, A6, A9, A16, BW⟩, by simp [intOf]; omega⟩
                · have hc2 := Lib.hid (show true = cal (sb xs k) cs (j + 1) from by rw [cal, ← hc.out]; rfl)
                  clear hc
                  go_wp2_with fail
                  exact ⟨⟨j + 1, _, by omega, by go_num, rfl, hc2, AG, A5, A6, A9, A16, BW⟩, by simp [intOf]; omega⟩
              · obtain rfl : j = 8 := by omega
                cases c
                · have h5 : st = le := by have := HST.out; rw [← hc.out] at this; rw [if_neg (by decide)] at this; exact this
                  have f5 : ((st : Int) = (le : Int)) = True := eq_true (by omega)
                  have g5 : (((st : Int)) != (le : Int)) = false := bne_eq_false_iff_eq.mpr (by omega)
                  clear h5
                  have hG4 := HG.out
                  have A9b := A9.setRow (ltC kn 0 false)
                  have AGb := AG.setRow_other (k := w7.heap.size) (by omega) (ltC kn 0 false)
                  have A5b := A5.setRow_other (k := w7.heap.size) (by omega) (ltC kn 0 false)
                  have A6b := A6.setRow_other (k := w7.heap.size) (by omega) (ltC kn 0 false)
                  have B9 := Lib.hid (bset BW.out (g := w7.heap.size) (by omega) (ltC kn 0 false))
                  go_wp2_with (first | ((with_reducible refine is_load 33 _ rfl ?_); refine wpList_load_at rfl 33 _ rfl _ rfl (ltC kn 0 false) _ A16 3 (ltC_size _ _ _) _ Try.underlying33 rfl (by kernel_rfl) ?_) | ((with_reducible refine is_store 33 _ _ rfl ?_); refine wpList_store_at rfl 33 _ _ rfl _ rfl (ltC kn 0 false) rfl (ltC k s true) _ A9 3 (ltC_size _ _ _) (ltC_size _ _ _) (by kernel_rfl) (lt_one _ _ _) ?_))
                  exact ⟨⟨kn, 0, false, 0, 0, i + 1, (tn + 1), by omega, by omega, by go_num, by go_num, by go_num, by go_num, HI, AGb, A5b, A6b, A9b, B9⟩, by simp [intOf]; omega⟩
                · have h5 : st = mo := by have := HST.out; rw [← hc.out] at this; rw [if_pos rfl] at this; exact this
                  have f5 : ((st : Int) = (mo : Int)) = True := eq_true (by omega)
                  have g5 : (((st : Int)) != (mo : Int)) = false := bne_eq_false_iff_eq.mpr (by omega)
                  clear h5
                  have hG4 := HG.out
                  have A9b := A9.setRow (ltC kn 0 false)
                  have AGb := AG.setRow_other (k := w7.heap.size) (by omega) (ltC kn 0 false)
                  have A5b := A5.setRow_other (k := w7.heap.size) (by omega) (ltC kn 0 false)
                  have A6b := A6.setRow_other (k := w7.heap.size) (by omega) (ltC kn 0 false)
                  have B9 := Lib.hid (bset BW.out (g := w7.heap.size) (by omega) (ltC kn 0 false))
                  go_wp2_with (first | ((with_reducible refine is_load 33 _ rfl ?_); refine wpList_load_at rfl 33 _ rfl _ rfl (ltC kn 0 false) _ A16 3 (ltC_size _ _ _) _ Try.underlying33 rfl (by kernel_rfl) ?_) | ((with_reducible refine is_store 33 _ _ rfl ?_); refine wpList_store_at rfl 33 _ _ rfl _ rfl (ltC kn 0 false) rfl (ltC k s true) _ A9 3 (ltC_size _ _ _) (ltC_size _ _ _) (by kernel_rfl) (lt_one _ _ _) ?_))
                  exact ⟨⟨kn, 0, false, 0, 0, i + 1, (tn + 1), by omega, by omega, by go_num, by go_num, by go_num, by go_num, HI, AGb, A5b, A6b, A9b, B9⟩, by simp [intOf]; omega⟩
    · obtain rfl : i = 60 := by omega
      have htp : ¬ tn = 0 := fun h => by
        have hI := hI0.out
        have := hI.t h
        cases r
        · have := hI.g rfl; omega
        · have := hI.q rfl
          have h2 := this.2.2
          split at h2 <;> omega
      have e1 : 0 < tn := by omega
      have e2 : decide ((tn : Int) > 0) = true := decide_eq_true (by omega)
      clear hI0 hlp
      go_wp2_with fail
      go_ret
      exact ⟨rfl, BW.out⟩

set_option maxRecDepth 100000 in
theorem lifted (os : Os) (started : os.Started) (H : Type) (enc : TypeId × Value → H) :
    ReturnsInHanded {} Try.checked os 3 .any (Rows.fnLightsSpec.pre6 enc Try.prog Try.f3 Rows.fnLightsRow.domain false) (Rows.fnLightsSpec.post enc Try.prog Try.f3 false true false false) := by
  refine law_liftedS enc os started (by kernel_rfl) Try.func3
    (ChangeSpec.witness6 (enc := enc) (C := Try.checked) false ⟨#[], #[.slice none 0 0, .slice none 0 0], []⟩ 24 (by kernel_rfl) (by kernel_rfl) (by kernel_rfl) (by kernel_rfl)) rfl (by kernel_rfl) ?_ ?_ ?_
  · rw [Try.params3]
    intro t ht
    have hall : (#[22, 22].toList.all fun u => Try.prog.readableRec u && decide (u < Try.prog.types.size)) = true := by kernel_rfl
    have := List.all_eq_true.1 hall t ht
    simpa using this
  · intro ds h
    rw [Try.params3] at h
    match ds, h with
    | [d0, d1], _ => rfl
  · intro W base args ds ps hl hval hA
    rw [Try.params3] at hl hval hA
    obtain ⟨v0, v1, rfl⟩ : ∃ v0 v1, args = #[v0, v1] := by
      obtain ⟨l⟩ := args
      match l, hl with
      | [v0, v1], _ => exact ⟨v0, v1, rfl⟩
    obtain ⟨vx0, vy0, dd0, de0, pp0, pq0, ee0, -, -, tr0, rr0⟩ := trodAll_cons hA
    obtain ⟨rfl, rfl⟩ := List.cons.inj ee0
    obtain ⟨vx1, vy1, dd1, de1, pp1, pq1, ee1, -, -, tr1, rr1⟩ := trodAll_cons rr0
    obtain ⟨rfl, rfl⟩ := List.cons.inj ee1
    obtain ⟨a0, c0, x0, rfl, h0⟩ := shape_bytes Try.underlying22 Try.underlying5 (by kernel_rfl) (okWide_slice Try.underlying22 (hval 0 _ _ rfl rfl)) tr0
    obtain ⟨a1, c1, x1, rfl, h1⟩ := shape_bytes Try.underlying22 Try.underlying5 (by kernel_rfl) (okWide_slice Try.underlying22 (hval 1 _ _ rfl rfl)) tr1
    exact walk W a0 c0 x0 h0 a1 c1 x1 h1

/-- THE STATEMENT -/
theorem proved : Rows.FnLightsSaid := by
  first
    | (refine OpenClaim.holds_of_wide 3 Try.f3 rfl rfl rfl rfl rfl rfl rfl ⟨rfl, rfl, rfl, rfl, rfl⟩ rfl rfl rfl rfl rfl (by kernel_rfl) Try.func3 (by kernel_rfl) (of_decide_eq_true (by kernel_rfl)) ?_ (fun os started H enc _ => lifted os started H enc))
    | (refine OpenClaim.holds_of_wide_leaving 3 Try.f3 rfl rfl rfl rfl rfl rfl rfl ⟨rfl, rfl, rfl, rfl, rfl⟩ rfl rfl rfl rfl rfl (by kernel_rfl) Try.func3 (by kernel_rfl) (of_decide_eq_true (by kernel_rfl)) ?_ (fun os started H enc _ => leaving_of_handed (lifted os started H enc)))
  unfold Func.isWrapper
  first | (rw [if_pos (by decide +kernel)]; kernel_rfl) | (rw [if_neg (by decide +kernel)]; exact ⟨rfl, rfl⟩)
#print axioms proved
end Go.Proofs.Ytldchcjnepnjnaa.lawFnLights
