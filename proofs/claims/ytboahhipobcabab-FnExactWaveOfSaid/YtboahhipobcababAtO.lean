/-
  CONTRACTS: plans at an address within a block: places and phases, as the model has them.
-/
import Derived.Test.YtboahhipobcababG20
import Derived.Test.YtboahhipobcababAtL
namespace Go.Proofs.Ytboahhipobcabab
open Go Go.ChangeShapes Go.WideShapes Go.ChangeAt Go.RowKit
set_option maxRecDepth 100000

theorem PlAt.alloc {w : World} {g off : Nat} {s : Value} {b o : Int} (h : PlAt w g off s b o) (x : Obj) : PlAt (w.alloc x) g off s b o := h.step (b0 w x)
theorem PlAt.of_block {w w' : World} {g off : Nat} {s : Value} {b o : Int} (h : PlAt w g off s b o) (hb : w'.heap[g]? = w.heap[g]?) : PlAt w' g off s b o := by
  have e : ∀ k, w'.cell? ⟨g, k, none⟩ = w.cell? ⟨g, k, none⟩ := fun k => by
    unfold World.cell?
    rw [hb]
  refine ⟨(e _).trans h.c0, (e _).trans h.c1, (e _).trans h.c2, ?_⟩
  have h1 := Array.getElem?_eq_getElem h.lt
  rw [← hb] at h1
  exact (Array.getElem?_eq_some_iff.1 h1).1
theorem Ce.plAt {gR : Nat} {W w' : World} (h : Ce gR W w') {g off : Nat} {s : Value} {b o : Int} (hA : PlAt W g off s b o) (hne : g ≠ gR) : PlAt w' g off s b o := by
  obtain ⟨B, -, hb, hk⟩ := h.sub
  rcases Nat.lt_or_ge g B with c | c
  · exact hA.of_block (hb.block _ c)
  · exact hA.of_block (hk g c hA.lt hne)
theorem q_atC {P : Program} {C : World → Prop} {o : Oper} {a : Act} {K : Act → Prop} (ty : TypeId) (x : Operand) (ho : o.op = .load ty x) (d : TypeDesc) (hu : P.underlying ty = some d) (hd : (match d with | .struct _ | .array _ _ => true | _ => false) = false) (ad : Addr) (hx : a.eval x = .pointer (some ad)) {v : Value} (hA : ∀ w, C w → w.cell? ad = some v) (hK : K (a.put o.dst v)) : o.quiet P a C K :=
  q_load ty x ho _ hx v (fun w hw => run_load_one w ty d hu hd _ v (hA w hw)) hK

set_option maxHeartbeats 1000000 in
theorem l04AtO_any (g off : Nat) (G : Nat) (xs : Slots) (b o : Int) (hW : SlW xs) (T : TypeId) (hlen : xs.length ≤ 8) (hb : 0 ≤ b ∧ b ≤ 240) (htk : tkOk xs xs.length = true) (c0 : Int) (hc0 : 0 ≤ c0 ∧ c0 ≤ 4000000000) (w : World) (P0 : PlAt w g off (.slice (some ⟨G, 0, none⟩) xs.length xs.length) b o) (A0 : At w G (slC xs) T) :
    Calls Try.prog 129 #[.pointer (some ⟨g, off, none⟩), .int .i64 c0] w fun e w' => e = .returned (.tuple #[.agg (bl (atS b xs c0).1), .int .i64 (atS b xs c0).2]) ∧ Below w.heap.size w w' := by
  have R0 := At.new w (bl (noes 8)) 69
  have P1 := P0.alloc (.cells (bl (noes 8)) 69)
  have A1 := A0.alloc (.cells (bl (noes 8)) 69)
  have B1 := Lib.hid (b0 w (.cells (bl (noes 8)) 69))
  have HX := Lib.hid (And.intro hW htk)
  have hgl := Nat.ne_of_lt P0.lt
  have hGl := Nat.ne_of_lt A0.lt
  obtain ⟨n, hnn⟩ : ∃ n, n = xs.length := ⟨_, rfl⟩
  have HN := Lib.hid hnn
  rw [← hnn] at hlen P1
  clear hnn hW htk P0 A0
  go_enter Try.func129, Try.ntmps129
  go_wp2
  go_loopw [1, 6] (fun cc i wr => ∃ (k : Nat) (c : Int), k ≤ n ∧ i = .int .i64 (k : Int) ∧ cc = .int .i64 c ∧ (0 ≤ c ∧ c ≤ 4000000000) ∧ Hid (atS b (xs.drop k) c = atS b xs c0) ∧ PlAt wr g off (.slice (some ⟨G, 0, none⟩) n n) b o ∧ At wr G (slC xs) T ∧ At wr w.heap.size (bl (noes 8)) 69 ∧ Hid (Below w.heap.size w wr)) (fun _ i _ => n - (intOf i).toNat)
  case atStart => exact ⟨0, c0, by omega, rfl, rfl, hc0, Lib.hid rfl, P1, A1, R0, B1⟩
  case round =>
    clear P1 A1 R0 B1 hc0
    obtain ⟨k, c, hk, rfl, rfl, hcr, hat, P1, A1, R1, B1⟩ := hrel
    have f0 : wr.cell? ⟨g, off, none⟩ = some (.slice (some ⟨G, 0, none⟩) n n) := P1.c0
    by_cases hlt : k < n
    · have s2 : IntKind.i64.wrap ((k : Int) + 1) = (k : Int) + 1 := IntWalk.i64_in _ (by omega)
      have kd : (k : Int) < (n : Int) := by omega
      have hkl : k < xs.length := by rw [← HN.out]; exact hlt
      have htr := tkOk_at hkl HX.out.2
      have HT := slC_ticks HX.out.1 hkl (k := k * 9 + 8) rfl
      have ft : wr.cell? ⟨G, k * 9 + 8, none⟩ = some (.int .i64 (st xs k)) := A1.cell HT
      have f1 : wr.cell? ⟨g, off + 1, none⟩ = some (.int .i64 b) := P1.c1
      have hb8 := (HX.out.1.at hkl).1
      have SS := slC_size HX.out.1
      have hle : k * 9 + 8 ≤ (slC xs).size := by rw [SS]; omega
      have hph := slC_phase HX.out.1 hkl (k := k * 9) rfl
      have SZ8 : (bl (sb xs k)).size = 8 := by rw [bl_size, hb8]
      have SZ0 : (bl (noes 8)).size = 8 := by rw [bl_size, noes_len]
      clear SS
      by_cases c1 : c < st xs k
      · have hv := hat.out.symm.trans (atS_a hkl c1)
        have sw : IntKind.i64.wrap (st xs k - c) = st xs k - c := IntWalk.i64_in _ (by omega)
        have EQ : Ending.returned (Value.tuple #[.agg (bl (sb xs k)), .int .i64 (st xs k - c)]) = .returned (.tuple #[.agg (bl (atS b xs c0).1), .int .i64 (atS b xs c0).2]) := by rw [hv]
        clear hv hkl
        go_wp2
        refine wp_region_late (n := 19) (ist := 18) (d := 4) (s := 33) (T := 69) (gR := w.heap.size) (OV := bl (noes 8)) (RV := bl (sb xs k)) (by kernel_rfl) (by kernel_rfl) (by kernel_rfl) ⟨rfl, rfl, by decide, by kernel_rfl, by kernel_rfl, by kernel_rfl, by kernel_rfl⟩ rfl R1 (fun ev w' h1 h2 h3 => store_fresh rfl 8 SZ8 SZ0 (by kernel_rfl) (bl_one _) ev w' _ h1 h2 h3) ?_
        intro C hC0
        have P9 : ∀ w', C w' → PlAt w' g off (.slice (some ⟨G, 0, none⟩) n n) b o := fun w' h => (hC0.sub w' h).plAt P1 hgl
        have A9 : ∀ w', C w' → At w' G (slC xs) T := fun w' h => (hC0.sub w' h).at A1 hGl
        have hC := hC0.const
        simp (config := { decide := true }) only [cutOut, nop, List.mapIdx_cons, List.mapIdx_nil, if_true, if_false, List.take, List.drop]
        repeat (first
          | go_big_quiet_skip
          | (go_big_quiet_want; first
            | (refine q_atC 39 _ rfl _ Try.underlying39 rfl ⟨g, off, none⟩ rfl (fun w' h => (P9 w' h).c0) ?_; go_simp; go_big_quiet_on)
            | (refine q_partC 69 _ rfl (k * 9) rfl A9 8 hle _ Try.underlying69 rfl (by kernel_rfl) (bl (sb xs k)) hph ?_; go_simp; go_big_quiet_on)
            | (refine q_oneC 2 _ rfl _ Try.underlying2 rfl (k * 9 + 8) rfl A9 _ HT ?_; go_simp; go_big_quiet_on)
            | (go_big_quiet_op; go_big_quiet_on)))
        refine wpQuiet_nil ?_
        refine ⟨rfl, fun w9 hw9 R9 => ?_⟩
        have B9 := Lib.hid (B1.out.trans (hw9.below (Nat.le_refl _) R1.lt))
        clear hC P9 A9 hC0 hw9 P1 A1 R1 B1 ft f0 f1
        go_wp2
        exact bodyPost_ret (v := .tuple #[.agg (bl (sb xs k)), .int .i64 (st xs k - c)]) (results_at_tmp (p := 4) (ty := 69) rfl _ _ _ (bl (sb xs k)) _ (.int .i64 (st xs k - c)) rfl rfl R9 _ Try.underlying69 rfl 8 (SZ8) (by kernel_rfl)) rfl ⟨EQ, B9.out⟩
      · have s3 : IntKind.i64.wrap (c - st xs k) = c - st xs k := IntWalk.i64_in _ (by omega)
        by_cases c2 : c - st xs k < b
        · have hv := hat.out.symm.trans (atS_b hkl c1 c2)
          have sw : IntKind.i64.wrap (b - (c - st xs k)) = b - (c - st xs k) := IntWalk.i64_in _ (by omega)
          have EQ : Ending.returned (Value.tuple #[.agg (bl (noes 8)), .int .i64 (b - (c - st xs k))]) = .returned (.tuple #[.agg (bl (atS b xs c0).1), .int .i64 (atS b xs c0).2]) := by rw [hv]
          clear hv hkl
          go_wp2
          refine wp_region_late (n := 8) (ist := 7) (d := 4) (s := 60) (T := 69) (gR := w.heap.size) (OV := bl (noes 8)) (RV := bl (noes 8)) (by kernel_rfl) (by kernel_rfl) (by kernel_rfl) ⟨rfl, rfl, by decide, by kernel_rfl, by kernel_rfl, by kernel_rfl, by kernel_rfl⟩ rfl R1 (fun ev w' h1 h2 h3 => store_fresh rfl 8 SZ0 SZ0 (by kernel_rfl) (bl_one _) ev w' _ h1 h2 h3) ?_
          intro C hC0
          have P9 : ∀ w', C w' → PlAt w' g off (.slice (some ⟨G, 0, none⟩) n n) b o := fun w' h => (hC0.sub w' h).plAt P1 hgl
          have A9 : ∀ w', C w' → At w' G (slC xs) T := fun w' h => (hC0.sub w' h).at A1 hGl
          have hC := hC0.const
          simp (config := { decide := true }) only [cutOut, nop, List.mapIdx_cons, List.mapIdx_nil, if_true, if_false, List.take, List.drop]
          repeat (first
            | go_big_quiet_skip
            | (go_big_quiet_want; first
              | (refine q_atC 2 _ rfl _ Try.underlying2 rfl ⟨g, off + 1, none⟩ rfl (fun w' h => (P9 w' h).c1) ?_; go_simp; go_big_quiet_on)
              | (go_big_quiet_op; go_big_quiet_on)))
          refine wpQuiet_nil ?_
          refine ⟨rfl, fun w9 hw9 R9 => ?_⟩
          have B9 := Lib.hid (B1.out.trans (hw9.below (Nat.le_refl _) R1.lt))
          clear hC P9 A9 hC0 hw9 P1 A1 R1 B1 ft f0 f1
          go_wp2
          exact bodyPost_ret (v := .tuple #[.agg (bl (noes 8)), .int .i64 (b - (c - st xs k))]) (results_at_tmp (p := 4) (ty := 69) rfl _ _ _ (bl (noes 8)) _ (.int .i64 (b - (c - st xs k))) rfl rfl R9 _ Try.underlying69 rfl 8 (SZ0) (by kernel_rfl)) rfl ⟨EQ, B9.out⟩
        · have hn := Lib.hid ((atS_c hkl c1 c2).symm.trans hat.out)
          have sw : IntKind.i64.wrap (c - st xs k - b) = c - st xs k - b := IntWalk.i64_in _ (by omega)
          clear hkl
          go_wp2
          exact ⟨⟨k + 1, c - st xs k - b, by omega, by go_num, rfl, by omega, hn, P1, A1, R1, B1⟩, by simp [intOf]; omega⟩
    · obtain rfl : n = k := by omega
      have hat' := hat.out
      have hv : atS b xs c0 = (noes 8, 0) := by rw [← hat', HN.out]; exact atS_end
      have SZ0 : (bl (noes 8)).size = 8 := by rw [bl_size, noes_len]
      have EQ : Ending.returned (Value.tuple #[.agg (bl (noes 8)), .int .i64 (0)]) = .returned (.tuple #[.agg (bl (atS b xs c0).1), .int .i64 (atS b xs c0).2]) := by rw [hv]
      clear hv hat'
      have R9 := R1.setRow (bl (noes 8))
      have B9 := Lib.hid (bset B1.out (g := w.heap.size) (Nat.le_refl _) (bl (noes 8)))
      go_wp2_with (((with_reducible refine is_store 69 _ _ rfl ?_); refine wpList_store_at rfl 69 _ _ rfl _ rfl (bl (noes 8)) rfl (bl (noes 8)) _ (by with_reducible assumption) 8 (SZ0) (by rw [bl_size, noes_len]) (by kernel_rfl) (bl_one _) ?_))
      exact bodyPost_ret (v := .tuple #[.agg (bl (noes 8)), .int .i64 (0)]) (results_at_tmp (p := 4) (ty := 69) rfl _ _ _ (bl (noes 8)) _ (.int .i64 (0)) rfl rfl R9 _ Try.underlying69 rfl 8 (SZ0) (by kernel_rfl)) rfl ⟨EQ, B9.out⟩

end Go.Proofs.Ytboahhipobcabab
