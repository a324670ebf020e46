/-
  CONTRACTS: three numbers sorted.
-/
import Derived.Test.YthljppdkplkohaaArms
import Derived.Test.YthljppdkplkohaaOneCell
import Derived.Test.YthljppdkplkohaaTail
import Derived.Test.YthljppdkplkohaaG3
namespace Go.Proofs.Ythljppdkplkohaa
open Go Go.RowKit
set_option maxRecDepth 100000

/-- a number, not NaN -/
def Num (x : Nat) : Prop := x < 4294967296 ∧ nanB x = false
def ltB (x y : Nat) : Bool := FloatKind.f32.format.order x y == some .lt
def Nums (L : List Nat) : Prop := ∀ k, k < L.length → Num (nth L k)
theorem nth_set' {vs : List Nat} {k x : Nat} (hk : k < vs.length) (j : Nat) : nth (vs.set k x) j = if j = k then x else nth vs j := by
  unfold nth
  rw [List.getD_eq_getElem?_getD, List.getD_eq_getElem?_getD, List.getElem?_set]
  by_cases h : k = j
  · subst h; rw [if_pos rfl, if_pos hk, if_pos rfl]; rfl
  · rw [if_neg h, if_neg (fun e => h e.symm)]
/-- two neighbours changed -/
def swp (L : List Nat) (q : Nat) : List Nat := (L.set (q + 1) (nth L q)).set q (nth L (q + 1))
theorem swp_len (L : List Nat) (q : Nat) : (swp L q).length = L.length := by simp [swp]
theorem swp_nums {L : List Nat} {q : Nat} (hq : q + 1 < L.length) (h : Nums L) : Nums (swp L q) := by
  intro k hk
  rw [swp_len] at hk
  unfold swp
  rw [nth_set' (by rw [List.length_set]; omega)]
  split
  · exact h _ hq
  · rw [nth_set' hq]
    split
    · exact h _ (by omega)
    · exact h k hk
/-- the number at a place, put into those ahead of it -/
def insF (L : List Nat) : Nat → List Nat
  | 0 => L
  | q + 1 => if ltB (nth L (q + 1)) (nth L q) then insF (swp L q) q else L
def srt (L : List Nat) : List Nat := insF (insF L 1) 2
theorem insF_len (L : List Nat) : ∀ q, (insF L q).length = L.length
  | 0 => rfl
  | q + 1 => by
    unfold insF
    split
    · rw [insF_len (swp L q) q, swp_len]
    · rfl
theorem insF_nums : ∀ {q : Nat} {L : List Nat}, q < L.length → Nums L → Nums (insF L q)
  | 0, _, _, h => h
  | q + 1, L, hq, h => by
    unfold insF
    split
    · exact insF_nums (by rw [swp_len]; omega) (swp_nums hq h)
    · exact h
/-- the rest of the outer rounds -/
def srtF (L : List Nat) (j : Nat) : List Nat := if j = 1 then insF (insF L 1) 2 else if j = 2 then insF L 2 else L

theorem isNaN_num (x : Nat) (hx : Num x) (w : World) : Calls Try.prog 54 #[.float .f32 x] w (Rd (.bool false) w) := by
  have o := order_self_ne x hx.1
  rw [hx.2] at o
  go_enter Try.func54, Try.ntmps54
  go_wp2
  go_ret
  exact Rd.mk0
theorem Less_num (x y : Nat) (hx : Num x) (hy : Num y) (w : World) : Calls Try.prog 44 #[.float .f32 x, .float .f32 y] w (Rd (.bool (ltB x y)) w) := by
  have hl : (FloatKind.f32.format.order x y == some .lt) = ltB x y := rfl
  go_enter Try.func44, Try.ntmps44
  go_wp2_with fail
  refine (isNaN_num x hx _).mono ?_
  rintro e w1 ⟨rfl, n1, rfl⟩
  go_wp2_with fail
  go_ret
  exact ⟨by rw [← hl]; rfl, n1, rfl⟩

theorem bthen' {B : Nat} {w a b : World} (h : Below B w a) (k : Cb a b) (hB : B ≤ a.heap.size := by omega) : Below B w b := h.trans (k.mono hB)
theorem run_indexAt_sl {P : Program} (w : World) (ty e : TypeId) (g n k : Nat) (hu : P.underlying ty = some (.slice e)) (he : (P.info? e).map (·.size) = some 1) (hk : k < n) :
    (Instr.indexAt ty (.slice (some ⟨g, 0, none⟩) n n) (.int .i64 k)).run P w = .ok (.pointer (some ⟨g, k, none⟩)) w := by
  cases hq : P.info? e with
  | none => simp [hq] at he
  | some i =>
    have hs : i.size = 1 := by simpa [hq] using he
    by_cases h0 : k = 0
    · subst h0; simp [Instr.indexAt, Instr.sureAddr, asIntOf, run_underlying hu, hk, sizeOf, typeInfo, hq, hs, Addr.add]
    · simp [Instr.indexAt, Instr.sureAddr, asIntOf, run_underlying hu, hk, sizeOf, typeInfo, hq, hs, Addr.add, h0]
set_option maxHeartbeats 2000000 in
theorem insertionSort_any (g : Nat) (L : List Nat) (hL : L.length = 3) (hN : Nums L) (T : TypeId) (w : World) (hA : At w g (fl L) T) :
    Calls Try.prog 38 #[.slice (some ⟨g, 0, none⟩) 3 3, .int .i64 0, .int .i64 3] w fun e w' => e = .returned (.tuple #[]) ∧ At w' g (fl (srt L)) T ∧ Below g w w' := by
  have hB : Hid (Below g w w) := Lib.hid (Below.refl _ _)
  go_enter Try.func38, Try.ntmps38
  go_wp2
  go_loopw [6] (fun i1 wr => ∃ (j : Nat) (M : List Nat), 1 ≤ j ∧ j ≤ 3 ∧ i1 = .int .i64 j ∧ M.length = 3 ∧ Hid (Nums M) ∧ Hid (srtF M j = srt L) ∧ At wr g (fl M) T ∧ Hid (Below g w wr)) (fun i1 _ => 4 - (intOf i1).toNat)
  case atStart => exact ⟨1, L, by omega, by omega, rfl, hL, Lib.hid hN, Lib.hid rfl, hA, hB⟩
  case round =>
    clear hA hB hN
    obtain ⟨j, M, hj1, hj3, rfl, hM, hN, hS, A4, B4⟩ := hrel
    by_cases hj : j < 3
    · have s2 : IntKind.i64.wrap ((j : Int) + 1) = (j : Int) + 1 := IntWalk.i64_in _ (by omega)
      have hjd : decide ((j : Int) < 3) = true := decide_eq_true (by omega)
      go_wp2
      go_loopw [7] (fun i1 wr' => ∃ (q : Nat) (N : List Nat), q ≤ j ∧ i1 = .int .i64 q ∧ N.length = 3 ∧ Hid (Nums N) ∧ Hid (insF N q = insF M j) ∧ At wr' g (fl N) T ∧ Hid (Below g w wr')) (fun i1 _ => (intOf i1).toNat)
      case atStart => exact ⟨j, M, Nat.le_refl _, rfl, hM, hN, Lib.hid rfl, A4, B4⟩
      case round =>
        clear A4 B4
        obtain ⟨q, N, hq, rfl, hNl, hNN, hI, A5, B5⟩ := hrel
        have gl := A5.lt
        have hend : ∀ W, insF N q = N → At W g (fl N) T → Below g w W → ∃ j' M', 1 ≤ j' ∧ j' ≤ 3 ∧ Value.int IntKind.i64 ((j : Int) + 1) = Value.int IntKind.i64 (j' : Nat) ∧ M'.length = 3 ∧ Hid (Nums M') ∧ Hid (srtF M' j' = srt L) ∧ At W g (fl M') T ∧ Hid (Below g w W) := fun W hz hAW hBW =>
          ⟨j + 1, N, by omega, by omega, by go_num, hNl, hNN, Lib.hid (by
            have e : N = insF M j := by rw [← hI.out, hz]
            rw [← hS.out, e]
            rcases (by omega : j = 1 ∨ j = 2) with rfl | rfl <;> rfl), hAW, Lib.hid hBW⟩
        have HE := Lib.hid hend
        clear hend
        by_cases hq0 : q = 0
        · subst hq0
          have hC := Cb.const wr
          go_wp2
          refine wp_region_cb (by kernel_rfl) (by kernel_rfl) ?_
          repeat (first
            | go_big_quiet_skip
            | (go_big_quiet_want; first
              | (go_big_quiet_op; go_big_quiet_on)
            ))
          refine wpQuiet_nil ?_
          intro w7 hw7
          have A7 := A5.step hw7
          have B7 := bthen' B5.out hw7
          go_wp2
          obtain ⟨j', M', a1, a2, a3, a4, a5, a6, a7, a8⟩ := HE.out w7 rfl A7 B7
          exact ⟨⟨j', M', a1, a2, a3, a4, a5, a6, a7, a8⟩, by simp [intOf]; omega⟩
        · obtain ⟨p, rfl⟩ : ∃ p, q = p + 1 := ⟨q - 1, by omega⟩
          have hp : p + 1 < 3 := by omega
          have c1 : ((p + 1 : Nat) : Int) = (p : Int) + 1 := by omega
          rw [c1]
          have hgt : decide (0 < (p : Int) + 1) = true := decide_eq_true (by omega)
          have s4 : IntKind.i64.wrap ((p : Int) + 1 - 1) = (p : Int) := by rw [show (p : Int) + 1 - 1 = p from by omega]; exact IntWalk.i64_in _ (by omega)
          have d0 : (fl N)[p]? = some (.float .f32 (nth N p)) := fl_get (by omega)
          have d1 : (fl N)[p + 1]? = some (.float .f32 (nth N (p + 1))) := fl_get (by omega)
          have KL := fun w => (Less_num (nth N (p + 1)) (nth N p) (hNN.out _ (by omega)) (hNN.out _ (by omega)) w).mono fun e w' (h : Rd _ w e w') => (⟨h.1, by obtain ⟨-, n, rfl⟩ := h; exact bdrew (Below.refl _ _) n⟩ : e = .returned (.bool (ltB (nth N (p + 1)) (nth N p))) ∧ Below w.heap.size w w')
          have i1 : ∀ W, (Instr.indexAt 51 (.slice (some ⟨g, 0, none⟩) 3 3) (.int .i64 ((p : Int) + 1))).run Try.prog W = .ok (.pointer (some ⟨g, p + 1, none⟩)) W := fun W => by have := run_indexAt_sl W 51 24 g 3 (p + 1) Try.underlying51 (by kernel_rfl) hp; rwa [c1] at this
          have i0 : ∀ W, (Instr.indexAt 51 (.slice (some ⟨g, 0, none⟩) 3 3) (.int .i64 (p : Int))).run Try.prog W = .ok (.pointer (some ⟨g, p, none⟩)) W := fun W => run_indexAt_sl W 51 24 g 3 p Try.underlying51 (by kernel_rfl) (by omega)
          have hC := Cb.const wr
          go_wp2
          cases hl : ltB (nth N (p + 1)) (nth N p) <;> rw [hl] at KL
          · skip
            refine wp_region_cb (by kernel_rfl) (by kernel_rfl) ?_
            repeat (first
              | go_big_quiet_skip
              | (go_big_quiet_want; first
                | (refine q_cell 24 _ rfl _ Try.underlying24 _ rfl A5 _ d0 ?_; go_simp; go_big_quiet_on)
                | (refine q_cell 24 _ rfl _ Try.underlying24 _ rfl A5 _ d1 ?_; go_simp; go_big_quiet_on)
                | (go_big_quiet_op; go_big_quiet_on)
                | (go_big_quiet_op; apply Exists.intro; refine ⟨fun w' hw' => ?_, ?_⟩; (go_at_call 44; exact (KL _).mono fun _ _ h => ⟨h.1, hw'.step h.2⟩); go_big_quiet_on)
              ))
            refine wpQuiet_nil ?_
            intro w7 hw7
            have A7 := A5.step hw7
            have B7 := bthen' B5.out hw7
            go_wp2
            obtain ⟨j', M', a1, a2, a3, a4, a5, a6, a7, a8⟩ := HE.out w7 (by unfold insF; rw [hl]; rfl) A7 B7
            exact ⟨⟨j', M', a1, a2, a3, a4, a5, a6, a7, a8⟩, by simp [intOf]; omega⟩
          · skip
            refine wp_region_cb (by kernel_rfl) (by kernel_rfl) ?_
            repeat (first
              | go_big_quiet_skip
              | (go_big_quiet_want; first
                | (refine q_cell 24 _ rfl _ Try.underlying24 _ rfl A5 _ d0 ?_; go_simp; go_big_quiet_on)
                | (refine q_cell 24 _ rfl _ Try.underlying24 _ rfl A5 _ d1 ?_; go_simp; go_big_quiet_on)
                | (go_big_quiet_op; go_big_quiet_on)
                | (go_big_quiet_op; apply Exists.intro; refine ⟨fun w' hw' => ?_, ?_⟩; (go_at_call 44; exact (KL _).mono fun _ _ h => ⟨h.1, hw'.step h.2⟩); go_big_quiet_on)
              ))
            refine wpQuiet_nil ?_
            intro w7 hw7
            have A7 := A5.step hw7
            have B7 := Lib.hid (bthen' B5.out hw7)
            have gl7 := A7.lt
            clear A5 B5 hw7 hC HE
            have hC := Cb.const w7
            have hI' : Hid (insF (swp N p) p = insF M j) := Lib.hid (by rw [← hI.out, insF, if_pos hl])
            have hN' : Hid (Nums (swp N p)) := Lib.hid (swp_nums (by omega) hNN.out)
            go_wp2
            refine wp_region_held (S := fun _ => True) (by kernel_rfl) ?_
            show wpAnyH _ _ _ _ _ 18 (Array.replicate 18 false) _ _
            have A8 : At { w7 with drawn := w7.drawn + 1 } g (fl N) T := A7
            have B8 : Hid (Below g w { w7 with drawn := w7.drawn + 1 }) := Lib.hid (bdrew B7.out 1)
            generalize ({ w7 with drawn := w7.drawn + 1 } : World) = w1 at A8 B8 ⊢
            clear A7 B7 hC KL
            have HSUB : ∀ W, (binOp .sub 3 (.int .i64 ((p : Int) + 1)) (.int .i64 1)).run Try.prog W = .ok (.int .i64 (p : Int)) W := fun W => by rw [run_sub_i64, s4]
            have A9 := A8.setRow (fl (N.set (p + 1) (nth N p)))
            have AA := A9.setRow (fl (swp N p))
            have BA := Lib.hid (Below.setRow (Below.setRow B8.out (g := g) (Nat.le_refl _) (fl (N.set (p + 1) (nth N p)))) (g := g) (Nat.le_refl _) (fl (swp N p)))
            have hs1 := run_storeAt_one (P := Try.prog) w1 g (p + 1) T 24 (fl N) (.float .f32 (nth N p)) A8 (by kernel_rfl) (by rw [fl_size]; omega) rfl
            rw [fl_set] at hs1
            have hs2 := run_storeAt_one (P := Try.prog) _ g p T 24 (fl (N.set (p + 1) (nth N p))) (.float .f32 (nth N (p + 1))) A9 (by kernel_rfl) (by rw [fl_size, List.length_set]; omega) rfl
            rw [fl_set, show (N.set (p + 1) (nth N p)).set p (nth N (p + 1)) = swp N p from rfl] at hs2
            refine wpAnyH_take (i := 0) (v := .slice (some ⟨g, 0, none⟩) 3 3) rfl (by kernel_rfl) (by kernel_rfl) (by kernel_rfl) (fun _ _ _ h => h) (yif rfl fun w' hw' => hx_move (.tmp 0) rfl (by kernel_rfl)) trivial ?_
            refine wpAnyH_take (i := 1) (v := .int .i64 ((p : Int) + 1)) rfl (by kernel_rfl) (by kernel_rfl) (by kernel_rfl) (fun _ _ _ h => h) (yif rfl fun w' hw' => hx_move (.tmp 7) rfl (by kernel_rfl)) trivial ?_
            refine wpAnyH_take (i := 2) (v := .slice (some ⟨g, 0, none⟩) 3 3) rfl (by kernel_rfl) (by kernel_rfl) (by kernel_rfl) (fun _ _ _ h => h) (yif rfl fun w' hw' => hx_move (.tmp 0) rfl (by kernel_rfl)) trivial ?_
            refine wpAnyH_take (i := 3) (v := .int .i64 ((p : Int) + 1)) rfl (by kernel_rfl) (by kernel_rfl) (by kernel_rfl) (fun _ _ _ h => h) (yif rfl fun w' hw' => hx_move (.tmp 7) rfl (by kernel_rfl)) trivial ?_
            refine wpAnyH_take (i := 4) (v := .int .i64 (p : Int)) rfl (by kernel_rfl) (by kernel_rfl) (by kernel_rfl) (fun _ _ _ h => h) (yif rfl fun w' hw' => hx_sub 3 (.tmp 36) (.const (.int .i64 1)) rfl (.int .i64 ((p : Int) + 1)) (.int .i64 1) (by kernel_rfl) (by kernel_rfl) (HSUB w')) trivial ?_
            refine wpAnyH_take (i := 5) (v := .slice (some ⟨g, 0, none⟩) 3 3) rfl (by kernel_rfl) (by kernel_rfl) (by kernel_rfl) (fun _ _ _ h => h) (yif rfl fun w' hw' => hx_move (.tmp 0) rfl (by kernel_rfl)) trivial ?_
            refine wpAnyH_take (i := 6) (v := .int .i64 ((p : Int) + 1)) rfl (by kernel_rfl) (by kernel_rfl) (by kernel_rfl) (fun _ _ _ h => h) (yif rfl fun w' hw' => hx_move (.tmp 7) rfl (by kernel_rfl)) trivial ?_
            refine wpAnyH_take (i := 7) (v := .int .i64 (p : Int)) rfl (by kernel_rfl) (by kernel_rfl) (by kernel_rfl) (fun _ _ _ h => h) (yif rfl fun w' hw' => hx_sub 3 (.tmp 39) (.const (.int .i64 1)) rfl (.int .i64 ((p : Int) + 1)) (.int .i64 1) (by kernel_rfl) (by kernel_rfl) (HSUB w')) trivial ?_
            refine wpAnyH_take (i := 8) (v := .pointer (some ⟨g, p, none⟩)) rfl (by kernel_rfl) (by kernel_rfl) (by kernel_rfl) (fun _ _ _ h => h) (yif rfl fun w' hw' => hx_index 51 (.tmp 38) (.tmp 40) rfl (.slice (some ⟨g, 0, none⟩) 3 3) (.int .i64 (p : Int)) (by kernel_rfl) (by kernel_rfl) (i0 w')) trivial ?_
            refine wpAnyH_take (i := 10) (v := .slice (some ⟨g, 0, none⟩) 3 3) rfl (by kernel_rfl) (by kernel_rfl) (by kernel_rfl) (fun _ _ _ h => h) (yif rfl fun w' hw' => hx_move (.tmp 0) rfl (by kernel_rfl)) trivial ?_
            refine wpAnyH_take (i := 11) (v := .int .i64 ((p : Int) + 1)) rfl (by kernel_rfl) (by kernel_rfl) (by kernel_rfl) (fun _ _ _ h => h) (yif rfl fun w' hw' => hx_move (.tmp 7) rfl (by kernel_rfl)) trivial ?_
            refine wpAnyH_take (i := 12) (v := .pointer (some ⟨g, p + 1, none⟩)) rfl (by kernel_rfl) (by kernel_rfl) (by kernel_rfl) (fun _ _ _ h => h) (yif rfl fun w' hw' => hx_index 51 (.tmp 43) (.tmp 44) rfl (.slice (some ⟨g, 0, none⟩) 3 3) (.int .i64 ((p : Int) + 1)) (by kernel_rfl) (by kernel_rfl) (i1 w')) trivial ?_
            refine wpAnyH_all (rs := [9, 13]) (by kernel_rfl) (by simp) fun i hi => ?_
            have hi' : i = 9 ∨ i = 13 := by simpa using hi
            clear hi
            rcases hi' with rfl | rfl
            · skip
              refine op_value (v := .float .f32 (nth N (p))) rfl rfl (x_load 24 (.tmp 41) rfl ⟨g, p, none⟩ (by kernel_rfl) (run_load_cell w1 24 _ Try.underlying24 _ _ (A8.cell d0))) ⟨trivial, ?_⟩
              refine wpAnyH_all (rs := [13]) (by kernel_rfl) (by simp) fun i hi => ?_
              obtain rfl := one_of hi
              refine op_value (v := .float .f32 (nth N (p + 1))) rfl rfl (x_load 24 (.tmp 45) rfl ⟨g, p + 1, none⟩ (by kernel_rfl) (run_load_cell w1 24 _ Try.underlying24 _ _ (A8.cell d1))) ⟨trivial, ?_⟩
              refine wpAnyH_all (rs := [14]) (by kernel_rfl) (by simp) fun i hi => ?_
              obtain rfl := one_of hi
              refine op_value (v := .pointer (some ⟨g, p + 1, none⟩)) rfl rfl (hx_index 51 (.tmp 33) (.tmp 34) rfl (.slice (some ⟨g, 0, none⟩) 3 3) (.int .i64 ((p : Int) + 1)) (by kernel_rfl) (by kernel_rfl) (i1 _)) ⟨trivial, ?_⟩
              refine wpAnyH_all (rs := [15]) (by kernel_rfl) (by simp) fun i hi => ?_
              obtain rfl := one_of hi
              refine op_skip rfl rfl (hx_store 24 (.tmp 47) (.tmp 42) rfl (.pointer (some ⟨g, p + 1, none⟩)) (.float .f32 (nth N p)) (by kernel_rfl) (by kernel_rfl) hs1) ⟨trivial, ?_⟩
              refine wpAnyH_all (rs := [16]) (by kernel_rfl) (by simp) fun i hi => ?_
              obtain rfl := one_of hi
              refine op_value (v := .pointer (some ⟨g, p, none⟩)) rfl rfl (hx_index 51 (.tmp 35) (.tmp 37) rfl (.slice (some ⟨g, 0, none⟩) 3 3) (.int .i64 (p : Int)) (by kernel_rfl) (by kernel_rfl) (i0 _)) ⟨trivial, ?_⟩
              refine wpAnyH_all (rs := [17]) (by kernel_rfl) (by simp) fun i hi => ?_
              obtain rfl := one_of hi
              refine op_skip rfl rfl (hx_store 24 (.tmp 48) (.tmp 46) rfl (.pointer (some ⟨g, p, none⟩)) (.float .f32 (nth N (p + 1))) (by kernel_rfl) (by kernel_rfl) hs2) ⟨trivial, ?_⟩
              refine wpAnyH_done (by kernel_rfl) ?_ _
              generalize (w1.setRow g (fl (N.set (p + 1) (nth N p)))).setRow g (fl (swp N p)) = w9 at AA BA ⊢
              generalize hA : Act.put _ _ _ = A
              have eA : A = { tmps := #[.slice (some ⟨g, 0, none⟩) 3 3, .int .i64 0, .int .i64 3, undef, undef, undef, .int .i64 j, .int .i64 ((p : Int) + 1), .int .i64 0, .int .i64 1, .int .i64 j, .int .i64 3, .bool true, u13, u14, .int .i64 j, .int .i64 ((p : Int) + 1), .int .i64 0, .bool true, .bool true, .slice (some ⟨g, 0, none⟩) 3 3, .int .i64 ((p : Int) + 1), .pointer (some ⟨g, p + 1, none⟩), .float .f32 (nth N (p + 1)), .slice (some ⟨g, 0, none⟩) 3 3, .int .i64 ((p : Int) + 1), .int .i64 (p : Int), .pointer (some ⟨g, p, none⟩), .float .f32 (nth N p), .bool true, .bool true, u31, u32, .slice (some ⟨g, 0, none⟩) 3 3, .int .i64 ((p : Int) + 1), .slice (some ⟨g, 0, none⟩) 3 3, .int .i64 ((p : Int) + 1), .int .i64 (p : Int), .slice (some ⟨g, 0, none⟩) 3 3, .int .i64 ((p : Int) + 1), .int .i64 (p : Int), .pointer (some ⟨g, p, none⟩), .float .f32 (nth N p), .slice (some ⟨g, 0, none⟩) 3 3, .int .i64 ((p : Int) + 1), .pointer (some ⟨g, p + 1, none⟩), .float .f32 (nth N (p + 1)), .pointer (some ⟨g, p + 1, none⟩), .pointer (some ⟨g, p, none⟩)], defers := [] } := by rw [← hA]; kernel_rfl
              clear hA
              subst eA
              go_wp2
              exact ⟨⟨p, swp N p, by omega, by go_num, by rw [swp_len]; exact hNl, hN', hI', AA, BA⟩, by simp [intOf]⟩
            · skip
              refine op_value (v := .float .f32 (nth N (p + 1))) rfl rfl (x_load 24 (.tmp 45) rfl ⟨g, p + 1, none⟩ (by kernel_rfl) (run_load_cell w1 24 _ Try.underlying24 _ _ (A8.cell d1))) ⟨trivial, ?_⟩
              refine wpAnyH_all (rs := [9]) (by kernel_rfl) (by simp) fun i hi => ?_
              obtain rfl := one_of hi
              refine op_value (v := .float .f32 (nth N (p))) rfl rfl (x_load 24 (.tmp 41) rfl ⟨g, p, none⟩ (by kernel_rfl) (run_load_cell w1 24 _ Try.underlying24 _ _ (A8.cell d0))) ⟨trivial, ?_⟩
              refine wpAnyH_all (rs := [14]) (by kernel_rfl) (by simp) fun i hi => ?_
              obtain rfl := one_of hi
              refine op_value (v := .pointer (some ⟨g, p + 1, none⟩)) rfl rfl (hx_index 51 (.tmp 33) (.tmp 34) rfl (.slice (some ⟨g, 0, none⟩) 3 3) (.int .i64 ((p : Int) + 1)) (by kernel_rfl) (by kernel_rfl) (i1 _)) ⟨trivial, ?_⟩
              refine wpAnyH_all (rs := [15]) (by kernel_rfl) (by simp) fun i hi => ?_
              obtain rfl := one_of hi
              refine op_skip rfl rfl (hx_store 24 (.tmp 47) (.tmp 42) rfl (.pointer (some ⟨g, p + 1, none⟩)) (.float .f32 (nth N p)) (by kernel_rfl) (by kernel_rfl) hs1) ⟨trivial, ?_⟩
              refine wpAnyH_all (rs := [16]) (by kernel_rfl) (by simp) fun i hi => ?_
              obtain rfl := one_of hi
              refine op_value (v := .pointer (some ⟨g, p, none⟩)) rfl rfl (hx_index 51 (.tmp 35) (.tmp 37) rfl (.slice (some ⟨g, 0, none⟩) 3 3) (.int .i64 (p : Int)) (by kernel_rfl) (by kernel_rfl) (i0 _)) ⟨trivial, ?_⟩
              refine wpAnyH_all (rs := [17]) (by kernel_rfl) (by simp) fun i hi => ?_
              obtain rfl := one_of hi
              refine op_skip rfl rfl (hx_store 24 (.tmp 48) (.tmp 46) rfl (.pointer (some ⟨g, p, none⟩)) (.float .f32 (nth N (p + 1))) (by kernel_rfl) (by kernel_rfl) hs2) ⟨trivial, ?_⟩
              refine wpAnyH_done (by kernel_rfl) ?_ _
              generalize (w1.setRow g (fl (N.set (p + 1) (nth N p)))).setRow g (fl (swp N p)) = w9 at AA BA ⊢
              generalize hA : Act.put _ _ _ = A
              have eA : A = { tmps := #[.slice (some ⟨g, 0, none⟩) 3 3, .int .i64 0, .int .i64 3, undef, undef, undef, .int .i64 j, .int .i64 ((p : Int) + 1), .int .i64 0, .int .i64 1, .int .i64 j, .int .i64 3, .bool true, u13, u14, .int .i64 j, .int .i64 ((p : Int) + 1), .int .i64 0, .bool true, .bool true, .slice (some ⟨g, 0, none⟩) 3 3, .int .i64 ((p : Int) + 1), .pointer (some ⟨g, p + 1, none⟩), .float .f32 (nth N (p + 1)), .slice (some ⟨g, 0, none⟩) 3 3, .int .i64 ((p : Int) + 1), .int .i64 (p : Int), .pointer (some ⟨g, p, none⟩), .float .f32 (nth N p), .bool true, .bool true, u31, u32, .slice (some ⟨g, 0, none⟩) 3 3, .int .i64 ((p : Int) + 1), .slice (some ⟨g, 0, none⟩) 3 3, .int .i64 ((p : Int) + 1), .int .i64 (p : Int), .slice (some ⟨g, 0, none⟩) 3 3, .int .i64 ((p : Int) + 1), .int .i64 (p : Int), .pointer (some ⟨g, p, none⟩), .float .f32 (nth N p), .slice (some ⟨g, 0, none⟩) 3 3, .int .i64 ((p : Int) + 1), .pointer (some ⟨g, p + 1, none⟩), .float .f32 (nth N (p + 1)), .pointer (some ⟨g, p + 1, none⟩), .pointer (some ⟨g, p, none⟩)], defers := [] } := by rw [← hA]; kernel_rfl
              clear hA
              subst eA
              go_wp2
              exact ⟨⟨p, swp N p, by omega, by go_num, by rw [swp_len]; exact hNl, hN', hI', AA, BA⟩, by simp [intOf]⟩
    · obtain rfl : j = 3 := by omega
      have e : M = srt L := hS.out
      go_wp2
      go_end0
      exact ⟨rfl, by rw [← e]; exact A4, B4.out⟩

end Go.Proofs.Ythljppdkplkohaa
