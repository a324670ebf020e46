/-
  CONTRACTS: valid acts, the program.
-/
import Derived.Test.YtboahhipobcabaaAct
namespace Go.Proofs.Ytboahhipobcabaa
open Go Go.ChangeShapes Go.WideShapes Go.ChangeAt Go.RowKit
set_option maxRecDepth 100000

set_option maxHeartbeats 4000000 in
theorem ValidAct_1 (a b c : Int) (f : Nat) (hf : f < 4294967296) (w : World) :
    Calls Try.prog 17 #[.agg (ac 1 a b c f)] w fun e w' => e = .returned (.bool (vVA 1 a b c f)) ∧ Below w.heap.size w w' := by
  have A0 := At.new w (ac 1 a b c f) 45
  have B0 := Lib.hid (b0 w (.cells (ac 1 a b c f) 45))
  have HVV := Lib.hid (show vVA 1 a b c f = (okA true a && (okA false b && (okA false c && okF true f))) from rfl)
  obtain ⟨okj, hj⟩ : ∃ g : Nat → Bool, g = fun j => if j = 0 then okA true a else if j = 1 then okA false b else okA false c := ⟨_, rfl⟩
  have HJ := Lib.hid hj
  clear hj
  have KF := actForms_any
  go_enter Try.func17, Try.ntmps17
  go_wp2_with (first | ((with_reducible refine is_load 2 _ rfl ?_); refine wpList_load_cell rfl 2 _ rfl _ 0 rfl (ac 1 a b c f) _ (by with_reducible assumption) _ Try.underlying2 rfl (.int .i64 1) (ac_0 _ _ _ _ _) ?_) | ((with_reducible refine is_load 2 _ rfl ?_); refine wpList_load_cell_g rfl 2 _ rfl _ 0 rfl (ac 1 a b c f) _ (by with_reducible assumption) _ Try.underlying2 rfl (.int .i64 1) (ac_0 _ _ _ _ _) ?_))
  generalize w.alloc (.cells (ac 1 a b c f) 45) = w1 at A0 B0 ⊢
  refine wp_region_held (S := fun w' => Below w1.heap.size w1 w') (by kernel_rfl) ?_
  show wpAnyH _ _ _ _ _ 6 (Array.replicate 6 false) _ _
  have S0 : Below w1.heap.size w1 { w1 with drawn := w1.drawn + 1 } := bdrew (Below.refl _ w1) 1
  generalize hw0 : ({ w1 with drawn := w1.drawn + 1 } : World) = w2 at S0 ⊢
  clear hw0
  refine wpAnyH_take (i := 1) (v := .pointer (some ⟨w.heap.size, 0, none⟩)) rfl (by kernel_rfl) (by kernel_rfl) (by kernel_rfl) (fun _ _ _ h => h) (yif rfl fun w2 hw2 => by kernel_rfl) (by assumption) ?_
  refine wpAnyH_take (i := 2) (v := .int .i64 1) rfl (by kernel_rfl) (by kernel_rfl) (by kernel_rfl) (fun _ _ _ h => h) (yif rfl fun w' hw' => x_load 2 (.tmp 16) rfl ⟨w.heap.size, 0, none⟩ (by kernel_rfl) (run_load_one w' 2 _ Try.underlying2 rfl _ _ ((A0.step hw').cell (ac_0 _ _ _ _ _)))) (by assumption) ?_
  refine wpAnyH_call (j := 0) (f := 54) (args := #[]) (by kernel_rfl) rfl (by kernel_rfl) (by kernel_rfl) ((KF w2).mono ?_)
  rintro e w3 ⟨rfl, hb3⟩
  have S1 := bthen S0 hb3
  refine ⟨_, rfl, S1, ?_⟩
  refine wpAnyH_take (i := 3) (v := .agg #[.string ⟨#[111, 102, 102, 101, 114, 32, 65, 32, 70]⟩, .func (Fn.func 91) #[] #[]]) rfl (by kernel_rfl) (by kernel_rfl) (by kernel_rfl) (fun _ _ _ h => h) (yif rfl fun w2 hw2 => by kernel_rfl) (by assumption) ?_
  refine wpAnyH_take (i := 4) (v := .string ⟨#[111, 102, 102, 101, 114, 32, 65, 32, 70]⟩) rfl (by kernel_rfl) (by kernel_rfl) (by kernel_rfl) (fun _ _ _ h => h) (yif rfl fun w2 hw2 => by kernel_rfl) (by assumption) ?_
  refine wpAnyH_take (i := 5) (v := .string ⟨#[111, 102, 102, 101, 114, 32, 65, 32, 70]⟩) rfl (by kernel_rfl) (by kernel_rfl) (by kernel_rfl) (fun _ _ _ h => h) (yif rfl fun w2 hw2 => by kernel_rfl) (by assumption) ?_
  refine wpAnyH_done (by kernel_rfl) ?_ _
  have A1 := A0.step S1
  have B1 := Lib.hid (bthen B0.out S1)
  have HA := Lib.hid A1
  clear A0 B0 S0 S1 hb3 KF A1
  go_simp
  go_wp2_with fail
  go_loopw [21] (fun v wr => ∃ i : Nat, i ≤ 3 ∧ v = .int .i64 (i : Int) ∧ Hid (∀ j, j < i → okj j = true) ∧ Hid (Below w3.heap.size w3 wr)) (fun v _ => 3 - (intOf v).toNat)
  case atStart => exact ⟨0, by omega, rfl, Lib.hid (fun j hj => by omega), Lib.hid (Below.refl _ _)⟩
  case round =>
    obtain ⟨i, hi, rfl, hall, B2⟩ := hrel
    have A2 := HA.out.step B2.out
    rcases (by omega : i = 0 ∨ i = 1 ∨ i = 2 ∨ i = 3) with rfl | rfl | rfl | rfl
    · skip
      by_cases c1 : a < 0
      · have q : okA true a = false := by unfold okA inB; rw [decide_eq_false (show ¬ (0 ≤ a ∧ a ≤ 999) by omega)]; rfl
        have HV := Lib.hid (show vVA 1 a b c f = false from by rw [HVV.out]; exact and_n1 (q))
        clear hall HVV
        go_wp2_with (first | ((with_reducible refine is_idx 104 _ _ rfl ?_); refine wpList_idx rfl 104 _ _ rfl (.agg #[.string ⟨#[65]⟩, .string ⟨#[66]⟩, .string ⟨#[67]⟩]) (.int .i64 0) rfl rfl (v := .string ⟨#[65]⟩) (by kernel_rfl) ?_) | (go_at_call 55; refine (partOf_A _ _).mono ?_; rintro e w' ⟨rfl, rfl⟩) | ((with_reducible refine is_load 2 _ rfl ?_); refine wpList_load_cell rfl 2 _ rfl _ 1 rfl (ac 1 a b c f) _ (by with_reducible assumption) _ Try.underlying2 rfl (.int .i64 a) (ac_1 _ _ _ _ _) ?_) | (go_at_call 56; refine (cont_1A _).mono ?_; rintro e w' ⟨rfl, rfl⟩))
        go_ret
        exact ⟨by rw [HV.out]; rfl, bthen B1.out B2.out⟩
      · by_cases c2 : a > 999
        · have q : okA true a = false := by unfold okA inB; rw [decide_eq_false (show ¬ (0 ≤ a ∧ a ≤ 999) by omega)]; rfl
          have HV := Lib.hid (show vVA 1 a b c f = false from by rw [HVV.out]; exact and_n1 (q))
          clear hall HVV
          go_wp2_with (first | ((with_reducible refine is_idx 104 _ _ rfl ?_); refine wpList_idx rfl 104 _ _ rfl (.agg #[.string ⟨#[65]⟩, .string ⟨#[66]⟩, .string ⟨#[67]⟩]) (.int .i64 0) rfl rfl (v := .string ⟨#[65]⟩) (by kernel_rfl) ?_) | (go_at_call 55; refine (partOf_A _ _).mono ?_; rintro e w' ⟨rfl, rfl⟩) | ((with_reducible refine is_load 2 _ rfl ?_); refine wpList_load_cell rfl 2 _ rfl _ 1 rfl (ac 1 a b c f) _ (by with_reducible assumption) _ Try.underlying2 rfl (.int .i64 a) (ac_1 _ _ _ _ _) ?_) | (go_at_call 56; refine (cont_1A _).mono ?_; rintro e w' ⟨rfl, rfl⟩))
          go_ret
          exact ⟨by rw [HV.out]; rfl, bthen B1.out B2.out⟩
        · by_cases c3 : a = 0
          · have q : okA true a = true := by unfold okA inB; rw [decide_eq_true (show (0 ≤ a ∧ a ≤ 999) by omega)]; rw [decide_eq_true c3]; rfl
            have q : okj 0 = true := by rw [HJ.out]; exact q
            have hall2 := Lib.hid (show ∀ j, j < 1 → okj j = true from fun i hi => by rcases (by omega : i = 0 ∨ i < 0) with rfl | hi; exact q; exact hall.out i hi)
            clear hall
            have z1 : (a != 0) = false := by simpa using c3
            clear c3
            go_wp2_with (first | ((with_reducible refine is_idx 104 _ _ rfl ?_); refine wpList_idx rfl 104 _ _ rfl (.agg #[.string ⟨#[65]⟩, .string ⟨#[66]⟩, .string ⟨#[67]⟩]) (.int .i64 0) rfl rfl (v := .string ⟨#[65]⟩) (by kernel_rfl) ?_) | (go_at_call 55; refine (partOf_A _ _).mono ?_; rintro e w' ⟨rfl, rfl⟩) | ((with_reducible refine is_load 2 _ rfl ?_); refine wpList_load_cell rfl 2 _ rfl _ 1 rfl (ac 1 a b c f) _ (by with_reducible assumption) _ Try.underlying2 rfl (.int .i64 a) (ac_1 _ _ _ _ _) ?_) | (go_at_call 56; refine (cont_1A _).mono ?_; rintro e w' ⟨rfl, rfl⟩))
            exact ⟨⟨1, by omega, rfl, hall2, B2⟩, by simp [intOf]⟩
          · have q : okA true a = true := by unfold okA inB; rw [decide_eq_true (show (0 ≤ a ∧ a ≤ 999) by omega)]; simp
            have q : okj 0 = true := by rw [HJ.out]; exact q
            have hall2 := Lib.hid (show ∀ j, j < 1 → okj j = true from fun i hi => by rcases (by omega : i = 0 ∨ i < 0) with rfl | hi; exact q; exact hall.out i hi)
            clear hall
            have z1 : (a != 0) = true := by simpa using c3
            go_wp2_with (first | ((with_reducible refine is_idx 104 _ _ rfl ?_); refine wpList_idx rfl 104 _ _ rfl (.agg #[.string ⟨#[65]⟩, .string ⟨#[66]⟩, .string ⟨#[67]⟩]) (.int .i64 0) rfl rfl (v := .string ⟨#[65]⟩) (by kernel_rfl) ?_) | (go_at_call 55; refine (partOf_A _ _).mono ?_; rintro e w' ⟨rfl, rfl⟩) | ((with_reducible refine is_load 2 _ rfl ?_); refine wpList_load_cell rfl 2 _ rfl _ 1 rfl (ac 1 a b c f) _ (by with_reducible assumption) _ Try.underlying2 rfl (.int .i64 a) (ac_1 _ _ _ _ _) ?_) | (go_at_call 56; refine (cont_1A _).mono ?_; rintro e w' ⟨rfl, rfl⟩))
            exact ⟨⟨1, by omega, rfl, hall2, B2⟩, by simp [intOf]⟩
    · skip
      by_cases c1 : b < 0
      · have q : okA false b = false := by unfold okA inB; rw [decide_eq_false (show ¬ (0 ≤ b ∧ b ≤ 999) by omega)]; rfl
        have HV := Lib.hid (show vVA 1 a b c f = false from by rw [HVV.out]; exact and_n2 (q))
        clear hall HVV
        go_wp2_with (first | ((with_reducible refine is_idx 104 _ _ rfl ?_); refine wpList_idx rfl 104 _ _ rfl (.agg #[.string ⟨#[65]⟩, .string ⟨#[66]⟩, .string ⟨#[67]⟩]) (.int .i64 1) rfl rfl (v := .string ⟨#[66]⟩) (by kernel_rfl) ?_) | (go_at_call 55; refine (partOf_B _ _).mono ?_; rintro e w' ⟨rfl, rfl⟩) | ((with_reducible refine is_load 2 _ rfl ?_); refine wpList_load_cell rfl 2 _ rfl _ 2 rfl (ac 1 a b c f) _ (by with_reducible assumption) _ Try.underlying2 rfl (.int .i64 b) (ac_2 _ _ _ _ _) ?_) | (go_at_call 56; refine (cont_1B _).mono ?_; rintro e w' ⟨rfl, rfl⟩))
        go_ret
        exact ⟨by rw [HV.out]; rfl, bthen B1.out B2.out⟩
      · by_cases c2 : b > 999
        · have q : okA false b = false := by unfold okA inB; rw [decide_eq_false (show ¬ (0 ≤ b ∧ b ≤ 999) by omega)]; rfl
          have HV := Lib.hid (show vVA 1 a b c f = false from by rw [HVV.out]; exact and_n2 (q))
          clear hall HVV
          go_wp2_with (first | ((with_reducible refine is_idx 104 _ _ rfl ?_); refine wpList_idx rfl 104 _ _ rfl (.agg #[.string ⟨#[65]⟩, .string ⟨#[66]⟩, .string ⟨#[67]⟩]) (.int .i64 1) rfl rfl (v := .string ⟨#[66]⟩) (by kernel_rfl) ?_) | (go_at_call 55; refine (partOf_B _ _).mono ?_; rintro e w' ⟨rfl, rfl⟩) | ((with_reducible refine is_load 2 _ rfl ?_); refine wpList_load_cell rfl 2 _ rfl _ 2 rfl (ac 1 a b c f) _ (by with_reducible assumption) _ Try.underlying2 rfl (.int .i64 b) (ac_2 _ _ _ _ _) ?_) | (go_at_call 56; refine (cont_1B _).mono ?_; rintro e w' ⟨rfl, rfl⟩))
          go_ret
          exact ⟨by rw [HV.out]; rfl, bthen B1.out B2.out⟩
        · by_cases c3 : b = 0
          · have q : okA false b = true := by unfold okA inB; rw [decide_eq_true (show (0 ≤ b ∧ b ≤ 999) by omega)]; rw [decide_eq_true c3]; rfl
            have q : okj 1 = true := by rw [HJ.out]; exact q
            have hall2 := Lib.hid (show ∀ j, j < 2 → okj j = true from fun i hi => by rcases (by omega : i = 1 ∨ i < 1) with rfl | hi; exact q; exact hall.out i hi)
            clear hall
            have z1 : (b != 0) = false := by simpa using c3
            clear c3
            go_wp2_with (first | ((with_reducible refine is_idx 104 _ _ rfl ?_); refine wpList_idx rfl 104 _ _ rfl (.agg #[.string ⟨#[65]⟩, .string ⟨#[66]⟩, .string ⟨#[67]⟩]) (.int .i64 1) rfl rfl (v := .string ⟨#[66]⟩) (by kernel_rfl) ?_) | (go_at_call 55; refine (partOf_B _ _).mono ?_; rintro e w' ⟨rfl, rfl⟩) | ((with_reducible refine is_load 2 _ rfl ?_); refine wpList_load_cell rfl 2 _ rfl _ 2 rfl (ac 1 a b c f) _ (by with_reducible assumption) _ Try.underlying2 rfl (.int .i64 b) (ac_2 _ _ _ _ _) ?_) | (go_at_call 56; refine (cont_1B _).mono ?_; rintro e w' ⟨rfl, rfl⟩))
            exact ⟨⟨2, by omega, rfl, hall2, B2⟩, by simp [intOf]⟩
          · have q : okA false b = false := by unfold okA; rw [decide_eq_false c3]; simp
            have z1 : (b != 0) = true := by simpa using c3
            have HV := Lib.hid (show vVA 1 a b c f = false from by rw [HVV.out]; exact and_n2 (q))
            clear hall HVV
            go_wp2_with (first | ((with_reducible refine is_idx 104 _ _ rfl ?_); refine wpList_idx rfl 104 _ _ rfl (.agg #[.string ⟨#[65]⟩, .string ⟨#[66]⟩, .string ⟨#[67]⟩]) (.int .i64 1) rfl rfl (v := .string ⟨#[66]⟩) (by kernel_rfl) ?_) | (go_at_call 55; refine (partOf_B _ _).mono ?_; rintro e w' ⟨rfl, rfl⟩) | ((with_reducible refine is_load 2 _ rfl ?_); refine wpList_load_cell rfl 2 _ rfl _ 2 rfl (ac 1 a b c f) _ (by with_reducible assumption) _ Try.underlying2 rfl (.int .i64 b) (ac_2 _ _ _ _ _) ?_) | (go_at_call 56; refine (cont_1B _).mono ?_; rintro e w' ⟨rfl, rfl⟩))
            go_ret
            exact ⟨by rw [HV.out]; rfl, bthen B1.out B2.out⟩
    · skip
      by_cases c1 : c < 0
      · have q : okA false c = false := by unfold okA inB; rw [decide_eq_false (show ¬ (0 ≤ c ∧ c ≤ 999) by omega)]; rfl
        have HV := Lib.hid (show vVA 1 a b c f = false from by rw [HVV.out]; exact and_n3 (q))
        clear hall HVV
        go_wp2_with (first | ((with_reducible refine is_idx 104 _ _ rfl ?_); refine wpList_idx rfl 104 _ _ rfl (.agg #[.string ⟨#[65]⟩, .string ⟨#[66]⟩, .string ⟨#[67]⟩]) (.int .i64 2) rfl rfl (v := .string ⟨#[67]⟩) (by kernel_rfl) ?_) | (go_at_call 55; refine (partOf_C _ _).mono ?_; rintro e w' ⟨rfl, rfl⟩) | ((with_reducible refine is_load 2 _ rfl ?_); refine wpList_load_cell rfl 2 _ rfl _ 3 rfl (ac 1 a b c f) _ (by with_reducible assumption) _ Try.underlying2 rfl (.int .i64 c) (ac_3 _ _ _ _ _) ?_) | (go_at_call 56; refine (cont_1C _).mono ?_; rintro e w' ⟨rfl, rfl⟩))
        go_ret
        exact ⟨by rw [HV.out]; rfl, bthen B1.out B2.out⟩
      · by_cases c2 : c > 999
        · have q : okA false c = false := by unfold okA inB; rw [decide_eq_false (show ¬ (0 ≤ c ∧ c ≤ 999) by omega)]; rfl
          have HV := Lib.hid (show vVA 1 a b c f = false from by rw [HVV.out]; exact and_n3 (q))
          clear hall HVV
          go_wp2_with (first | ((with_reducible refine is_idx 104 _ _ rfl ?_); refine wpList_idx rfl 104 _ _ rfl (.agg #[.string ⟨#[65]⟩, .string ⟨#[66]⟩, .string ⟨#[67]⟩]) (.int .i64 2) rfl rfl (v := .string ⟨#[67]⟩) (by kernel_rfl) ?_) | (go_at_call 55; refine (partOf_C _ _).mono ?_; rintro e w' ⟨rfl, rfl⟩) | ((with_reducible refine is_load 2 _ rfl ?_); refine wpList_load_cell rfl 2 _ rfl _ 3 rfl (ac 1 a b c f) _ (by with_reducible assumption) _ Try.underlying2 rfl (.int .i64 c) (ac_3 _ _ _ _ _) ?_) | (go_at_call 56; refine (cont_1C _).mono ?_; rintro e w' ⟨rfl, rfl⟩))
          go_ret
          exact ⟨by rw [HV.out]; rfl, bthen B1.out B2.out⟩
        · by_cases c3 : c = 0
          · have q : okA false c = true := by unfold okA inB; rw [decide_eq_true (show (0 ≤ c ∧ c ≤ 999) by omega)]; rw [decide_eq_true c3]; rfl
            have q : okj 2 = true := by rw [HJ.out]; exact q
            have hall2 := Lib.hid (show ∀ j, j < 3 → okj j = true from fun i hi => by rcases (by omega : i = 2 ∨ i < 2) with rfl | hi; exact q; exact hall.out i hi)
            clear hall
            have z1 : (c != 0) = false := by simpa using c3
            clear c3
            go_wp2_with (first | ((with_reducible refine is_idx 104 _ _ rfl ?_); refine wpList_idx rfl 104 _ _ rfl (.agg #[.string ⟨#[65]⟩, .string ⟨#[66]⟩, .string ⟨#[67]⟩]) (.int .i64 2) rfl rfl (v := .string ⟨#[67]⟩) (by kernel_rfl) ?_) | (go_at_call 55; refine (partOf_C _ _).mono ?_; rintro e w' ⟨rfl, rfl⟩) | ((with_reducible refine is_load 2 _ rfl ?_); refine wpList_load_cell rfl 2 _ rfl _ 3 rfl (ac 1 a b c f) _ (by with_reducible assumption) _ Try.underlying2 rfl (.int .i64 c) (ac_3 _ _ _ _ _) ?_) | (go_at_call 56; refine (cont_1C _).mono ?_; rintro e w' ⟨rfl, rfl⟩))
            exact ⟨⟨3, by omega, rfl, hall2, B2⟩, by simp [intOf]⟩
          · have q : okA false c = false := by unfold okA; rw [decide_eq_false c3]; simp
            have z1 : (c != 0) = true := by simpa using c3
            have HV := Lib.hid (show vVA 1 a b c f = false from by rw [HVV.out]; exact and_n3 (q))
            clear hall HVV
            go_wp2_with (first | ((with_reducible refine is_idx 104 _ _ rfl ?_); refine wpList_idx rfl 104 _ _ rfl (.agg #[.string ⟨#[65]⟩, .string ⟨#[66]⟩, .string ⟨#[67]⟩]) (.int .i64 2) rfl rfl (v := .string ⟨#[67]⟩) (by kernel_rfl) ?_) | (go_at_call 55; refine (partOf_C _ _).mono ?_; rintro e w' ⟨rfl, rfl⟩) | ((with_reducible refine is_load 2 _ rfl ?_); refine wpList_load_cell rfl 2 _ rfl _ 3 rfl (ac 1 a b c f) _ (by with_reducible assumption) _ Try.underlying2 rfl (.int .i64 c) (ac_3 _ _ _ _ _) ?_) | (go_at_call 56; refine (cont_1C _).mono ?_; rintro e w' ⟨rfl, rfl⟩))
            go_ret
            exact ⟨by rw [HV.out]; rfl, bthen B1.out B2.out⟩
    · have q0 : okA true a = true := by have := hall.out 0 (by omega); rw [HJ.out] at this; exact this
      have q1 : okA false b = true := by have := hall.out 1 (by omega); rw [HJ.out] at this; exact this
      have q2 : okA false c = true := by have := hall.out 2 (by omega); rw [HJ.out] at this; exact this
      have HV := Lib.hid (show vVA 1 a b c f = okF true f from by rw [HVV.out, q0, q1, q2]; rfl)
      have hnil : (FloatKind.f32.format.order f 0 == some .eq) = nilW f := rfl
      have hni := nilW_iff hf
      clear hall q0 q1 q2 HVV HJ
      have hof : okF true f = if nilW f then !decide (2147483648 ≤ f) else finB f && true := rfl
      cases hz : nilW f
      · rw [hz] at hnil hof
        have KI := fun w' => isFinite_any f hf w'
        have hof : okF true f = (finB f && true) := hof
        cases hfin : finB f
        · rw [hfin] at KI hof
          have HV := Lib.hid (HV.out.trans hof)
          clear hof hni hz
          go_wp2_with (first | ((with_reducible refine is_load 26 _ rfl ?_); refine wpList_load_cell rfl 26 _ rfl _ 4 rfl (ac 1 a b c f) _ (by with_reducible assumption) _ Try.underlying26 rfl (.float .f32 f) (ac_4 _ _ _ _ _) ?_) | (go_at_call 58; refine (KI _).mono ?_; rintro e w' ⟨rfl, n9, rfl⟩))
          go_ret
          exact ⟨by rw [HV.out]; rfl, bdrew (bthen B1.out B2.out) _⟩
        · rw [hfin] at KI hof
          have HV := Lib.hid (HV.out.trans hof)
          clear hof hni hz
          go_wp2_with (first | ((with_reducible refine is_load 26 _ rfl ?_); refine wpList_load_cell rfl 26 _ rfl _ 4 rfl (ac 1 a b c f) _ (by with_reducible assumption) _ Try.underlying26 rfl (.float .f32 f) (ac_4 _ _ _ _ _) ?_) | (go_at_call 58; refine (KI _).mono ?_; rintro e w' ⟨rfl, n9, rfl⟩) | (go_at_call 56; refine (cont_1F _).mono ?_; rintro e w' ⟨rfl, rfl⟩))
          go_ret
          exact ⟨by rw [HV.out]; rfl, bdrew (bthen B1.out B2.out) _⟩
      · rw [hz] at hnil hof hni
        have hf2 : f = 0 ∨ f = 2147483648 := of_decide_eq_true hni.symm
        have hn : nanB f = false := by rcases hf2 with rfl | rfl <;> decide
        have hw := wide_at hf hn
        have hof : okF true f = (!decide (2147483648 ≤ f)) := hof
        have HV := Lib.hid (HV.out.trans hof)
        clear hof hni hz hf2
        go_wp2_with (first | ((with_reducible refine is_load 26 _ rfl ?_); refine wpList_load_cell rfl 26 _ rfl _ 4 rfl (ac 1 a b c f) _ (by with_reducible assumption) _ Try.underlying26 rfl (.float .f32 f) (ac_4 _ _ _ _ _) ?_) | (go_at_call 57; refine (Signbit_any f hf hn _).mono ?_; rintro e w' ⟨rfl, rfl⟩))
        go_ret
        exact ⟨by rw [HV.out]; rfl, bthen B1.out B2.out⟩

set_option maxHeartbeats 4000000 in
theorem ValidAct_2 (a b c : Int) (f : Nat) (hf : f < 4294967296) (w : World) :
    Calls Try.prog 17 #[.agg (ac 2 a b c f)] w fun e w' => e = .returned (.bool (vVA 2 a b c f)) ∧ Below w.heap.size w w' := by
  have A0 := At.new w (ac 2 a b c f) 45
  have B0 := Lib.hid (b0 w (.cells (ac 2 a b c f) 45))
  have HVV := Lib.hid (show vVA 2 a b c f = (okA true a && (okA true b && (okA false c && okF true f))) from rfl)
  obtain ⟨okj, hj⟩ : ∃ g : Nat → Bool, g = fun j => if j = 0 then okA true a else if j = 1 then okA true b else okA false c := ⟨_, rfl⟩
  have HJ := Lib.hid hj
  clear hj
  have KF := actForms_any
  go_enter Try.func17, Try.ntmps17
  go_wp2_with (first | ((with_reducible refine is_load 2 _ rfl ?_); refine wpList_load_cell rfl 2 _ rfl _ 0 rfl (ac 2 a b c f) _ (by with_reducible assumption) _ Try.underlying2 rfl (.int .i64 2) (ac_0 _ _ _ _ _) ?_) | ((with_reducible refine is_load 2 _ rfl ?_); refine wpList_load_cell_g rfl 2 _ rfl _ 0 rfl (ac 2 a b c f) _ (by with_reducible assumption) _ Try.underlying2 rfl (.int .i64 2) (ac_0 _ _ _ _ _) ?_))
  generalize w.alloc (.cells (ac 2 a b c f) 45) = w1 at A0 B0 ⊢
  refine wp_region_held (S := fun w' => Below w1.heap.size w1 w') (by kernel_rfl) ?_
  show wpAnyH _ _ _ _ _ 6 (Array.replicate 6 false) _ _
  have S0 : Below w1.heap.size w1 { w1 with drawn := w1.drawn + 1 } := bdrew (Below.refl _ w1) 1
  generalize hw0 : ({ w1 with drawn := w1.drawn + 1 } : World) = w2 at S0 ⊢
  clear hw0
  refine wpAnyH_take (i := 1) (v := .pointer (some ⟨w.heap.size, 0, none⟩)) rfl (by kernel_rfl) (by kernel_rfl) (by kernel_rfl) (fun _ _ _ h => h) (yif rfl fun w2 hw2 => by kernel_rfl) (by assumption) ?_
  refine wpAnyH_take (i := 2) (v := .int .i64 2) rfl (by kernel_rfl) (by kernel_rfl) (by kernel_rfl) (fun _ _ _ h => h) (yif rfl fun w' hw' => x_load 2 (.tmp 16) rfl ⟨w.heap.size, 0, none⟩ (by kernel_rfl) (run_load_one w' 2 _ Try.underlying2 rfl _ _ ((A0.step hw').cell (ac_0 _ _ _ _ _)))) (by assumption) ?_
  refine wpAnyH_call (j := 0) (f := 54) (args := #[]) (by kernel_rfl) rfl (by kernel_rfl) (by kernel_rfl) ((KF w2).mono ?_)
  rintro e w3 ⟨rfl, hb3⟩
  have S1 := bthen S0 hb3
  refine ⟨_, rfl, S1, ?_⟩
  refine wpAnyH_take (i := 3) (v := .agg #[.string ⟨#[98, 108, 111, 99, 107, 32, 65, 32, 66, 32, 70]⟩, .func (Fn.func 92) #[] #[]]) rfl (by kernel_rfl) (by kernel_rfl) (by kernel_rfl) (fun _ _ _ h => h) (yif rfl fun w2 hw2 => by kernel_rfl) (by assumption) ?_
  refine wpAnyH_take (i := 4) (v := .string ⟨#[98, 108, 111, 99, 107, 32, 65, 32, 66, 32, 70]⟩) rfl (by kernel_rfl) (by kernel_rfl) (by kernel_rfl) (fun _ _ _ h => h) (yif rfl fun w2 hw2 => by kernel_rfl) (by assumption) ?_
  refine wpAnyH_take (i := 5) (v := .string ⟨#[98, 108, 111, 99, 107, 32, 65, 32, 66, 32, 70]⟩) rfl (by kernel_rfl) (by kernel_rfl) (by kernel_rfl) (fun _ _ _ h => h) (yif rfl fun w2 hw2 => by kernel_rfl) (by assumption) ?_
  refine wpAnyH_done (by kernel_rfl) ?_ _
  have A1 := A0.step S1
  have B1 := Lib.hid (bthen B0.out S1)
  have HA := Lib.hid A1
  clear A0 B0 S0 S1 hb3 KF A1
  go_simp
  go_wp2_with fail
  go_loopw [21] (fun v wr => ∃ i : Nat, i ≤ 3 ∧ v = .int .i64 (i : Int) ∧ Hid (∀ j, j < i → okj j = true) ∧ Hid (Below w3.heap.size w3 wr)) (fun v _ => 3 - (intOf v).toNat)
  case atStart => exact ⟨0, by omega, rfl, Lib.hid (fun j hj => by omega), Lib.hid (Below.refl _ _)⟩
  case round =>
    obtain ⟨i, hi, rfl, hall, B2⟩ := hrel
    have A2 := HA.out.step B2.out
    rcases (by omega : i = 0 ∨ i = 1 ∨ i = 2 ∨ i = 3) with rfl | rfl | rfl | rfl
    · skip
      by_cases c1 : a < 0
      · have q : okA true a = false := by unfold okA inB; rw [decide_eq_false (show ¬ (0 ≤ a ∧ a ≤ 999) by omega)]; rfl
        have HV := Lib.hid (show vVA 2 a b c f = false from by rw [HVV.out]; exact and_n1 (q))
        clear hall HVV
        go_wp2_with (first | ((with_reducible refine is_idx 104 _ _ rfl ?_); refine wpList_idx rfl 104 _ _ rfl (.agg #[.string ⟨#[65]⟩, .string ⟨#[66]⟩, .string ⟨#[67]⟩]) (.int .i64 0) rfl rfl (v := .string ⟨#[65]⟩) (by kernel_rfl) ?_) | (go_at_call 55; refine (partOf_A _ _).mono ?_; rintro e w' ⟨rfl, rfl⟩) | ((with_reducible refine is_load 2 _ rfl ?_); refine wpList_load_cell rfl 2 _ rfl _ 1 rfl (ac 2 a b c f) _ (by with_reducible assumption) _ Try.underlying2 rfl (.int .i64 a) (ac_1 _ _ _ _ _) ?_) | (go_at_call 56; refine (cont_2A _).mono ?_; rintro e w' ⟨rfl, rfl⟩))
        go_ret
        exact ⟨by rw [HV.out]; rfl, bthen B1.out B2.out⟩
      · by_cases c2 : a > 999
        · have q : okA true a = false := by unfold okA inB; rw [decide_eq_false (show ¬ (0 ≤ a ∧ a ≤ 999) by omega)]; rfl
          have HV := Lib.hid (show vVA 2 a b c f = false from by rw [HVV.out]; exact and_n1 (q))
          clear hall HVV
          go_wp2_with (first | ((with_reducible refine is_idx 104 _ _ rfl ?_); refine wpList_idx rfl 104 _ _ rfl (.agg #[.string ⟨#[65]⟩, .string ⟨#[66]⟩, .string ⟨#[67]⟩]) (.int .i64 0) rfl rfl (v := .string ⟨#[65]⟩) (by kernel_rfl) ?_) | (go_at_call 55; refine (partOf_A _ _).mono ?_; rintro e w' ⟨rfl, rfl⟩) | ((with_reducible refine is_load 2 _ rfl ?_); refine wpList_load_cell rfl 2 _ rfl _ 1 rfl (ac 2 a b c f) _ (by with_reducible assumption) _ Try.underlying2 rfl (.int .i64 a) (ac_1 _ _ _ _ _) ?_) | (go_at_call 56; refine (cont_2A _).mono ?_; rintro e w' ⟨rfl, rfl⟩))
          go_ret
          exact ⟨by rw [HV.out]; rfl, bthen B1.out B2.out⟩
        · by_cases c3 : a = 0
          · have q : okA true a = true := by unfold okA inB; rw [decide_eq_true (show (0 ≤ a ∧ a ≤ 999) by omega)]; rw [decide_eq_true c3]; rfl
            have q : okj 0 = true := by rw [HJ.out]; exact q
            have hall2 := Lib.hid (show ∀ j, j < 1 → okj j = true from fun i hi => by rcases (by omega : i = 0 ∨ i < 0) with rfl | hi; exact q; exact hall.out i hi)
            clear hall
            have z1 : (a != 0) = false := by simpa using c3
            clear c3
            go_wp2_with (first | ((with_reducible refine is_idx 104 _ _ rfl ?_); refine wpList_idx rfl 104 _ _ rfl (.agg #[.string ⟨#[65]⟩, .string ⟨#[66]⟩, .string ⟨#[67]⟩]) (.int .i64 0) rfl rfl (v := .string ⟨#[65]⟩) (by kernel_rfl) ?_) | (go_at_call 55; refine (partOf_A _ _).mono ?_; rintro e w' ⟨rfl, rfl⟩) | ((with_reducible refine is_load 2 _ rfl ?_); refine wpList_load_cell rfl 2 _ rfl _ 1 rfl (ac 2 a b c f) _ (by with_reducible assumption) _ Try.underlying2 rfl (.int .i64 a) (ac_1 _ _ _ _ _) ?_) | (go_at_call 56; refine (cont_2A _).mono ?_; rintro e w' ⟨rfl, rfl⟩))
            exact ⟨⟨1, by omega, rfl, hall2, B2⟩, by simp [intOf]⟩
          · have q : okA true a = true := by unfold okA inB; rw [decide_eq_true (show (0 ≤ a ∧ a ≤ 999) by omega)]; simp
            have q : okj 0 = true := by rw [HJ.out]; exact q
            have hall2 := Lib.hid (show ∀ j, j < 1 → okj j = true from fun i hi => by rcases (by omega : i = 0 ∨ i < 0) with rfl | hi; exact q; exact hall.out i hi)
            clear hall
            have z1 : (a != 0) = true := by simpa using c3
            go_wp2_with (first | ((with_reducible refine is_idx 104 _ _ rfl ?_); refine wpList_idx rfl 104 _ _ rfl (.agg #[.string ⟨#[65]⟩, .string ⟨#[66]⟩, .string ⟨#[67]⟩]) (.int .i64 0) rfl rfl (v := .string ⟨#[65]⟩) (by kernel_rfl) ?_) | (go_at_call 55; refine (partOf_A _ _).mono ?_; rintro e w' ⟨rfl, rfl⟩) | ((with_reducible refine is_load 2 _ rfl ?_); refine wpList_load_cell rfl 2 _ rfl _ 1 rfl (ac 2 a b c f) _ (by with_reducible assumption) _ Try.underlying2 rfl (.int .i64 a) (ac_1 _ _ _ _ _) ?_) | (go_at_call 56; refine (cont_2A _).mono ?_; rintro e w' ⟨rfl, rfl⟩))
            exact ⟨⟨1, by omega, rfl, hall2, B2⟩, by simp [intOf]⟩
    · skip
      by_cases c1 : b < 0
      · have q : okA true b = false := by unfold okA inB; rw [decide_eq_false (show ¬ (0 ≤ b ∧ b ≤ 999) by omega)]; rfl
        have HV := Lib.hid (show vVA 2 a b c f = false from by rw [HVV.out]; exact and_n2 (q))
        clear hall HVV
        go_wp2_with (first | ((with_reducible refine is_idx 104 _ _ rfl ?_); refine wpList_idx rfl 104 _ _ rfl (.agg #[.string ⟨#[65]⟩, .string ⟨#[66]⟩, .string ⟨#[67]⟩]) (.int .i64 1) rfl rfl (v := .string ⟨#[66]⟩) (by kernel_rfl) ?_) | (go_at_call 55; refine (partOf_B _ _).mono ?_; rintro e w' ⟨rfl, rfl⟩) | ((with_reducible refine is_load 2 _ rfl ?_); refine wpList_load_cell rfl 2 _ rfl _ 2 rfl (ac 2 a b c f) _ (by with_reducible assumption) _ Try.underlying2 rfl (.int .i64 b) (ac_2 _ _ _ _ _) ?_) | (go_at_call 56; refine (cont_2B _).mono ?_; rintro e w' ⟨rfl, rfl⟩))
        go_ret
        exact ⟨by rw [HV.out]; rfl, bthen B1.out B2.out⟩
      · by_cases c2 : b > 999
        · have q : okA true b = false := by unfold okA inB; rw [decide_eq_false (show ¬ (0 ≤ b ∧ b ≤ 999) by omega)]; rfl
          have HV := Lib.hid (show vVA 2 a b c f = false from by rw [HVV.out]; exact and_n2 (q))
          clear hall HVV
          go_wp2_with (first | ((with_reducible refine is_idx 104 _ _ rfl ?_); refine wpList_idx rfl 104 _ _ rfl (.agg #[.string ⟨#[65]⟩, .string ⟨#[66]⟩, .string ⟨#[67]⟩]) (.int .i64 1) rfl rfl (v := .string ⟨#[66]⟩) (by kernel_rfl) ?_) | (go_at_call 55; refine (partOf_B _ _).mono ?_; rintro e w' ⟨rfl, rfl⟩) | ((with_reducible refine is_load 2 _ rfl ?_); refine wpList_load_cell rfl 2 _ rfl _ 2 rfl (ac 2 a b c f) _ (by with_reducible assumption) _ Try.underlying2 rfl (.int .i64 b) (ac_2 _ _ _ _ _) ?_) | (go_at_call 56; refine (cont_2B _).mono ?_; rintro e w' ⟨rfl, rfl⟩))
          go_ret
          exact ⟨by rw [HV.out]; rfl, bthen B1.out B2.out⟩
        · by_cases c3 : b = 0
          · have q : okA true b = true := by unfold okA inB; rw [decide_eq_true (show (0 ≤ b ∧ b ≤ 999) by omega)]; rw [decide_eq_true c3]; rfl
            have q : okj 1 = true := by rw [HJ.out]; exact q
            have hall2 := Lib.hid (show ∀ j, j < 2 → okj j = true from fun i hi => by rcases (by omega : i = 1 ∨ i < 1) with rfl | hi; exact q; exact hall.out i hi)
            clear hall
            have z1 : (b != 0) = false := by simpa using c3
            clear c3
            go_wp2_with (first | ((with_reducible refine is_idx 104 _ _ rfl ?_); refine wpList_idx rfl 104 _ _ rfl (.agg #[.string ⟨#[65]⟩, .string ⟨#[66]⟩, .string ⟨#[67]⟩]) (.int .i64 1) rfl rfl (v := .string ⟨#[66]⟩) (by kernel_rfl) ?_) | (go_at_call 55; refine (partOf_B _ _).mono ?_; rintro e w' ⟨rfl, rfl⟩) | ((with_reducible refine is_load 2 _ rfl ?_); refine wpList_load_cell rfl 2 _ rfl _ 2 rfl (ac 2 a b c f) _ (by with_reducible assumption) _ Try.underlying2 rfl (.int .i64 b) (ac_2 _ _ _ _ _) ?_) | (go_at_call 56; refine (cont_2B _).mono ?_; rintro e w' ⟨rfl, rfl⟩))
            exact ⟨⟨2, by omega, rfl, hall2, B2⟩, by simp [intOf]⟩
          · have q : okA true b = true := by unfold okA inB; rw [decide_eq_true (show (0 ≤ b ∧ b ≤ 999) by omega)]; simp
            have q : okj 1 = true := by rw [HJ.out]; exact q
            have hall2 := Lib.hid (show ∀ j, j < 2 → okj j = true from fun i hi => by rcases (by omega : i = 1 ∨ i < 1) with rfl | hi; exact q; exact hall.out i hi)
            clear hall
            have z1 : (b != 0) = true := by simpa using c3
            go_wp2_with (first | ((with_reducible refine is_idx 104 _ _ rfl ?_); refine wpList_idx rfl 104 _ _ rfl (.agg #[.string ⟨#[65]⟩, .string ⟨#[66]⟩, .string ⟨#[67]⟩]) (.int .i64 1) rfl rfl (v := .string ⟨#[66]⟩) (by kernel_rfl) ?_) | (go_at_call 55; refine (partOf_B _ _).mono ?_; rintro e w' ⟨rfl, rfl⟩) | ((with_reducible refine is_load 2 _ rfl ?_); refine wpList_load_cell rfl 2 _ rfl _ 2 rfl (ac 2 a b c f) _ (by with_reducible assumption) _ Try.underlying2 rfl (.int .i64 b) (ac_2 _ _ _ _ _) ?_) | (go_at_call 56; refine (cont_2B _).mono ?_; rintro e w' ⟨rfl, rfl⟩))
            exact ⟨⟨2, by omega, rfl, hall2, B2⟩, by simp [intOf]⟩
    · skip
      by_cases c1 : c < 0
      · have q : okA false c = false := by unfold okA inB; rw [decide_eq_false (show ¬ (0 ≤ c ∧ c ≤ 999) by omega)]; rfl
        have HV := Lib.hid (show vVA 2 a b c f = false from by rw [HVV.out]; exact and_n3 (q))
        clear hall HVV
        go_wp2_with (first | ((with_reducible refine is_idx 104 _ _ rfl ?_); refine wpList_idx rfl 104 _ _ rfl (.agg #[.string ⟨#[65]⟩, .string ⟨#[66]⟩, .string ⟨#[67]⟩]) (.int .i64 2) rfl rfl (v := .string ⟨#[67]⟩) (by kernel_rfl) ?_) | (go_at_call 55; refine (partOf_C _ _).mono ?_; rintro e w' ⟨rfl, rfl⟩) | ((with_reducible refine is_load 2 _ rfl ?_); refine wpList_load_cell rfl 2 _ rfl _ 3 rfl (ac 2 a b c f) _ (by with_reducible assumption) _ Try.underlying2 rfl (.int .i64 c) (ac_3 _ _ _ _ _) ?_) | (go_at_call 56; refine (cont_2C _).mono ?_; rintro e w' ⟨rfl, rfl⟩))
        go_ret
        exact ⟨by rw [HV.out]; rfl, bthen B1.out B2.out⟩
      · by_cases c2 : c > 999
        · have q : okA false c = false := by unfold okA inB; rw [decide_eq_false (show ¬ (0 ≤ c ∧ c ≤ 999) by omega)]; rfl
          have HV := Lib.hid (show vVA 2 a b c f = false from by rw [HVV.out]; exact and_n3 (q))
          clear hall HVV
          go_wp2_with (first | ((with_reducible refine is_idx 104 _ _ rfl ?_); refine wpList_idx rfl 104 _ _ rfl (.agg #[.string ⟨#[65]⟩, .string ⟨#[66]⟩, .string ⟨#[67]⟩]) (.int .i64 2) rfl rfl (v := .string ⟨#[67]⟩) (by kernel_rfl) ?_) | (go_at_call 55; refine (partOf_C _ _).mono ?_; rintro e w' ⟨rfl, rfl⟩) | ((with_reducible refine is_load 2 _ rfl ?_); refine wpList_load_cell rfl 2 _ rfl _ 3 rfl (ac 2 a b c f) _ (by with_reducible assumption) _ Try.underlying2 rfl (.int .i64 c) (ac_3 _ _ _ _ _) ?_) | (go_at_call 56; refine (cont_2C _).mono ?_; rintro e w' ⟨rfl, rfl⟩))
          go_ret
          exact ⟨by rw [HV.out]; rfl, bthen B1.out B2.out⟩
        · by_cases c3 : c = 0
          · have q : okA false c = true := by unfold okA inB; rw [decide_eq_true (show (0 ≤ c ∧ c ≤ 999) by omega)]; rw [decide_eq_true c3]; rfl
            have q : okj 2 = true := by rw [HJ.out]; exact q
            have hall2 := Lib.hid (show ∀ j, j < 3 → okj j = true from fun i hi => by rcases (by omega : i = 2 ∨ i < 2) with rfl | hi; exact q; exact hall.out i hi)
            clear hall
            have z1 : (c != 0) = false := by simpa using c3
            clear c3
            go_wp2_with (first | ((with_reducible refine is_idx 104 _ _ rfl ?_); refine wpList_idx rfl 104 _ _ rfl (.agg #[.string ⟨#[65]⟩, .string ⟨#[66]⟩, .string ⟨#[67]⟩]) (.int .i64 2) rfl rfl (v := .string ⟨#[67]⟩) (by kernel_rfl) ?_) | (go_at_call 55; refine (partOf_C _ _).mono ?_; rintro e w' ⟨rfl, rfl⟩) | ((with_reducible refine is_load 2 _ rfl ?_); refine wpList_load_cell rfl 2 _ rfl _ 3 rfl (ac 2 a b c f) _ (by with_reducible assumption) _ Try.underlying2 rfl (.int .i64 c) (ac_3 _ _ _ _ _) ?_) | (go_at_call 56; refine (cont_2C _).mono ?_; rintro e w' ⟨rfl, rfl⟩))
            exact ⟨⟨3, by omega, rfl, hall2, B2⟩, by simp [intOf]⟩
          · have q : okA false c = false := by unfold okA; rw [decide_eq_false c3]; simp
            have z1 : (c != 0) = true := by simpa using c3
            have HV := Lib.hid (show vVA 2 a b c f = false from by rw [HVV.out]; exact and_n3 (q))
            clear hall HVV
            go_wp2_with (first | ((with_reducible refine is_idx 104 _ _ rfl ?_); refine wpList_idx rfl 104 _ _ rfl (.agg #[.string ⟨#[65]⟩, .string ⟨#[66]⟩, .string ⟨#[67]⟩]) (.int .i64 2) rfl rfl (v := .string ⟨#[67]⟩) (by kernel_rfl) ?_) | (go_at_call 55; refine (partOf_C _ _).mono ?_; rintro e w' ⟨rfl, rfl⟩) | ((with_reducible refine is_load 2 _ rfl ?_); refine wpList_load_cell rfl 2 _ rfl _ 3 rfl (ac 2 a b c f) _ (by with_reducible assumption) _ Try.underlying2 rfl (.int .i64 c) (ac_3 _ _ _ _ _) ?_) | (go_at_call 56; refine (cont_2C _).mono ?_; rintro e w' ⟨rfl, rfl⟩))
            go_ret
            exact ⟨by rw [HV.out]; rfl, bthen B1.out B2.out⟩
    · have q0 : okA true a = true := by have := hall.out 0 (by omega); rw [HJ.out] at this; exact this
      have q1 : okA true b = true := by have := hall.out 1 (by omega); rw [HJ.out] at this; exact this
      have q2 : okA false c = true := by have := hall.out 2 (by omega); rw [HJ.out] at this; exact this
      have HV := Lib.hid (show vVA 2 a b c f = okF true f from by rw [HVV.out, q0, q1, q2]; rfl)
      have hnil : (FloatKind.f32.format.order f 0 == some .eq) = nilW f := rfl
      have hni := nilW_iff hf
      clear hall q0 q1 q2 HVV HJ
      have hof : okF true f = if nilW f then !decide (2147483648 ≤ f) else finB f && true := rfl
      cases hz : nilW f
      · rw [hz] at hnil hof
        have KI := fun w' => isFinite_any f hf w'
        have hof : okF true f = (finB f && true) := hof
        cases hfin : finB f
        · rw [hfin] at KI hof
          have HV := Lib.hid (HV.out.trans hof)
          clear hof hni hz
          go_wp2_with (first | ((with_reducible refine is_load 26 _ rfl ?_); refine wpList_load_cell rfl 26 _ rfl _ 4 rfl (ac 2 a b c f) _ (by with_reducible assumption) _ Try.underlying26 rfl (.float .f32 f) (ac_4 _ _ _ _ _) ?_) | (go_at_call 58; refine (KI _).mono ?_; rintro e w' ⟨rfl, n9, rfl⟩))
          go_ret
          exact ⟨by rw [HV.out]; rfl, bdrew (bthen B1.out B2.out) _⟩
        · rw [hfin] at KI hof
          have HV := Lib.hid (HV.out.trans hof)
          clear hof hni hz
          go_wp2_with (first | ((with_reducible refine is_load 26 _ rfl ?_); refine wpList_load_cell rfl 26 _ rfl _ 4 rfl (ac 2 a b c f) _ (by with_reducible assumption) _ Try.underlying26 rfl (.float .f32 f) (ac_4 _ _ _ _ _) ?_) | (go_at_call 58; refine (KI _).mono ?_; rintro e w' ⟨rfl, n9, rfl⟩) | (go_at_call 56; refine (cont_2F _).mono ?_; rintro e w' ⟨rfl, rfl⟩))
          go_ret
          exact ⟨by rw [HV.out]; rfl, bdrew (bthen B1.out B2.out) _⟩
      · rw [hz] at hnil hof hni
        have hf2 : f = 0 ∨ f = 2147483648 := of_decide_eq_true hni.symm
        have hn : nanB f = false := by rcases hf2 with rfl | rfl <;> decide
        have hw := wide_at hf hn
        have hof : okF true f = (!decide (2147483648 ≤ f)) := hof
        have HV := Lib.hid (HV.out.trans hof)
        clear hof hni hz hf2
        go_wp2_with (first | ((with_reducible refine is_load 26 _ rfl ?_); refine wpList_load_cell rfl 26 _ rfl _ 4 rfl (ac 2 a b c f) _ (by with_reducible assumption) _ Try.underlying26 rfl (.float .f32 f) (ac_4 _ _ _ _ _) ?_) | (go_at_call 57; refine (Signbit_any f hf hn _).mono ?_; rintro e w' ⟨rfl, rfl⟩))
        go_ret
        exact ⟨by rw [HV.out]; rfl, bthen B1.out B2.out⟩

set_option maxHeartbeats 4000000 in
theorem ValidAct_3 (a b c : Int) (f : Nat) (hf : f < 4294967296) (w : World) :
    Calls Try.prog 17 #[.agg (ac 3 a b c f)] w fun e w' => e = .returned (.bool (vVA 3 a b c f)) ∧ Below w.heap.size w w' := by
  have A0 := At.new w (ac 3 a b c f) 45
  have B0 := Lib.hid (b0 w (.cells (ac 3 a b c f) 45))
  have HVV := Lib.hid (show vVA 3 a b c f = (okA true a && (okA true b && (okA false c && okF false f))) from rfl)
  obtain ⟨okj, hj⟩ : ∃ g : Nat → Bool, g = fun j => if j = 0 then okA true a else if j = 1 then okA true b else okA false c := ⟨_, rfl⟩
  have HJ := Lib.hid hj
  clear hj
  have KF := actForms_any
  go_enter Try.func17, Try.ntmps17
  go_wp2_with (first | ((with_reducible refine is_load 2 _ rfl ?_); refine wpList_load_cell rfl 2 _ rfl _ 0 rfl (ac 3 a b c f) _ (by with_reducible assumption) _ Try.underlying2 rfl (.int .i64 3) (ac_0 _ _ _ _ _) ?_) | ((with_reducible refine is_load 2 _ rfl ?_); refine wpList_load_cell_g rfl 2 _ rfl _ 0 rfl (ac 3 a b c f) _ (by with_reducible assumption) _ Try.underlying2 rfl (.int .i64 3) (ac_0 _ _ _ _ _) ?_))
  generalize w.alloc (.cells (ac 3 a b c f) 45) = w1 at A0 B0 ⊢
  refine wp_region_held (S := fun w' => Below w1.heap.size w1 w') (by kernel_rfl) ?_
  show wpAnyH _ _ _ _ _ 6 (Array.replicate 6 false) _ _
  have S0 : Below w1.heap.size w1 { w1 with drawn := w1.drawn + 1 } := bdrew (Below.refl _ w1) 1
  generalize hw0 : ({ w1 with drawn := w1.drawn + 1 } : World) = w2 at S0 ⊢
  clear hw0
  refine wpAnyH_take (i := 1) (v := .pointer (some ⟨w.heap.size, 0, none⟩)) rfl (by kernel_rfl) (by kernel_rfl) (by kernel_rfl) (fun _ _ _ h => h) (yif rfl fun w2 hw2 => by kernel_rfl) (by assumption) ?_
  refine wpAnyH_take (i := 2) (v := .int .i64 3) rfl (by kernel_rfl) (by kernel_rfl) (by kernel_rfl) (fun _ _ _ h => h) (yif rfl fun w' hw' => x_load 2 (.tmp 16) rfl ⟨w.heap.size, 0, none⟩ (by kernel_rfl) (run_load_one w' 2 _ Try.underlying2 rfl _ _ ((A0.step hw').cell (ac_0 _ _ _ _ _)))) (by assumption) ?_
  refine wpAnyH_call (j := 0) (f := 54) (args := #[]) (by kernel_rfl) rfl (by kernel_rfl) (by kernel_rfl) ((KF w2).mono ?_)
  rintro e w3 ⟨rfl, hb3⟩
  have S1 := bthen S0 hb3
  refine ⟨_, rfl, S1, ?_⟩
  refine wpAnyH_take (i := 3) (v := .agg #[.string ⟨#[112, 108, 97, 110, 32, 65, 32, 66]⟩, .func (Fn.func 93) #[] #[]]) rfl (by kernel_rfl) (by kernel_rfl) (by kernel_rfl) (fun _ _ _ h => h) (yif rfl fun w2 hw2 => by kernel_rfl) (by assumption) ?_
  refine wpAnyH_take (i := 4) (v := .string ⟨#[112, 108, 97, 110, 32, 65, 32, 66]⟩) rfl (by kernel_rfl) (by kernel_rfl) (by kernel_rfl) (fun _ _ _ h => h) (yif rfl fun w2 hw2 => by kernel_rfl) (by assumption) ?_
  refine wpAnyH_take (i := 5) (v := .string ⟨#[112, 108, 97, 110, 32, 65, 32, 66]⟩) rfl (by kernel_rfl) (by kernel_rfl) (by kernel_rfl) (fun _ _ _ h => h) (yif rfl fun w2 hw2 => by kernel_rfl) (by assumption) ?_
  refine wpAnyH_done (by kernel_rfl) ?_ _
  have A1 := A0.step S1
  have B1 := Lib.hid (bthen B0.out S1)
  have HA := Lib.hid A1
  clear A0 B0 S0 S1 hb3 KF A1
  go_simp
  go_wp2_with fail
  go_loopw [21] (fun v wr => ∃ i : Nat, i ≤ 3 ∧ v = .int .i64 (i : Int) ∧ Hid (∀ j, j < i → okj j = true) ∧ Hid (Below w3.heap.size w3 wr)) (fun v _ => 3 - (intOf v).toNat)
  case atStart => exact ⟨0, by omega, rfl, Lib.hid (fun j hj => by omega), Lib.hid (Below.refl _ _)⟩
  case round =>
    obtain ⟨i, hi, rfl, hall, B2⟩ := hrel
    have A2 := HA.out.step B2.out
    rcases (by omega : i = 0 ∨ i = 1 ∨ i = 2 ∨ i = 3) with rfl | rfl | rfl | rfl
    · skip
      by_cases c1 : a < 0
      · have q : okA true a = false := by unfold okA inB; rw [decide_eq_false (show ¬ (0 ≤ a ∧ a ≤ 999) by omega)]; rfl
        have HV := Lib.hid (show vVA 3 a b c f = false from by rw [HVV.out]; exact and_n1 (q))
        clear hall HVV
        go_wp2_with (first | ((with_reducible refine is_idx 104 _ _ rfl ?_); refine wpList_idx rfl 104 _ _ rfl (.agg #[.string ⟨#[65]⟩, .string ⟨#[66]⟩, .string ⟨#[67]⟩]) (.int .i64 0) rfl rfl (v := .string ⟨#[65]⟩) (by kernel_rfl) ?_) | (go_at_call 55; refine (partOf_A _ _).mono ?_; rintro e w' ⟨rfl, rfl⟩) | ((with_reducible refine is_load 2 _ rfl ?_); refine wpList_load_cell rfl 2 _ rfl _ 1 rfl (ac 3 a b c f) _ (by with_reducible assumption) _ Try.underlying2 rfl (.int .i64 a) (ac_1 _ _ _ _ _) ?_) | (go_at_call 56; refine (cont_3A _).mono ?_; rintro e w' ⟨rfl, rfl⟩))
        go_ret
        exact ⟨by rw [HV.out]; rfl, bthen B1.out B2.out⟩
      · by_cases c2 : a > 999
        · have q : okA true a = false := by unfold okA inB; rw [decide_eq_false (show ¬ (0 ≤ a ∧ a ≤ 999) by omega)]; rfl
          have HV := Lib.hid (show vVA 3 a b c f = false from by rw [HVV.out]; exact and_n1 (q))
          clear hall HVV
          go_wp2_with (first | ((with_reducible refine is_idx 104 _ _ rfl ?_); refine wpList_idx rfl 104 _ _ rfl (.agg #[.string ⟨#[65]⟩, .string ⟨#[66]⟩, .string ⟨#[67]⟩]) (.int .i64 0) rfl rfl (v := .string ⟨#[65]⟩) (by kernel_rfl) ?_) | (go_at_call 55; refine (partOf_A _ _).mono ?_; rintro e w' ⟨rfl, rfl⟩) | ((with_reducible refine is_load 2 _ rfl ?_); refine wpList_load_cell rfl 2 _ rfl _ 1 rfl (ac 3 a b c f) _ (by with_reducible assumption) _ Try.underlying2 rfl (.int .i64 a) (ac_1 _ _ _ _ _) ?_) | (go_at_call 56; refine (cont_3A _).mono ?_; rintro e w' ⟨rfl, rfl⟩))
          go_ret
          exact ⟨by rw [HV.out]; rfl, bthen B1.out B2.out⟩
        · by_cases c3 : a = 0
          · have q : okA true a = true := by unfold okA inB; rw [decide_eq_true (show (0 ≤ a ∧ a ≤ 999) by omega)]; rw [decide_eq_true c3]; rfl
            have q : okj 0 = true := by rw [HJ.out]; exact q
            have hall2 := Lib.hid (show ∀ j, j < 1 → okj j = true from fun i hi => by rcases (by omega : i = 0 ∨ i < 0) with rfl | hi; exact q; exact hall.out i hi)
            clear hall
            have z1 : (a != 0) = false := by simpa using c3
            clear c3
            go_wp2_with (first | ((with_reducible refine is_idx 104 _ _ rfl ?_); refine wpList_idx rfl 104 _ _ rfl (.agg #[.string ⟨#[65]⟩, .string ⟨#[66]⟩, .string ⟨#[67]⟩]) (.int .i64 0) rfl rfl (v := .string ⟨#[65]⟩) (by kernel_rfl) ?_) | (go_at_call 55; refine (partOf_A _ _).mono ?_; rintro e w' ⟨rfl, rfl⟩) | ((with_reducible refine is_load 2 _ rfl ?_); refine wpList_load_cell rfl 2 _ rfl _ 1 rfl (ac 3 a b c f) _ (by with_reducible assumption) _ Try.underlying2 rfl (.int .i64 a) (ac_1 _ _ _ _ _) ?_) | (go_at_call 56; refine (cont_3A _).mono ?_; rintro e w' ⟨rfl, rfl⟩))
            exact ⟨⟨1, by omega, rfl, hall2, B2⟩, by simp [intOf]⟩
          · have q : okA true a = true := by unfold okA inB; rw [decide_eq_true (show (0 ≤ a ∧ a ≤ 999) by omega)]; simp
            have q : okj 0 = true := by rw [HJ.out]; exact q
            have hall2 := Lib.hid (show ∀ j, j < 1 → okj j = true from fun i hi => by rcases (by omega : i = 0 ∨ i < 0) with rfl | hi; exact q; exact hall.out i hi)
            clear hall
            have z1 : (a != 0) = true := by simpa using c3
            go_wp2_with (first | ((with_reducible refine is_idx 104 _ _ rfl ?_); refine wpList_idx rfl 104 _ _ rfl (.agg #[.string ⟨#[65]⟩, .string ⟨#[66]⟩, .string ⟨#[67]⟩]) (.int .i64 0) rfl rfl (v := .string ⟨#[65]⟩) (by kernel_rfl) ?_) | (go_at_call 55; refine (partOf_A _ _).mono ?_; rintro e w' ⟨rfl, rfl⟩) | ((with_reducible refine is_load 2 _ rfl ?_); refine wpList_load_cell rfl 2 _ rfl _ 1 rfl (ac 3 a b c f) _ (by with_reducible assumption) _ Try.underlying2 rfl (.int .i64 a) (ac_1 _ _ _ _ _) ?_) | (go_at_call 56; refine (cont_3A _).mono ?_; rintro e w' ⟨rfl, rfl⟩))
            exact ⟨⟨1, by omega, rfl, hall2, B2⟩, by simp [intOf]⟩
    · skip
      by_cases c1 : b < 0
      · have q : okA true b = false := by unfold okA inB; rw [decide_eq_false (show ¬ (0 ≤ b ∧ b ≤ 999) by omega)]; rfl
        have HV := Lib.hid (show vVA 3 a b c f = false from by rw [HVV.out]; exact and_n2 (q))
        clear hall HVV
        go_wp2_with (first | ((with_reducible refine is_idx 104 _ _ rfl ?_); refine wpList_idx rfl 104 _ _ rfl (.agg #[.string ⟨#[65]⟩, .string ⟨#[66]⟩, .string ⟨#[67]⟩]) (.int .i64 1) rfl rfl (v := .string ⟨#[66]⟩) (by kernel_rfl) ?_) | (go_at_call 55; refine (partOf_B _ _).mono ?_; rintro e w' ⟨rfl, rfl⟩) | ((with_reducible refine is_load 2 _ rfl ?_); refine wpList_load_cell rfl 2 _ rfl _ 2 rfl (ac 3 a b c f) _ (by with_reducible assumption) _ Try.underlying2 rfl (.int .i64 b) (ac_2 _ _ _ _ _) ?_) | (go_at_call 56; refine (cont_3B _).mono ?_; rintro e w' ⟨rfl, rfl⟩))
        go_ret
        exact ⟨by rw [HV.out]; rfl, bthen B1.out B2.out⟩
      · by_cases c2 : b > 999
        · have q : okA true b = false := by unfold okA inB; rw [decide_eq_false (show ¬ (0 ≤ b ∧ b ≤ 999) by omega)]; rfl
          have HV := Lib.hid (show vVA 3 a b c f = false from by rw [HVV.out]; exact and_n2 (q))
          clear hall HVV
          go_wp2_with (first | ((with_reducible refine is_idx 104 _ _ rfl ?_); refine wpList_idx rfl 104 _ _ rfl (.agg #[.string ⟨#[65]⟩, .string ⟨#[66]⟩, .string ⟨#[67]⟩]) (.int .i64 1) rfl rfl (v := .string ⟨#[66]⟩) (by kernel_rfl) ?_) | (go_at_call 55; refine (partOf_B _ _).mono ?_; rintro e w' ⟨rfl, rfl⟩) | ((with_reducible refine is_load 2 _ rfl ?_); refine wpList_load_cell rfl 2 _ rfl _ 2 rfl (ac 3 a b c f) _ (by with_reducible assumption) _ Try.underlying2 rfl (.int .i64 b) (ac_2 _ _ _ _ _) ?_) | (go_at_call 56; refine (cont_3B _).mono ?_; rintro e w' ⟨rfl, rfl⟩))
          go_ret
          exact ⟨by rw [HV.out]; rfl, bthen B1.out B2.out⟩
        · by_cases c3 : b = 0
          · have q : okA true b = true := by unfold okA inB; rw [decide_eq_true (show (0 ≤ b ∧ b ≤ 999) by omega)]; rw [decide_eq_true c3]; rfl
            have q : okj 1 = true := by rw [HJ.out]; exact q
            have hall2 := Lib.hid (show ∀ j, j < 2 → okj j = true from fun i hi => by rcases (by omega : i = 1 ∨ i < 1) with rfl | hi; exact q; exact hall.out i hi)
            clear hall
            have z1 : (b != 0) = false := by simpa using c3
            clear c3
            go_wp2_with (first | ((with_reducible refine is_idx 104 _ _ rfl ?_); refine wpList_idx rfl 104 _ _ rfl (.agg #[.string ⟨#[65]⟩, .string ⟨#[66]⟩, .string ⟨#[67]⟩]) (.int .i64 1) rfl rfl (v := .string ⟨#[66]⟩) (by kernel_rfl) ?_) | (go_at_call 55; refine (partOf_B _ _).mono ?_; rintro e w' ⟨rfl, rfl⟩) | ((with_reducible refine is_load 2 _ rfl ?_); refine wpList_load_cell rfl 2 _ rfl _ 2 rfl (ac 3 a b c f) _ (by with_reducible assumption) _ Try.underlying2 rfl (.int .i64 b) (ac_2 _ _ _ _ _) ?_) | (go_at_call 56; refine (cont_3B _).mono ?_; rintro e w' ⟨rfl, rfl⟩))
            exact ⟨⟨2, by omega, rfl, hall2, B2⟩, by simp [intOf]⟩
          · have q : okA true b = true := by unfold okA inB; rw [decide_eq_true (show (0 ≤ b ∧ b ≤ 999) by omega)]; simp
            have q : okj 1 = true := by rw [HJ.out]; exact q
            have hall2 := Lib.hid (show ∀ j, j < 2 → okj j = true from fun i hi => by rcases (by omega : i = 1 ∨ i < 1) with rfl | hi; exact q; exact hall.out i hi)
            clear hall
            have z1 : (b != 0) = true := by simpa using c3
            go_wp2_with (first | ((with_reducible refine is_idx 104 _ _ rfl ?_); refine wpList_idx rfl 104 _ _ rfl (.agg #[.string ⟨#[65]⟩, .string ⟨#[66]⟩, .string ⟨#[67]⟩]) (.int .i64 1) rfl rfl (v := .string ⟨#[66]⟩) (by kernel_rfl) ?_) | (go_at_call 55; refine (partOf_B _ _).mono ?_; rintro e w' ⟨rfl, rfl⟩) | ((with_reducible refine is_load 2 _ rfl ?_); refine wpList_load_cell rfl 2 _ rfl _ 2 rfl (ac 3 a b c f) _ (by with_reducible assumption) _ Try.underlying2 rfl (.int .i64 b) (ac_2 _ _ _ _ _) ?_) | (go_at_call 56; refine (cont_3B _).mono ?_; rintro e w' ⟨rfl, rfl⟩))
            exact ⟨⟨2, by omega, rfl, hall2, B2⟩, by simp [intOf]⟩
    · skip
      by_cases c1 : c < 0
      · have q : okA false c = false := by unfold okA inB; rw [decide_eq_false (show ¬ (0 ≤ c ∧ c ≤ 999) by omega)]; rfl
        have HV := Lib.hid (show vVA 3 a b c f = false from by rw [HVV.out]; exact and_n3 (q))
        clear hall HVV
        go_wp2_with (first | ((with_reducible refine is_idx 104 _ _ rfl ?_); refine wpList_idx rfl 104 _ _ rfl (.agg #[.string ⟨#[65]⟩, .string ⟨#[66]⟩, .string ⟨#[67]⟩]) (.int .i64 2) rfl rfl (v := .string ⟨#[67]⟩) (by kernel_rfl) ?_) | (go_at_call 55; refine (partOf_C _ _).mono ?_; rintro e w' ⟨rfl, rfl⟩) | ((with_reducible refine is_load 2 _ rfl ?_); refine wpList_load_cell rfl 2 _ rfl _ 3 rfl (ac 3 a b c f) _ (by with_reducible assumption) _ Try.underlying2 rfl (.int .i64 c) (ac_3 _ _ _ _ _) ?_) | (go_at_call 56; refine (cont_3C _).mono ?_; rintro e w' ⟨rfl, rfl⟩))
        go_ret
        exact ⟨by rw [HV.out]; rfl, bthen B1.out B2.out⟩
      · by_cases c2 : c > 999
        · have q : okA false c = false := by unfold okA inB; rw [decide_eq_false (show ¬ (0 ≤ c ∧ c ≤ 999) by omega)]; rfl
          have HV := Lib.hid (show vVA 3 a b c f = false from by rw [HVV.out]; exact and_n3 (q))
          clear hall HVV
          go_wp2_with (first | ((with_reducible refine is_idx 104 _ _ rfl ?_); refine wpList_idx rfl 104 _ _ rfl (.agg #[.string ⟨#[65]⟩, .string ⟨#[66]⟩, .string ⟨#[67]⟩]) (.int .i64 2) rfl rfl (v := .string ⟨#[67]⟩) (by kernel_rfl) ?_) | (go_at_call 55; refine (partOf_C _ _).mono ?_; rintro e w' ⟨rfl, rfl⟩) | ((with_reducible refine is_load 2 _ rfl ?_); refine wpList_load_cell rfl 2 _ rfl _ 3 rfl (ac 3 a b c f) _ (by with_reducible assumption) _ Try.underlying2 rfl (.int .i64 c) (ac_3 _ _ _ _ _) ?_) | (go_at_call 56; refine (cont_3C _).mono ?_; rintro e w' ⟨rfl, rfl⟩))
          go_ret
          exact ⟨by rw [HV.out]; rfl, bthen B1.out B2.out⟩
        · by_cases c3 : c = 0
          · have q : okA false c = true := by unfold okA inB; rw [decide_eq_true (show (0 ≤ c ∧ c ≤ 999) by omega)]; rw [decide_eq_true c3]; rfl
            have q : okj 2 = true := by rw [HJ.out]; exact q
            have hall2 := Lib.hid (show ∀ j, j < 3 → okj j = true from fun i hi => by rcases (by omega : i = 2 ∨ i < 2) with rfl | hi; exact q; exact hall.out i hi)
            clear hall
            have z1 : (c != 0) = false := by simpa using c3
            clear c3
            go_wp2_with (first | ((with_reducible refine is_idx 104 _ _ rfl ?_); refine wpList_idx rfl 104 _ _ rfl (.agg #[.string ⟨#[65]⟩, .string ⟨#[66]⟩, .string ⟨#[67]⟩]) (.int .i64 2) rfl rfl (v := .string ⟨#[67]⟩) (by kernel_rfl) ?_) | (go_at_call 55; refine (partOf_C _ _).mono ?_; rintro e w' ⟨rfl, rfl⟩) | ((with_reducible refine is_load 2 _ rfl ?_); refine wpList_load_cell rfl 2 _ rfl _ 3 rfl (ac 3 a b c f) _ (by with_reducible assumption) _ Try.underlying2 rfl (.int .i64 c) (ac_3 _ _ _ _ _) ?_) | (go_at_call 56; refine (cont_3C _).mono ?_; rintro e w' ⟨rfl, rfl⟩))
            exact ⟨⟨3, by omega, rfl, hall2, B2⟩, by simp [intOf]⟩
          · have q : okA false c = false := by unfold okA; rw [decide_eq_false c3]; simp
            have z1 : (c != 0) = true := by simpa using c3
            have HV := Lib.hid (show vVA 3 a b c f = false from by rw [HVV.out]; exact and_n3 (q))
            clear hall HVV
            go_wp2_with (first | ((with_reducible refine is_idx 104 _ _ rfl ?_); refine wpList_idx rfl 104 _ _ rfl (.agg #[.string ⟨#[65]⟩, .string ⟨#[66]⟩, .string ⟨#[67]⟩]) (.int .i64 2) rfl rfl (v := .string ⟨#[67]⟩) (by kernel_rfl) ?_) | (go_at_call 55; refine (partOf_C _ _).mono ?_; rintro e w' ⟨rfl, rfl⟩) | ((with_reducible refine is_load 2 _ rfl ?_); refine wpList_load_cell rfl 2 _ rfl _ 3 rfl (ac 3 a b c f) _ (by with_reducible assumption) _ Try.underlying2 rfl (.int .i64 c) (ac_3 _ _ _ _ _) ?_) | (go_at_call 56; refine (cont_3C _).mono ?_; rintro e w' ⟨rfl, rfl⟩))
            go_ret
            exact ⟨by rw [HV.out]; rfl, bthen B1.out B2.out⟩
    · have q0 : okA true a = true := by have := hall.out 0 (by omega); rw [HJ.out] at this; exact this
      have q1 : okA true b = true := by have := hall.out 1 (by omega); rw [HJ.out] at this; exact this
      have q2 : okA false c = true := by have := hall.out 2 (by omega); rw [HJ.out] at this; exact this
      have HV := Lib.hid (show vVA 3 a b c f = okF false f from by rw [HVV.out, q0, q1, q2]; rfl)
      have hnil : (FloatKind.f32.format.order f 0 == some .eq) = nilW f := rfl
      have hni := nilW_iff hf
      clear hall q0 q1 q2 HVV HJ
      have hof : okF false f = if nilW f then !decide (2147483648 ≤ f) else finB f && false := rfl
      cases hz : nilW f
      · rw [hz] at hnil hof
        have KI := fun w' => isFinite_any f hf w'
        have hof : okF false f = (finB f && false) := hof
        cases hfin : finB f
        · rw [hfin] at KI hof
          have HV := Lib.hid (HV.out.trans hof)
          clear hof hni hz
          go_wp2_with (first | ((with_reducible refine is_load 26 _ rfl ?_); refine wpList_load_cell rfl 26 _ rfl _ 4 rfl (ac 3 a b c f) _ (by with_reducible assumption) _ Try.underlying26 rfl (.float .f32 f) (ac_4 _ _ _ _ _) ?_) | (go_at_call 58; refine (KI _).mono ?_; rintro e w' ⟨rfl, n9, rfl⟩))
          go_ret
          exact ⟨by rw [HV.out]; rfl, bdrew (bthen B1.out B2.out) _⟩
        · rw [hfin] at KI hof
          have HV := Lib.hid (HV.out.trans hof)
          clear hof hni hz
          go_wp2_with (first | ((with_reducible refine is_load 26 _ rfl ?_); refine wpList_load_cell rfl 26 _ rfl _ 4 rfl (ac 3 a b c f) _ (by with_reducible assumption) _ Try.underlying26 rfl (.float .f32 f) (ac_4 _ _ _ _ _) ?_) | (go_at_call 58; refine (KI _).mono ?_; rintro e w' ⟨rfl, n9, rfl⟩) | (go_at_call 56; refine (cont_3F _).mono ?_; rintro e w' ⟨rfl, rfl⟩))
          go_ret
          exact ⟨by rw [HV.out]; rfl, bdrew (bthen B1.out B2.out) _⟩
      · rw [hz] at hnil hof hni
        have hf2 : f = 0 ∨ f = 2147483648 := of_decide_eq_true hni.symm
        have hn : nanB f = false := by rcases hf2 with rfl | rfl <;> decide
        have hw := wide_at hf hn
        have hof : okF false f = (!decide (2147483648 ≤ f)) := hof
        have HV := Lib.hid (HV.out.trans hof)
        clear hof hni hz hf2
        go_wp2_with (first | ((with_reducible refine is_load 26 _ rfl ?_); refine wpList_load_cell rfl 26 _ rfl _ 4 rfl (ac 3 a b c f) _ (by with_reducible assumption) _ Try.underlying26 rfl (.float .f32 f) (ac_4 _ _ _ _ _) ?_) | (go_at_call 57; refine (Signbit_any f hf hn _).mono ?_; rintro e w' ⟨rfl, rfl⟩))
        go_ret
        exact ⟨by rw [HV.out]; rfl, bthen B1.out B2.out⟩

set_option maxHeartbeats 4000000 in
theorem ValidAct_4 (a b c : Int) (f : Nat) (hf : f < 4294967296) (w : World) :
    Calls Try.prog 17 #[.agg (ac 4 a b c f)] w fun e w' => e = .returned (.bool (vVA 4 a b c f)) ∧ Below w.heap.size w w' := by
  have A0 := At.new w (ac 4 a b c f) 45
  have B0 := Lib.hid (b0 w (.cells (ac 4 a b c f) 45))
  have HVV := Lib.hid (show vVA 4 a b c f = (okA true a && (okA false b && (okA false c && okF false f))) from rfl)
  obtain ⟨okj, hj⟩ : ∃ g : Nat → Bool, g = fun j => if j = 0 then okA true a else if j = 1 then okA false b else okA false c := ⟨_, rfl⟩
  have HJ := Lib.hid hj
  clear hj
  have KF := actForms_any
  go_enter Try.func17, Try.ntmps17
  go_wp2_with (first | ((with_reducible refine is_load 2 _ rfl ?_); refine wpList_load_cell rfl 2 _ rfl _ 0 rfl (ac 4 a b c f) _ (by with_reducible assumption) _ Try.underlying2 rfl (.int .i64 4) (ac_0 _ _ _ _ _) ?_) | ((with_reducible refine is_load 2 _ rfl ?_); refine wpList_load_cell_g rfl 2 _ rfl _ 0 rfl (ac 4 a b c f) _ (by with_reducible assumption) _ Try.underlying2 rfl (.int .i64 4) (ac_0 _ _ _ _ _) ?_))
  generalize w.alloc (.cells (ac 4 a b c f) 45) = w1 at A0 B0 ⊢
  refine wp_region_held (S := fun w' => Below w1.heap.size w1 w') (by kernel_rfl) ?_
  show wpAnyH _ _ _ _ _ 6 (Array.replicate 6 false) _ _
  have S0 : Below w1.heap.size w1 { w1 with drawn := w1.drawn + 1 } := bdrew (Below.refl _ w1) 1
  generalize hw0 : ({ w1 with drawn := w1.drawn + 1 } : World) = w2 at S0 ⊢
  clear hw0
  refine wpAnyH_take (i := 1) (v := .pointer (some ⟨w.heap.size, 0, none⟩)) rfl (by kernel_rfl) (by kernel_rfl) (by kernel_rfl) (fun _ _ _ h => h) (yif rfl fun w2 hw2 => by kernel_rfl) (by assumption) ?_
  refine wpAnyH_take (i := 2) (v := .int .i64 4) rfl (by kernel_rfl) (by kernel_rfl) (by kernel_rfl) (fun _ _ _ h => h) (yif rfl fun w' hw' => x_load 2 (.tmp 16) rfl ⟨w.heap.size, 0, none⟩ (by kernel_rfl) (run_load_one w' 2 _ Try.underlying2 rfl _ _ ((A0.step hw').cell (ac_0 _ _ _ _ _)))) (by assumption) ?_
  refine wpAnyH_call (j := 0) (f := 54) (args := #[]) (by kernel_rfl) rfl (by kernel_rfl) (by kernel_rfl) ((KF w2).mono ?_)
  rintro e w3 ⟨rfl, hb3⟩
  have S1 := bthen S0 hb3
  refine ⟨_, rfl, S1, ?_⟩
  refine wpAnyH_take (i := 3) (v := .agg #[.string ⟨#[102, 114, 101, 101, 32, 65]⟩, .func (Fn.func 94) #[] #[]]) rfl (by kernel_rfl) (by kernel_rfl) (by kernel_rfl) (fun _ _ _ h => h) (yif rfl fun w2 hw2 => by kernel_rfl) (by assumption) ?_
  refine wpAnyH_take (i := 4) (v := .string ⟨#[102, 114, 101, 101, 32, 65]⟩) rfl (by kernel_rfl) (by kernel_rfl) (by kernel_rfl) (fun _ _ _ h => h) (yif rfl fun w2 hw2 => by kernel_rfl) (by assumption) ?_
  refine wpAnyH_take (i := 5) (v := .string ⟨#[102, 114, 101, 101, 32, 65]⟩) rfl (by kernel_rfl) (by kernel_rfl) (by kernel_rfl) (fun _ _ _ h => h) (yif rfl fun w2 hw2 => by kernel_rfl) (by assumption) ?_
  refine wpAnyH_done (by kernel_rfl) ?_ _
  have A1 := A0.step S1
  have B1 := Lib.hid (bthen B0.out S1)
  have HA := Lib.hid A1
  clear A0 B0 S0 S1 hb3 KF A1
  go_simp
  go_wp2_with fail
  go_loopw [21] (fun v wr => ∃ i : Nat, i ≤ 3 ∧ v = .int .i64 (i : Int) ∧ Hid (∀ j, j < i → okj j = true) ∧ Hid (Below w3.heap.size w3 wr)) (fun v _ => 3 - (intOf v).toNat)
  case atStart => exact ⟨0, by omega, rfl, Lib.hid (fun j hj => by omega), Lib.hid (Below.refl _ _)⟩
  case round =>
    obtain ⟨i, hi, rfl, hall, B2⟩ := hrel
    have A2 := HA.out.step B2.out
    rcases (by omega : i = 0 ∨ i = 1 ∨ i = 2 ∨ i = 3) with rfl | rfl | rfl | rfl
    · skip
      by_cases c1 : a < 0
      · have q : okA true a = false := by unfold okA inB; rw [decide_eq_false (show ¬ (0 ≤ a ∧ a ≤ 999) by omega)]; rfl
        have HV := Lib.hid (show vVA 4 a b c f = false from by rw [HVV.out]; exact and_n1 (q))
        clear hall HVV
        go_wp2_with (first | ((with_reducible refine is_idx 104 _ _ rfl ?_); refine wpList_idx rfl 104 _ _ rfl (.agg #[.string ⟨#[65]⟩, .string ⟨#[66]⟩, .string ⟨#[67]⟩]) (.int .i64 0) rfl rfl (v := .string ⟨#[65]⟩) (by kernel_rfl) ?_) | (go_at_call 55; refine (partOf_A _ _).mono ?_; rintro e w' ⟨rfl, rfl⟩) | ((with_reducible refine is_load 2 _ rfl ?_); refine wpList_load_cell rfl 2 _ rfl _ 1 rfl (ac 4 a b c f) _ (by with_reducible assumption) _ Try.underlying2 rfl (.int .i64 a) (ac_1 _ _ _ _ _) ?_) | (go_at_call 56; refine (cont_4A _).mono ?_; rintro e w' ⟨rfl, rfl⟩))
        go_ret
        exact ⟨by rw [HV.out]; rfl, bthen B1.out B2.out⟩
      · by_cases c2 : a > 999
        · have q : okA true a = false := by unfold okA inB; rw [decide_eq_false (show ¬ (0 ≤ a ∧ a ≤ 999) by omega)]; rfl
          have HV := Lib.hid (show vVA 4 a b c f = false from by rw [HVV.out]; exact and_n1 (q))
          clear hall HVV
          go_wp2_with (first | ((with_reducible refine is_idx 104 _ _ rfl ?_); refine wpList_idx rfl 104 _ _ rfl (.agg #[.string ⟨#[65]⟩, .string ⟨#[66]⟩, .string ⟨#[67]⟩]) (.int .i64 0) rfl rfl (v := .string ⟨#[65]⟩) (by kernel_rfl) ?_) | (go_at_call 55; refine (partOf_A _ _).mono ?_; rintro e w' ⟨rfl, rfl⟩) | ((with_reducible refine is_load 2 _ rfl ?_); refine wpList_load_cell rfl 2 _ rfl _ 1 rfl (ac 4 a b c f) _ (by with_reducible assumption) _ Try.underlying2 rfl (.int .i64 a) (ac_1 _ _ _ _ _) ?_) | (go_at_call 56; refine (cont_4A _).mono ?_; rintro e w' ⟨rfl, rfl⟩))
          go_ret
          exact ⟨by rw [HV.out]; rfl, bthen B1.out B2.out⟩
        · by_cases c3 : a = 0
          · have q : okA true a = true := by unfold okA inB; rw [decide_eq_true (show (0 ≤ a ∧ a ≤ 999) by omega)]; rw [decide_eq_true c3]; rfl
            have q : okj 0 = true := by rw [HJ.out]; exact q
            have hall2 := Lib.hid (show ∀ j, j < 1 → okj j = true from fun i hi => by rcases (by omega : i = 0 ∨ i < 0) with rfl | hi; exact q; exact hall.out i hi)
            clear hall
            have z1 : (a != 0) = false := by simpa using c3
            clear c3
            go_wp2_with (first | ((with_reducible refine is_idx 104 _ _ rfl ?_); refine wpList_idx rfl 104 _ _ rfl (.agg #[.string ⟨#[65]⟩, .string ⟨#[66]⟩, .string ⟨#[67]⟩]) (.int .i64 0) rfl rfl (v := .string ⟨#[65]⟩) (by kernel_rfl) ?_) | (go_at_call 55; refine (partOf_A _ _).mono ?_; rintro e w' ⟨rfl, rfl⟩) | ((with_reducible refine is_load 2 _ rfl ?_); refine wpList_load_cell rfl 2 _ rfl _ 1 rfl (ac 4 a b c f) _ (by with_reducible assumption) _ Try.underlying2 rfl (.int .i64 a) (ac_1 _ _ _ _ _) ?_) | (go_at_call 56; refine (cont_4A _).mono ?_; rintro e w' ⟨rfl, rfl⟩))
            exact ⟨⟨1, by omega, rfl, hall2, B2⟩, by simp [intOf]⟩
          · have q : okA true a = true := by unfold okA inB; rw [decide_eq_true (show (0 ≤ a ∧ a ≤ 999) by omega)]; simp
            have q : okj 0 = true := by rw [HJ.out]; exact q
            have hall2 := Lib.hid (show ∀ j, j < 1 → okj j = true from fun i hi => by rcases (by omega : i = 0 ∨ i < 0) with rfl | hi; exact q; exact hall.out i hi)
            clear hall
            have z1 : (a != 0) = true := by simpa using c3
            go_wp2_with (first | ((with_reducible refine is_idx 104 _ _ rfl ?_); refine wpList_idx rfl 104 _ _ rfl (.agg #[.string ⟨#[65]⟩, .string ⟨#[66]⟩, .string ⟨#[67]⟩]) (.int .i64 0) rfl rfl (v := .string ⟨#[65]⟩) (by kernel_rfl) ?_) | (go_at_call 55; refine (partOf_A _ _).mono ?_; rintro e w' ⟨rfl, rfl⟩) | ((with_reducible refine is_load 2 _ rfl ?_); refine wpList_load_cell rfl 2 _ rfl _ 1 rfl (ac 4 a b c f) _ (by with_reducible assumption) _ Try.underlying2 rfl (.int .i64 a) (ac_1 _ _ _ _ _) ?_) | (go_at_call 56; refine (cont_4A _).mono ?_; rintro e w' ⟨rfl, rfl⟩))
            exact ⟨⟨1, by omega, rfl, hall2, B2⟩, by simp [intOf]⟩
    · skip
      by_cases c1 : b < 0
      · have q : okA false b = false := by unfold okA inB; rw [decide_eq_false (show ¬ (0 ≤ b ∧ b ≤ 999) by omega)]; rfl
        have HV := Lib.hid (show vVA 4 a b c f = false from by rw [HVV.out]; exact and_n2 (q))
        clear hall HVV
        go_wp2_with (first | ((with_reducible refine is_idx 104 _ _ rfl ?_); refine wpList_idx rfl 104 _ _ rfl (.agg #[.string ⟨#[65]⟩, .string ⟨#[66]⟩, .string ⟨#[67]⟩]) (.int .i64 1) rfl rfl (v := .string ⟨#[66]⟩) (by kernel_rfl) ?_) | (go_at_call 55; refine (partOf_B _ _).mono ?_; rintro e w' ⟨rfl, rfl⟩) | ((with_reducible refine is_load 2 _ rfl ?_); refine wpList_load_cell rfl 2 _ rfl _ 2 rfl (ac 4 a b c f) _ (by with_reducible assumption) _ Try.underlying2 rfl (.int .i64 b) (ac_2 _ _ _ _ _) ?_) | (go_at_call 56; refine (cont_4B _).mono ?_; rintro e w' ⟨rfl, rfl⟩))
        go_ret
        exact ⟨by rw [HV.out]; rfl, bthen B1.out B2.out⟩
      · by_cases c2 : b > 999
        · have q : okA false b = false := by unfold okA inB; rw [decide_eq_false (show ¬ (0 ≤ b ∧ b ≤ 999) by omega)]; rfl
          have HV := Lib.hid (show vVA 4 a b c f = false from by rw [HVV.out]; exact and_n2 (q))
          clear hall HVV
          go_wp2_with (first | ((with_reducible refine is_idx 104 _ _ rfl ?_); refine wpList_idx rfl 104 _ _ rfl (.agg #[.string ⟨#[65]⟩, .string ⟨#[66]⟩, .string ⟨#[67]⟩]) (.int .i64 1) rfl rfl (v := .string ⟨#[66]⟩) (by kernel_rfl) ?_) | (go_at_call 55; refine (partOf_B _ _).mono ?_; rintro e w' ⟨rfl, rfl⟩) | ((with_reducible refine is_load 2 _ rfl ?_); refine wpList_load_cell rfl 2 _ rfl _ 2 rfl (ac 4 a b c f) _ (by with_reducible assumption) _ Try.underlying2 rfl (.int .i64 b) (ac_2 _ _ _ _ _) ?_) | (go_at_call 56; refine (cont_4B _).mono ?_; rintro e w' ⟨rfl, rfl⟩))
          go_ret
          exact ⟨by rw [HV.out]; rfl, bthen B1.out B2.out⟩
        · by_cases c3 : b = 0
          · have q : okA false b = true := by unfold okA inB; rw [decide_eq_true (show (0 ≤ b ∧ b ≤ 999) by omega)]; rw [decide_eq_true c3]; rfl
            have q : okj 1 = true := by rw [HJ.out]; exact q
            have hall2 := Lib.hid (show ∀ j, j < 2 → okj j = true from fun i hi => by rcases (by omega : i = 1 ∨ i < 1) with rfl | hi; exact q; exact hall.out i hi)
            clear hall
            have z1 : (b != 0) = false := by simpa using c3
            clear c3
            go_wp2_with (first | ((with_reducible refine is_idx 104 _ _ rfl ?_); refine wpList_idx rfl 104 _ _ rfl (.agg #[.string ⟨#[65]⟩, .string ⟨#[66]⟩, .string ⟨#[67]⟩]) (.int .i64 1) rfl rfl (v := .string ⟨#[66]⟩) (by kernel_rfl) ?_) | (go_at_call 55; refine (partOf_B _ _).mono ?_; rintro e w' ⟨rfl, rfl⟩) | ((with_reducible refine is_load 2 _ rfl ?_); refine wpList_load_cell rfl 2 _ rfl _ 2 rfl (ac 4 a b c f) _ (by with_reducible assumption) _ Try.underlying2 rfl (.int .i64 b) (ac_2 _ _ _ _ _) ?_) | (go_at_call 56; refine (cont_4B _).mono ?_; rintro e w' ⟨rfl, rfl⟩))
            exact ⟨⟨2, by omega, rfl, hall2, B2⟩, by simp [intOf]⟩
          · have q : okA false b = false := by unfold okA; rw [decide_eq_false c3]; simp
            have z1 : (b != 0) = true := by simpa using c3
            have HV := Lib.hid (show vVA 4 a b c f = false from by rw [HVV.out]; exact and_n2 (q))
            clear hall HVV
            go_wp2_with (first | ((with_reducible refine is_idx 104 _ _ rfl ?_); refine wpList_idx rfl 104 _ _ rfl (.agg #[.string ⟨#[65]⟩, .string ⟨#[66]⟩, .string ⟨#[67]⟩]) (.int .i64 1) rfl rfl (v := .string ⟨#[66]⟩) (by kernel_rfl) ?_) | (go_at_call 55; refine (partOf_B _ _).mono ?_; rintro e w' ⟨rfl, rfl⟩) | ((with_reducible refine is_load 2 _ rfl ?_); refine wpList_load_cell rfl 2 _ rfl _ 2 rfl (ac 4 a b c f) _ (by with_reducible assumption) _ Try.underlying2 rfl (.int .i64 b) (ac_2 _ _ _ _ _) ?_) | (go_at_call 56; refine (cont_4B _).mono ?_; rintro e w' ⟨rfl, rfl⟩))
            go_ret
            exact ⟨by rw [HV.out]; rfl, bthen B1.out B2.out⟩
    · skip
      by_cases c1 : c < 0
      · have q : okA false c = false := by unfold okA inB; rw [decide_eq_false (show ¬ (0 ≤ c ∧ c ≤ 999) by omega)]; rfl
        have HV := Lib.hid (show vVA 4 a b c f = false from by rw [HVV.out]; exact and_n3 (q))
        clear hall HVV
        go_wp2_with (first | ((with_reducible refine is_idx 104 _ _ rfl ?_); refine wpList_idx rfl 104 _ _ rfl (.agg #[.string ⟨#[65]⟩, .string ⟨#[66]⟩, .string ⟨#[67]⟩]) (.int .i64 2) rfl rfl (v := .string ⟨#[67]⟩) (by kernel_rfl) ?_) | (go_at_call 55; refine (partOf_C _ _).mono ?_; rintro e w' ⟨rfl, rfl⟩) | ((with_reducible refine is_load 2 _ rfl ?_); refine wpList_load_cell rfl 2 _ rfl _ 3 rfl (ac 4 a b c f) _ (by with_reducible assumption) _ Try.underlying2 rfl (.int .i64 c) (ac_3 _ _ _ _ _) ?_) | (go_at_call 56; refine (cont_4C _).mono ?_; rintro e w' ⟨rfl, rfl⟩))
        go_ret
        exact ⟨by rw [HV.out]; rfl, bthen B1.out B2.out⟩
      · by_cases c2 : c > 999
        · have q : okA false c = false := by unfold okA inB; rw [decide_eq_false (show ¬ (0 ≤ c ∧ c ≤ 999) by omega)]; rfl
          have HV := Lib.hid (show vVA 4 a b c f = false from by rw [HVV.out]; exact and_n3 (q))
          clear hall HVV
          go_wp2_with (first | ((with_reducible refine is_idx 104 _ _ rfl ?_); refine wpList_idx rfl 104 _ _ rfl (.agg #[.string ⟨#[65]⟩, .string ⟨#[66]⟩, .string ⟨#[67]⟩]) (.int .i64 2) rfl rfl (v := .string ⟨#[67]⟩) (by kernel_rfl) ?_) | (go_at_call 55; refine (partOf_C _ _).mono ?_; rintro e w' ⟨rfl, rfl⟩) | ((with_reducible refine is_load 2 _ rfl ?_); refine wpList_load_cell rfl 2 _ rfl _ 3 rfl (ac 4 a b c f) _ (by with_reducible assumption) _ Try.underlying2 rfl (.int .i64 c) (ac_3 _ _ _ _ _) ?_) | (go_at_call 56; refine (cont_4C _).mono ?_; rintro e w' ⟨rfl, rfl⟩))
          go_ret
          exact ⟨by rw [HV.out]; rfl, bthen B1.out B2.out⟩
        · by_cases c3 : c = 0
          · have q : okA false c = true := by unfold okA inB; rw [decide_eq_true (show (0 ≤ c ∧ c ≤ 999) by omega)]; rw [decide_eq_true c3]; rfl
            have q : okj 2 = true := by rw [HJ.out]; exact q
            have hall2 := Lib.hid (show ∀ j, j < 3 → okj j = true from fun i hi => by rcases (by omega : i = 2 ∨ i < 2) with rfl | hi; exact q; exact hall.out i hi)
            clear hall
            have z1 : (c != 0) = false := by simpa using c3
            clear c3
            go_wp2_with (first | ((with_reducible refine is_idx 104 _ _ rfl ?_); refine wpList_idx rfl 104 _ _ rfl (.agg #[.string ⟨#[65]⟩, .string ⟨#[66]⟩, .string ⟨#[67]⟩]) (.int .i64 2) rfl rfl (v := .string ⟨#[67]⟩) (by kernel_rfl) ?_) | (go_at_call 55; refine (partOf_C _ _).mono ?_; rintro e w' ⟨rfl, rfl⟩) | ((with_reducible refine is_load 2 _ rfl ?_); refine wpList_load_cell rfl 2 _ rfl _ 3 rfl (ac 4 a b c f) _ (by with_reducible assumption) _ Try.underlying2 rfl (.int .i64 c) (ac_3 _ _ _ _ _) ?_) | (go_at_call 56; refine (cont_4C _).mono ?_; rintro e w' ⟨rfl, rfl⟩))
            exact ⟨⟨3, by omega, rfl, hall2, B2⟩, by simp [intOf]⟩
          · have q : okA false c = false := by unfold okA; rw [decide_eq_false c3]; simp
            have z1 : (c != 0) = true := by simpa using c3
            have HV := Lib.hid (show vVA 4 a b c f = false from by rw [HVV.out]; exact and_n3 (q))
            clear hall HVV
            go_wp2_with (first | ((with_reducible refine is_idx 104 _ _ rfl ?_); refine wpList_idx rfl 104 _ _ rfl (.agg #[.string ⟨#[65]⟩, .string ⟨#[66]⟩, .string ⟨#[67]⟩]) (.int .i64 2) rfl rfl (v := .string ⟨#[67]⟩) (by kernel_rfl) ?_) | (go_at_call 55; refine (partOf_C _ _).mono ?_; rintro e w' ⟨rfl, rfl⟩) | ((with_reducible refine is_load 2 _ rfl ?_); refine wpList_load_cell rfl 2 _ rfl _ 3 rfl (ac 4 a b c f) _ (by with_reducible assumption) _ Try.underlying2 rfl (.int .i64 c) (ac_3 _ _ _ _ _) ?_) | (go_at_call 56; refine (cont_4C _).mono ?_; rintro e w' ⟨rfl, rfl⟩))
            go_ret
            exact ⟨by rw [HV.out]; rfl, bthen B1.out B2.out⟩
    · have q0 : okA true a = true := by have := hall.out 0 (by omega); rw [HJ.out] at this; exact this
      have q1 : okA false b = true := by have := hall.out 1 (by omega); rw [HJ.out] at this; exact this
      have q2 : okA false c = true := by have := hall.out 2 (by omega); rw [HJ.out] at this; exact this
      have HV := Lib.hid (show vVA 4 a b c f = okF false f from by rw [HVV.out, q0, q1, q2]; rfl)
      have hnil : (FloatKind.f32.format.order f 0 == some .eq) = nilW f := rfl
      have hni := nilW_iff hf
      clear hall q0 q1 q2 HVV HJ
      have hof : okF false f = if nilW f then !decide (2147483648 ≤ f) else finB f && false := rfl
      cases hz : nilW f
      · rw [hz] at hnil hof
        have KI := fun w' => isFinite_any f hf w'
        have hof : okF false f = (finB f && false) := hof
        cases hfin : finB f
        · rw [hfin] at KI hof
          have HV := Lib.hid (HV.out.trans hof)
          clear hof hni hz
          go_wp2_with (first | ((with_reducible refine is_load 26 _ rfl ?_); refine wpList_load_cell rfl 26 _ rfl _ 4 rfl (ac 4 a b c f) _ (by with_reducible assumption) _ Try.underlying26 rfl (.float .f32 f) (ac_4 _ _ _ _ _) ?_) | (go_at_call 58; refine (KI _).mono ?_; rintro e w' ⟨rfl, n9, rfl⟩))
          go_ret
          exact ⟨by rw [HV.out]; rfl, bdrew (bthen B1.out B2.out) _⟩
        · rw [hfin] at KI hof
          have HV := Lib.hid (HV.out.trans hof)
          clear hof hni hz
          go_wp2_with (first | ((with_reducible refine is_load 26 _ rfl ?_); refine wpList_load_cell rfl 26 _ rfl _ 4 rfl (ac 4 a b c f) _ (by with_reducible assumption) _ Try.underlying26 rfl (.float .f32 f) (ac_4 _ _ _ _ _) ?_) | (go_at_call 58; refine (KI _).mono ?_; rintro e w' ⟨rfl, n9, rfl⟩) | (go_at_call 56; refine (cont_4F _).mono ?_; rintro e w' ⟨rfl, rfl⟩))
          go_ret
          exact ⟨by rw [HV.out]; rfl, bdrew (bthen B1.out B2.out) _⟩
      · rw [hz] at hnil hof hni
        have hf2 : f = 0 ∨ f = 2147483648 := of_decide_eq_true hni.symm
        have hn : nanB f = false := by rcases hf2 with rfl | rfl <;> decide
        have hw := wide_at hf hn
        have hof : okF false f = (!decide (2147483648 ≤ f)) := hof
        have HV := Lib.hid (HV.out.trans hof)
        clear hof hni hz hf2
        go_wp2_with (first | ((with_reducible refine is_load 26 _ rfl ?_); refine wpList_load_cell rfl 26 _ rfl _ 4 rfl (ac 4 a b c f) _ (by with_reducible assumption) _ Try.underlying26 rfl (.float .f32 f) (ac_4 _ _ _ _ _) ?_) | (go_at_call 57; refine (Signbit_any f hf hn _).mono ?_; rintro e w' ⟨rfl, rfl⟩))
        go_ret
        exact ⟨by rw [HV.out]; rfl, bthen B1.out B2.out⟩

set_option maxHeartbeats 4000000 in
theorem ValidAct_5 (a b c : Int) (f : Nat) (hf : f < 4294967296) (w : World) :
    Calls Try.prog 17 #[.agg (ac 5 a b c f)] w fun e w' => e = .returned (.bool (vVA 5 a b c f)) ∧ Below w.heap.size w w' := by
  have A0 := At.new w (ac 5 a b c f) 45
  have B0 := Lib.hid (b0 w (.cells (ac 5 a b c f) 45))
  have HVV := Lib.hid (show vVA 5 a b c f = (okA true a && (okA true b && (okA true c && okF true f))) from rfl)
  obtain ⟨okj, hj⟩ : ∃ g : Nat → Bool, g = fun j => if j = 0 then okA true a else if j = 1 then okA true b else okA true c := ⟨_, rfl⟩
  have HJ := Lib.hid hj
  clear hj
  have KF := actForms_any
  go_enter Try.func17, Try.ntmps17
  go_wp2_with (first | ((with_reducible refine is_load 2 _ rfl ?_); refine wpList_load_cell rfl 2 _ rfl _ 0 rfl (ac 5 a b c f) _ (by with_reducible assumption) _ Try.underlying2 rfl (.int .i64 5) (ac_0 _ _ _ _ _) ?_) | ((with_reducible refine is_load 2 _ rfl ?_); refine wpList_load_cell_g rfl 2 _ rfl _ 0 rfl (ac 5 a b c f) _ (by with_reducible assumption) _ Try.underlying2 rfl (.int .i64 5) (ac_0 _ _ _ _ _) ?_))
  generalize w.alloc (.cells (ac 5 a b c f) 45) = w1 at A0 B0 ⊢
  refine wp_region_held (S := fun w' => Below w1.heap.size w1 w') (by kernel_rfl) ?_
  show wpAnyH _ _ _ _ _ 6 (Array.replicate 6 false) _ _
  have S0 : Below w1.heap.size w1 { w1 with drawn := w1.drawn + 1 } := bdrew (Below.refl _ w1) 1
  generalize hw0 : ({ w1 with drawn := w1.drawn + 1 } : World) = w2 at S0 ⊢
  clear hw0
  refine wpAnyH_take (i := 1) (v := .pointer (some ⟨w.heap.size, 0, none⟩)) rfl (by kernel_rfl) (by kernel_rfl) (by kernel_rfl) (fun _ _ _ h => h) (yif rfl fun w2 hw2 => by kernel_rfl) (by assumption) ?_
  refine wpAnyH_take (i := 2) (v := .int .i64 5) rfl (by kernel_rfl) (by kernel_rfl) (by kernel_rfl) (fun _ _ _ h => h) (yif rfl fun w' hw' => x_load 2 (.tmp 16) rfl ⟨w.heap.size, 0, none⟩ (by kernel_rfl) (run_load_one w' 2 _ Try.underlying2 rfl _ _ ((A0.step hw').cell (ac_0 _ _ _ _ _)))) (by assumption) ?_
  refine wpAnyH_call (j := 0) (f := 54) (args := #[]) (by kernel_rfl) rfl (by kernel_rfl) (by kernel_rfl) ((KF w2).mono ?_)
  rintro e w3 ⟨rfl, hb3⟩
  have S1 := bthen S0 hb3
  refine ⟨_, rfl, S1, ?_⟩
  refine wpAnyH_take (i := 3) (v := .agg #[.string ⟨#[116, 117, 114, 110, 32, 65, 32, 66, 32, 67, 32, 70]⟩, .func (Fn.func 95) #[] #[]]) rfl (by kernel_rfl) (by kernel_rfl) (by kernel_rfl) (fun _ _ _ h => h) (yif rfl fun w2 hw2 => by kernel_rfl) (by assumption) ?_
  refine wpAnyH_take (i := 4) (v := .string ⟨#[116, 117, 114, 110, 32, 65, 32, 66, 32, 67, 32, 70]⟩) rfl (by kernel_rfl) (by kernel_rfl) (by kernel_rfl) (fun _ _ _ h => h) (yif rfl fun w2 hw2 => by kernel_rfl) (by assumption) ?_
  refine wpAnyH_take (i := 5) (v := .string ⟨#[116, 117, 114, 110, 32, 65, 32, 66, 32, 67, 32, 70]⟩) rfl (by kernel_rfl) (by kernel_rfl) (by kernel_rfl) (fun _ _ _ h => h) (yif rfl fun w2 hw2 => by kernel_rfl) (by assumption) ?_
  refine wpAnyH_done (by kernel_rfl) ?_ _
  have A1 := A0.step S1
  have B1 := Lib.hid (bthen B0.out S1)
  have HA := Lib.hid A1
  clear A0 B0 S0 S1 hb3 KF A1
  go_simp
  go_wp2_with fail
  go_loopw [21] (fun v wr => ∃ i : Nat, i ≤ 3 ∧ v = .int .i64 (i : Int) ∧ Hid (∀ j, j < i → okj j = true) ∧ Hid (Below w3.heap.size w3 wr)) (fun v _ => 3 - (intOf v).toNat)
  case atStart => exact ⟨0, by omega, rfl, Lib.hid (fun j hj => by omega), Lib.hid (Below.refl _ _)⟩
  case round =>
    obtain ⟨i, hi, rfl, hall, B2⟩ := hrel
    have A2 := HA.out.step B2.out
    rcases (by omega : i = 0 ∨ i = 1 ∨ i = 2 ∨ i = 3) with rfl | rfl | rfl | rfl
    · skip
      by_cases c1 : a < 0
      · have q : okA true a = false := by unfold okA inB; rw [decide_eq_false (show ¬ (0 ≤ a ∧ a ≤ 999) by omega)]; rfl
        have HV := Lib.hid (show vVA 5 a b c f = false from by rw [HVV.out]; exact and_n1 (q))
        clear hall HVV
        go_wp2_with (first | ((with_reducible refine is_idx 104 _ _ rfl ?_); refine wpList_idx rfl 104 _ _ rfl (.agg #[.string ⟨#[65]⟩, .string ⟨#[66]⟩, .string ⟨#[67]⟩]) (.int .i64 0) rfl rfl (v := .string ⟨#[65]⟩) (by kernel_rfl) ?_) | (go_at_call 55; refine (partOf_A _ _).mono ?_; rintro e w' ⟨rfl, rfl⟩) | ((with_reducible refine is_load 2 _ rfl ?_); refine wpList_load_cell rfl 2 _ rfl _ 1 rfl (ac 5 a b c f) _ (by with_reducible assumption) _ Try.underlying2 rfl (.int .i64 a) (ac_1 _ _ _ _ _) ?_) | (go_at_call 56; refine (cont_5A _).mono ?_; rintro e w' ⟨rfl, rfl⟩))
        go_ret
        exact ⟨by rw [HV.out]; rfl, bthen B1.out B2.out⟩
      · by_cases c2 : a > 999
        · have q : okA true a = false := by unfold okA inB; rw [decide_eq_false (show ¬ (0 ≤ a ∧ a ≤ 999) by omega)]; rfl
          have HV := Lib.hid (show vVA 5 a b c f = false from by rw [HVV.out]; exact and_n1 (q))
          clear hall HVV
          go_wp2_with (first | ((with_reducible refine is_idx 104 _ _ rfl ?_); refine wpList_idx rfl 104 _ _ rfl (.agg #[.string ⟨#[65]⟩, .string ⟨#[66]⟩, .string ⟨#[67]⟩]) (.int .i64 0) rfl rfl (v := .string ⟨#[65]⟩) (by kernel_rfl) ?_) | (go_at_call 55; refine (partOf_A _ _).mono ?_; rintro e w' ⟨rfl, rfl⟩) | ((with_reducible refine is_load 2 _ rfl ?_); refine wpList_load_cell rfl 2 _ rfl _ 1 rfl (ac 5 a b c f) _ (by with_reducible assumption) _ Try.underlying2 rfl (.int .i64 a) (ac_1 _ _ _ _ _) ?_) | (go_at_call 56; refine (cont_5A _).mono ?_; rintro e w' ⟨rfl, rfl⟩))
          go_ret
          exact ⟨by rw [HV.out]; rfl, bthen B1.out B2.out⟩
        · by_cases c3 : a = 0
          · have q : okA true a = true := by unfold okA inB; rw [decide_eq_true (show (0 ≤ a ∧ a ≤ 999) by omega)]; rw [decide_eq_true c3]; rfl
            have q : okj 0 = true := by rw [HJ.out]; exact q
            have hall2 := Lib.hid (show ∀ j, j < 1 → okj j = true from fun i hi => by rcases (by omega : i = 0 ∨ i < 0) with rfl | hi; exact q; exact hall.out i hi)
            clear hall
            have z1 : (a != 0) = false := by simpa using c3
            clear c3
            go_wp2_with (first | ((with_reducible refine is_idx 104 _ _ rfl ?_); refine wpList_idx rfl 104 _ _ rfl (.agg #[.string ⟨#[65]⟩, .string ⟨#[66]⟩, .string ⟨#[67]⟩]) (.int .i64 0) rfl rfl (v := .string ⟨#[65]⟩) (by kernel_rfl) ?_) | (go_at_call 55; refine (partOf_A _ _).mono ?_; rintro e w' ⟨rfl, rfl⟩) | ((with_reducible refine is_load 2 _ rfl ?_); refine wpList_load_cell rfl 2 _ rfl _ 1 rfl (ac 5 a b c f) _ (by with_reducible assumption) _ Try.underlying2 rfl (.int .i64 a) (ac_1 _ _ _ _ _) ?_) | (go_at_call 56; refine (cont_5A _).mono ?_; rintro e w' ⟨rfl, rfl⟩))
            exact ⟨⟨1, by omega, rfl, hall2, B2⟩, by simp [intOf]⟩
          · have q : okA true a = true := by unfold okA inB; rw [decide_eq_true (show (0 ≤ a ∧ a ≤ 999) by omega)]; simp
            have q : okj 0 = true := by rw [HJ.out]; exact q
            have hall2 := Lib.hid (show ∀ j, j < 1 → okj j = true from fun i hi => by rcases (by omega : i = 0 ∨ i < 0) with rfl | hi; exact q; exact hall.out i hi)
            clear hall
            have z1 : (a != 0) = true := by simpa using c3
            go_wp2_with (first | ((with_reducible refine is_idx 104 _ _ rfl ?_); refine wpList_idx rfl 104 _ _ rfl (.agg #[.string ⟨#[65]⟩, .string ⟨#[66]⟩, .string ⟨#[67]⟩]) (.int .i64 0) rfl rfl (v := .string ⟨#[65]⟩) (by kernel_rfl) ?_) | (go_at_call 55; refine (partOf_A _ _).mono ?_; rintro e w' ⟨rfl, rfl⟩) | ((with_reducible refine is_load 2 _ rfl ?_); refine wpList_load_cell rfl 2 _ rfl _ 1 rfl (ac 5 a b c f) _ (by with_reducible assumption) _ Try.underlying2 rfl (.int .i64 a) (ac_1 _ _ _ _ _) ?_) | (go_at_call 56; refine (cont_5A _).mono ?_; rintro e w' ⟨rfl, rfl⟩))
            exact ⟨⟨1, by omega, rfl, hall2, B2⟩, by simp [intOf]⟩
    · skip
      by_cases c1 : b < 0
      · have q : okA true b = false := by unfold okA inB; rw [decide_eq_false (show ¬ (0 ≤ b ∧ b ≤ 999) by omega)]; rfl
        have HV := Lib.hid (show vVA 5 a b c f = false from by rw [HVV.out]; exact and_n2 (q))
        clear hall HVV
        go_wp2_with (first | ((with_reducible refine is_idx 104 _ _ rfl ?_); refine wpList_idx rfl 104 _ _ rfl (.agg #[.string ⟨#[65]⟩, .string ⟨#[66]⟩, .string ⟨#[67]⟩]) (.int .i64 1) rfl rfl (v := .string ⟨#[66]⟩) (by kernel_rfl) ?_) | (go_at_call 55; refine (partOf_B _ _).mono ?_; rintro e w' ⟨rfl, rfl⟩) | ((with_reducible refine is_load 2 _ rfl ?_); refine wpList_load_cell rfl 2 _ rfl _ 2 rfl (ac 5 a b c f) _ (by with_reducible assumption) _ Try.underlying2 rfl (.int .i64 b) (ac_2 _ _ _ _ _) ?_) | (go_at_call 56; refine (cont_5B _).mono ?_; rintro e w' ⟨rfl, rfl⟩))
        go_ret
        exact ⟨by rw [HV.out]; rfl, bthen B1.out B2.out⟩
      · by_cases c2 : b > 999
        · have q : okA true b = false := by unfold okA inB; rw [decide_eq_false (show ¬ (0 ≤ b ∧ b ≤ 999) by omega)]; rfl
          have HV := Lib.hid (show vVA 5 a b c f = false from by rw [HVV.out]; exact and_n2 (q))
          clear hall HVV
          go_wp2_with (first | ((with_reducible refine is_idx 104 _ _ rfl ?_); refine wpList_idx rfl 104 _ _ rfl (.agg #[.string ⟨#[65]⟩, .string ⟨#[66]⟩, .string ⟨#[67]⟩]) (.int .i64 1) rfl rfl (v := .string ⟨#[66]⟩) (by kernel_rfl) ?_) | (go_at_call 55; refine (partOf_B _ _).mono ?_; rintro e w' ⟨rfl, rfl⟩) | ((with_reducible refine is_load 2 _ rfl ?_); refine wpList_load_cell rfl 2 _ rfl _ 2 rfl (ac 5 a b c f) _ (by with_reducible assumption) _ Try.underlying2 rfl (.int .i64 b) (ac_2 _ _ _ _ _) ?_) | (go_at_call 56; refine (cont_5B _).mono ?_; rintro e w' ⟨rfl, rfl⟩))
          go_ret
          exact ⟨by rw [HV.out]; rfl, bthen B1.out B2.out⟩
        · by_cases c3 : b = 0
          · have q : okA true b = true := by unfold okA inB; rw [decide_eq_true (show (0 ≤ b ∧ b ≤ 999) by omega)]; rw [decide_eq_true c3]; rfl
            have q : okj 1 = true := by rw [HJ.out]; exact q
            have hall2 := Lib.hid (show ∀ j, j < 2 → okj j = true from fun i hi => by rcases (by omega : i = 1 ∨ i < 1) with rfl | hi; exact q; exact hall.out i hi)
            clear hall
            have z1 : (b != 0) = false := by simpa using c3
            clear c3
            go_wp2_with (first | ((with_reducible refine is_idx 104 _ _ rfl ?_); refine wpList_idx rfl 104 _ _ rfl (.agg #[.string ⟨#[65]⟩, .string ⟨#[66]⟩, .string ⟨#[67]⟩]) (.int .i64 1) rfl rfl (v := .string ⟨#[66]⟩) (by kernel_rfl) ?_) | (go_at_call 55; refine (partOf_B _ _).mono ?_; rintro e w' ⟨rfl, rfl⟩) | ((with_reducible refine is_load 2 _ rfl ?_); refine wpList_load_cell rfl 2 _ rfl _ 2 rfl (ac 5 a b c f) _ (by with_reducible assumption) _ Try.underlying2 rfl (.int .i64 b) (ac_2 _ _ _ _ _) ?_) | (go_at_call 56; refine (cont_5B _).mono ?_; rintro e w' ⟨rfl, rfl⟩))
            exact ⟨⟨2, by omega, rfl, hall2, B2⟩, by simp [intOf]⟩
          · have q : okA true b = true := by unfold okA inB; rw [decide_eq_true (show (0 ≤ b ∧ b ≤ 999) by omega)]; simp
            have q : okj 1 = true := by rw [HJ.out]; exact q
            have hall2 := Lib.hid (show ∀ j, j < 2 → okj j = true from fun i hi => by rcases (by omega : i = 1 ∨ i < 1) with rfl | hi; exact q; exact hall.out i hi)
            clear hall
            have z1 : (b != 0) = true := by simpa using c3
            go_wp2_with (first | ((with_reducible refine is_idx 104 _ _ rfl ?_); refine wpList_idx rfl 104 _ _ rfl (.agg #[.string ⟨#[65]⟩, .string ⟨#[66]⟩, .string ⟨#[67]⟩]) (.int .i64 1) rfl rfl (v := .string ⟨#[66]⟩) (by kernel_rfl) ?_) | (go_at_call 55; refine (partOf_B _ _).mono ?_; rintro e w' ⟨rfl, rfl⟩) | ((with_reducible refine is_load 2 _ rfl ?_); refine wpList_load_cell rfl 2 _ rfl _ 2 rfl (ac 5 a b c f) _ (by with_reducible assumption) _ Try.underlying2 rfl (.int .i64 b) (ac_2 _ _ _ _ _) ?_) | (go_at_call 56; refine (cont_5B _).mono ?_; rintro e w' ⟨rfl, rfl⟩))
            exact ⟨⟨2, by omega, rfl, hall2, B2⟩, by simp [intOf]⟩
    · skip
      by_cases c1 : c < 0
      · have q : okA true c = false := by unfold okA inB; rw [decide_eq_false (show ¬ (0 ≤ c ∧ c ≤ 999) by omega)]; rfl
        have HV := Lib.hid (show vVA 5 a b c f = false from by rw [HVV.out]; exact and_n3 (q))
        clear hall HVV
        go_wp2_with (first | ((with_reducible refine is_idx 104 _ _ rfl ?_); refine wpList_idx rfl 104 _ _ rfl (.agg #[.string ⟨#[65]⟩, .string ⟨#[66]⟩, .string ⟨#[67]⟩]) (.int .i64 2) rfl rfl (v := .string ⟨#[67]⟩) (by kernel_rfl) ?_) | (go_at_call 55; refine (partOf_C _ _).mono ?_; rintro e w' ⟨rfl, rfl⟩) | ((with_reducible refine is_load 2 _ rfl ?_); refine wpList_load_cell rfl 2 _ rfl _ 3 rfl (ac 5 a b c f) _ (by with_reducible assumption) _ Try.underlying2 rfl (.int .i64 c) (ac_3 _ _ _ _ _) ?_) | (go_at_call 56; refine (cont_5C _).mono ?_; rintro e w' ⟨rfl, rfl⟩))
        go_ret
        exact ⟨by rw [HV.out]; rfl, bthen B1.out B2.out⟩
      · by_cases c2 : c > 999
        · have q : okA true c = false := by unfold okA inB; rw [decide_eq_false (show ¬ (0 ≤ c ∧ c ≤ 999) by omega)]; rfl
          have HV := Lib.hid (show vVA 5 a b c f = false from by rw [HVV.out]; exact and_n3 (q))
          clear hall HVV
          go_wp2_with (first | ((with_reducible refine is_idx 104 _ _ rfl ?_); refine wpList_idx rfl 104 _ _ rfl (.agg #[.string ⟨#[65]⟩, .string ⟨#[66]⟩, .string ⟨#[67]⟩]) (.int .i64 2) rfl rfl (v := .string ⟨#[67]⟩) (by kernel_rfl) ?_) | (go_at_call 55; refine (partOf_C _ _).mono ?_; rintro e w' ⟨rfl, rfl⟩) | ((with_reducible refine is_load 2 _ rfl ?_); refine wpList_load_cell rfl 2 _ rfl _ 3 rfl (ac 5 a b c f) _ (by with_reducible assumption) _ Try.underlying2 rfl (.int .i64 c) (ac_3 _ _ _ _ _) ?_) | (go_at_call 56; refine (cont_5C _).mono ?_; rintro e w' ⟨rfl, rfl⟩))
          go_ret
          exact ⟨by rw [HV.out]; rfl, bthen B1.out B2.out⟩
        · by_cases c3 : c = 0
          · have q : okA true c = true := by unfold okA inB; rw [decide_eq_true (show (0 ≤ c ∧ c ≤ 999) by omega)]; rw [decide_eq_true c3]; rfl
            have q : okj 2 = true := by rw [HJ.out]; exact q
            have hall2 := Lib.hid (show ∀ j, j < 3 → okj j = true from fun i hi => by rcases (by omega : i = 2 ∨ i < 2) with rfl | hi; exact q; exact hall.out i hi)
            clear hall
            have z1 : (c != 0) = false := by simpa using c3
            clear c3
            go_wp2_with (first | ((with_reducible refine is_idx 104 _ _ rfl ?_); refine wpList_idx rfl 104 _ _ rfl (.agg #[.string ⟨#[65]⟩, .string ⟨#[66]⟩, .string ⟨#[67]⟩]) (.int .i64 2) rfl rfl (v := .string ⟨#[67]⟩) (by kernel_rfl) ?_) | (go_at_call 55; refine (partOf_C _ _).mono ?_; rintro e w' ⟨rfl, rfl⟩) | ((with_reducible refine is_load 2 _ rfl ?_); refine wpList_load_cell rfl 2 _ rfl _ 3 rfl (ac 5 a b c f) _ (by with_reducible assumption) _ Try.underlying2 rfl (.int .i64 c) (ac_3 _ _ _ _ _) ?_) | (go_at_call 56; refine (cont_5C _).mono ?_; rintro e w' ⟨rfl, rfl⟩))
            exact ⟨⟨3, by omega, rfl, hall2, B2⟩, by simp [intOf]⟩
          · have q : okA true c = true := by unfold okA inB; rw [decide_eq_true (show (0 ≤ c ∧ c ≤ 999) by omega)]; simp
            have q : okj 2 = true := by rw [HJ.out]; exact q
            have hall2 := Lib.hid (show ∀ j, j < 3 → okj j = true from fun i hi => by rcases (by omega : i = 2 ∨ i < 2) with rfl | hi; exact q; exact hall.out i hi)
            clear hall
            have z1 : (c != 0) = true := by simpa using c3
            go_wp2_with (first | ((with_reducible refine is_idx 104 _ _ rfl ?_); refine wpList_idx rfl 104 _ _ rfl (.agg #[.string ⟨#[65]⟩, .string ⟨#[66]⟩, .string ⟨#[67]⟩]) (.int .i64 2) rfl rfl (v := .string ⟨#[67]⟩) (by kernel_rfl) ?_) | (go_at_call 55; refine (partOf_C _ _).mono ?_; rintro e w' ⟨rfl, rfl⟩) | ((with_reducible refine is_load 2 _ rfl ?_); refine wpList_load_cell rfl 2 _ rfl _ 3 rfl (ac 5 a b c f) _ (by with_reducible assumption) _ Try.underlying2 rfl (.int .i64 c) (ac_3 _ _ _ _ _) ?_) | (go_at_call 56; refine (cont_5C _).mono ?_; rintro e w' ⟨rfl, rfl⟩))
            exact ⟨⟨3, by omega, rfl, hall2, B2⟩, by simp [intOf]⟩
    · have q0 : okA true a = true := by have := hall.out 0 (by omega); rw [HJ.out] at this; exact this
      have q1 : okA true b = true := by have := hall.out 1 (by omega); rw [HJ.out] at this; exact this
      have q2 : okA true c = true := by have := hall.out 2 (by omega); rw [HJ.out] at this; exact this
      have HV := Lib.hid (show vVA 5 a b c f = okF true f from by rw [HVV.out, q0, q1, q2]; rfl)
      have hnil : (FloatKind.f32.format.order f 0 == some .eq) = nilW f := rfl
      have hni := nilW_iff hf
      clear hall q0 q1 q2 HVV HJ
      have hof : okF true f = if nilW f then !decide (2147483648 ≤ f) else finB f && true := rfl
      cases hz : nilW f
      · rw [hz] at hnil hof
        have KI := fun w' => isFinite_any f hf w'
        have hof : okF true f = (finB f && true) := hof
        cases hfin : finB f
        · rw [hfin] at KI hof
          have HV := Lib.hid (HV.out.trans hof)
          clear hof hni hz
          go_wp2_with (first | ((with_reducible refine is_load 26 _ rfl ?_); refine wpList_load_cell rfl 26 _ rfl _ 4 rfl (ac 5 a b c f) _ (by with_reducible assumption) _ Try.underlying26 rfl (.float .f32 f) (ac_4 _ _ _ _ _) ?_) | (go_at_call 58; refine (KI _).mono ?_; rintro e w' ⟨rfl, n9, rfl⟩))
          go_ret
          exact ⟨by rw [HV.out]; rfl, bdrew (bthen B1.out B2.out) _⟩
        · rw [hfin] at KI hof
          have HV := Lib.hid (HV.out.trans hof)
          clear hof hni hz
          go_wp2_with (first | ((with_reducible refine is_load 26 _ rfl ?_); refine wpList_load_cell rfl 26 _ rfl _ 4 rfl (ac 5 a b c f) _ (by with_reducible assumption) _ Try.underlying26 rfl (.float .f32 f) (ac_4 _ _ _ _ _) ?_) | (go_at_call 58; refine (KI _).mono ?_; rintro e w' ⟨rfl, n9, rfl⟩) | (go_at_call 56; refine (cont_5F _).mono ?_; rintro e w' ⟨rfl, rfl⟩))
          go_ret
          exact ⟨by rw [HV.out]; rfl, bdrew (bthen B1.out B2.out) _⟩
      · rw [hz] at hnil hof hni
        have hf2 : f = 0 ∨ f = 2147483648 := of_decide_eq_true hni.symm
        have hn : nanB f = false := by rcases hf2 with rfl | rfl <;> decide
        have hw := wide_at hf hn
        have hof : okF true f = (!decide (2147483648 ≤ f)) := hof
        have HV := Lib.hid (HV.out.trans hof)
        clear hof hni hz hf2
        go_wp2_with (first | ((with_reducible refine is_load 26 _ rfl ?_); refine wpList_load_cell rfl 26 _ rfl _ 4 rfl (ac 5 a b c f) _ (by with_reducible assumption) _ Try.underlying26 rfl (.float .f32 f) (ac_4 _ _ _ _ _) ?_) | (go_at_call 57; refine (Signbit_any f hf hn _).mono ?_; rintro e w' ⟨rfl, rfl⟩))
        go_ret
        exact ⟨by rw [HV.out]; rfl, bthen B1.out B2.out⟩

set_option maxHeartbeats 4000000 in
theorem ValidAct_6 (a b c : Int) (f : Nat) (hf : f < 4294967296) (w : World) :
    Calls Try.prog 17 #[.agg (ac 6 a b c f)] w fun e w' => e = .returned (.bool (vVA 6 a b c f)) ∧ Below w.heap.size w w' := by
  have A0 := At.new w (ac 6 a b c f) 45
  have B0 := Lib.hid (b0 w (.cells (ac 6 a b c f) 45))
  have HVV := Lib.hid (show vVA 6 a b c f = (okA true a && (okA false b && (okA false c && okF false f))) from rfl)
  obtain ⟨okj, hj⟩ : ∃ g : Nat → Bool, g = fun j => if j = 0 then okA true a else if j = 1 then okA false b else okA false c := ⟨_, rfl⟩
  have HJ := Lib.hid hj
  clear hj
  have KF := actForms_any
  go_enter Try.func17, Try.ntmps17
  go_wp2_with (first | ((with_reducible refine is_load 2 _ rfl ?_); refine wpList_load_cell rfl 2 _ rfl _ 0 rfl (ac 6 a b c f) _ (by with_reducible assumption) _ Try.underlying2 rfl (.int .i64 6) (ac_0 _ _ _ _ _) ?_) | ((with_reducible refine is_load 2 _ rfl ?_); refine wpList_load_cell_g rfl 2 _ rfl _ 0 rfl (ac 6 a b c f) _ (by with_reducible assumption) _ Try.underlying2 rfl (.int .i64 6) (ac_0 _ _ _ _ _) ?_))
  generalize w.alloc (.cells (ac 6 a b c f) 45) = w1 at A0 B0 ⊢
  refine wp_region_held (S := fun w' => Below w1.heap.size w1 w') (by kernel_rfl) ?_
  show wpAnyH _ _ _ _ _ 6 (Array.replicate 6 false) _ _
  have S0 : Below w1.heap.size w1 { w1 with drawn := w1.drawn + 1 } := bdrew (Below.refl _ w1) 1
  generalize hw0 : ({ w1 with drawn := w1.drawn + 1 } : World) = w2 at S0 ⊢
  clear hw0
  refine wpAnyH_take (i := 1) (v := .pointer (some ⟨w.heap.size, 0, none⟩)) rfl (by kernel_rfl) (by kernel_rfl) (by kernel_rfl) (fun _ _ _ h => h) (yif rfl fun w2 hw2 => by kernel_rfl) (by assumption) ?_
  refine wpAnyH_take (i := 2) (v := .int .i64 6) rfl (by kernel_rfl) (by kernel_rfl) (by kernel_rfl) (fun _ _ _ h => h) (yif rfl fun w' hw' => x_load 2 (.tmp 16) rfl ⟨w.heap.size, 0, none⟩ (by kernel_rfl) (run_load_one w' 2 _ Try.underlying2 rfl _ _ ((A0.step hw').cell (ac_0 _ _ _ _ _)))) (by assumption) ?_
  refine wpAnyH_call (j := 0) (f := 54) (args := #[]) (by kernel_rfl) rfl (by kernel_rfl) (by kernel_rfl) ((KF w2).mono ?_)
  rintro e w3 ⟨rfl, hb3⟩
  have S1 := bthen S0 hb3
  refine ⟨_, rfl, S1, ?_⟩
  refine wpAnyH_take (i := 3) (v := .agg #[.string ⟨#[119, 97, 105, 116, 32, 65]⟩, .func (Fn.func 96) #[] #[]]) rfl (by kernel_rfl) (by kernel_rfl) (by kernel_rfl) (fun _ _ _ h => h) (yif rfl fun w2 hw2 => by kernel_rfl) (by assumption) ?_
  refine wpAnyH_take (i := 4) (v := .string ⟨#[119, 97, 105, 116, 32, 65]⟩) rfl (by kernel_rfl) (by kernel_rfl) (by kernel_rfl) (fun _ _ _ h => h) (yif rfl fun w2 hw2 => by kernel_rfl) (by assumption) ?_
  refine wpAnyH_take (i := 5) (v := .string ⟨#[119, 97, 105, 116, 32, 65]⟩) rfl (by kernel_rfl) (by kernel_rfl) (by kernel_rfl) (fun _ _ _ h => h) (yif rfl fun w2 hw2 => by kernel_rfl) (by assumption) ?_
  refine wpAnyH_done (by kernel_rfl) ?_ _
  have A1 := A0.step S1
  have B1 := Lib.hid (bthen B0.out S1)
  have HA := Lib.hid A1
  clear A0 B0 S0 S1 hb3 KF A1
  go_simp
  go_wp2_with fail
  go_loopw [21] (fun v wr => ∃ i : Nat, i ≤ 3 ∧ v = .int .i64 (i : Int) ∧ Hid (∀ j, j < i → okj j = true) ∧ Hid (Below w3.heap.size w3 wr)) (fun v _ => 3 - (intOf v).toNat)
  case atStart => exact ⟨0, by omega, rfl, Lib.hid (fun j hj => by omega), Lib.hid (Below.refl _ _)⟩
  case round =>
    obtain ⟨i, hi, rfl, hall, B2⟩ := hrel
    have A2 := HA.out.step B2.out
    rcases (by omega : i = 0 ∨ i = 1 ∨ i = 2 ∨ i = 3) with rfl | rfl | rfl | rfl
    · skip
      by_cases c1 : a < 0
      · have q : okA true a = false := by unfold okA inB; rw [decide_eq_false (show ¬ (0 ≤ a ∧ a ≤ 999) by omega)]; rfl
        have HV := Lib.hid (show vVA 6 a b c f = false from by rw [HVV.out]; exact and_n1 (q))
        clear hall HVV
        go_wp2_with (first | ((with_reducible refine is_idx 104 _ _ rfl ?_); refine wpList_idx rfl 104 _ _ rfl (.agg #[.string ⟨#[65]⟩, .string ⟨#[66]⟩, .string ⟨#[67]⟩]) (.int .i64 0) rfl rfl (v := .string ⟨#[65]⟩) (by kernel_rfl) ?_) | (go_at_call 55; refine (partOf_A _ _).mono ?_; rintro e w' ⟨rfl, rfl⟩) | ((with_reducible refine is_load 2 _ rfl ?_); refine wpList_load_cell rfl 2 _ rfl _ 1 rfl (ac 6 a b c f) _ (by with_reducible assumption) _ Try.underlying2 rfl (.int .i64 a) (ac_1 _ _ _ _ _) ?_) | (go_at_call 56; refine (cont_6A _).mono ?_; rintro e w' ⟨rfl, rfl⟩))
        go_ret
        exact ⟨by rw [HV.out]; rfl, bthen B1.out B2.out⟩
      · by_cases c2 : a > 999
        · have q : okA true a = false := by unfold okA inB; rw [decide_eq_false (show ¬ (0 ≤ a ∧ a ≤ 999) by omega)]; rfl
          have HV := Lib.hid (show vVA 6 a b c f = false from by rw [HVV.out]; exact and_n1 (q))
          clear hall HVV
          go_wp2_with (first | ((with_reducible refine is_idx 104 _ _ rfl ?_); refine wpList_idx rfl 104 _ _ rfl (.agg #[.string ⟨#[65]⟩, .string ⟨#[66]⟩, .string ⟨#[67]⟩]) (.int .i64 0) rfl rfl (v := .string ⟨#[65]⟩) (by kernel_rfl) ?_) | (go_at_call 55; refine (partOf_A _ _).mono ?_; rintro e w' ⟨rfl, rfl⟩) | ((with_reducible refine is_load 2 _ rfl ?_); refine wpList_load_cell rfl 2 _ rfl _ 1 rfl (ac 6 a b c f) _ (by with_reducible assumption) _ Try.underlying2 rfl (.int .i64 a) (ac_1 _ _ _ _ _) ?_) | (go_at_call 56; refine (cont_6A _).mono ?_; rintro e w' ⟨rfl, rfl⟩))
          go_ret
          exact ⟨by rw [HV.out]; rfl, bthen B1.out B2.out⟩
        · by_cases c3 : a = 0
          · have q : okA true a = true := by unfold okA inB; rw [decide_eq_true (show (0 ≤ a ∧ a ≤ 999) by omega)]; rw [decide_eq_true c3]; rfl
            have q : okj 0 = true := by rw [HJ.out]; exact q
            have hall2 := Lib.hid (show ∀ j, j < 1 → okj j = true from fun i hi => by rcases (by omega : i = 0 ∨ i < 0) with rfl | hi; exact q; exact hall.out i hi)
            clear hall
            have z1 : (a != 0) = false := by simpa using c3
            clear c3
            go_wp2_with (first | ((with_reducible refine is_idx 104 _ _ rfl ?_); refine wpList_idx rfl 104 _ _ rfl (.agg #[.string ⟨#[65]⟩, .string ⟨#[66]⟩, .string ⟨#[67]⟩]) (.int .i64 0) rfl rfl (v := .string ⟨#[65]⟩) (by kernel_rfl) ?_) | (go_at_call 55; refine (partOf_A _ _).mono ?_; rintro e w' ⟨rfl, rfl⟩) | ((with_reducible refine is_load 2 _ rfl ?_); refine wpList_load_cell rfl 2 _ rfl _ 1 rfl (ac 6 a b c f) _ (by with_reducible assumption) _ Try.underlying2 rfl (.int .i64 a) (ac_1 _ _ _ _ _) ?_) | (go_at_call 56; refine (cont_6A _).mono ?_; rintro e w' ⟨rfl, rfl⟩))
            exact ⟨⟨1, by omega, rfl, hall2, B2⟩, by simp [intOf]⟩
          · have q : okA true a = true := by unfold okA inB; rw [decide_eq_true (show (0 ≤ a ∧ a ≤ 999) by omega)]; simp
            have q : okj 0 = true := by rw [HJ.out]; exact q
            have hall2 := Lib.hid (show ∀ j, j < 1 → okj j = true from fun i hi => by rcases (by omega : i = 0 ∨ i < 0) with rfl | hi; exact q; exact hall.out i hi)
            clear hall
            have z1 : (a != 0) = true := by simpa using c3
            go_wp2_with (first | ((with_reducible refine is_idx 104 _ _ rfl ?_); refine wpList_idx rfl 104 _ _ rfl (.agg #[.string ⟨#[65]⟩, .string ⟨#[66]⟩, .string ⟨#[67]⟩]) (.int .i64 0) rfl rfl (v := .string ⟨#[65]⟩) (by kernel_rfl) ?_) | (go_at_call 55; refine (partOf_A _ _).mono ?_; rintro e w' ⟨rfl, rfl⟩) | ((with_reducible refine is_load 2 _ rfl ?_); refine wpList_load_cell rfl 2 _ rfl _ 1 rfl (ac 6 a b c f) _ (by with_reducible assumption) _ Try.underlying2 rfl (.int .i64 a) (ac_1 _ _ _ _ _) ?_) | (go_at_call 56; refine (cont_6A _).mono ?_; rintro e w' ⟨rfl, rfl⟩))
            exact ⟨⟨1, by omega, rfl, hall2, B2⟩, by simp [intOf]⟩
    · skip
      by_cases c1 : b < 0
      · have q : okA false b = false := by unfold okA inB; rw [decide_eq_false (show ¬ (0 ≤ b ∧ b ≤ 999) by omega)]; rfl
        have HV := Lib.hid (show vVA 6 a b c f = false from by rw [HVV.out]; exact and_n2 (q))
        clear hall HVV
        go_wp2_with (first | ((with_reducible refine is_idx 104 _ _ rfl ?_); refine wpList_idx rfl 104 _ _ rfl (.agg #[.string ⟨#[65]⟩, .string ⟨#[66]⟩, .string ⟨#[67]⟩]) (.int .i64 1) rfl rfl (v := .string ⟨#[66]⟩) (by kernel_rfl) ?_) | (go_at_call 55; refine (partOf_B _ _).mono ?_; rintro e w' ⟨rfl, rfl⟩) | ((with_reducible refine is_load 2 _ rfl ?_); refine wpList_load_cell rfl 2 _ rfl _ 2 rfl (ac 6 a b c f) _ (by with_reducible assumption) _ Try.underlying2 rfl (.int .i64 b) (ac_2 _ _ _ _ _) ?_) | (go_at_call 56; refine (cont_6B _).mono ?_; rintro e w' ⟨rfl, rfl⟩))
        go_ret
        exact ⟨by rw [HV.out]; rfl, bthen B1.out B2.out⟩
      · by_cases c2 : b > 999
        · have q : okA false b = false := by unfold okA inB; rw [decide_eq_false (show ¬ (0 ≤ b ∧ b ≤ 999) by omega)]; rfl
          have HV := Lib.hid (show vVA 6 a b c f = false from by rw [HVV.out]; exact and_n2 (q))
          clear hall HVV
          go_wp2_with (first | ((with_reducible refine is_idx 104 _ _ rfl ?_); refine wpList_idx rfl 104 _ _ rfl (.agg #[.string ⟨#[65]⟩, .string ⟨#[66]⟩, .string ⟨#[67]⟩]) (.int .i64 1) rfl rfl (v := .string ⟨#[66]⟩) (by kernel_rfl) ?_) | (go_at_call 55; refine (partOf_B _ _).mono ?_; rintro e w' ⟨rfl, rfl⟩) | ((with_reducible refine is_load 2 _ rfl ?_); refine wpList_load_cell rfl 2 _ rfl _ 2 rfl (ac 6 a b c f) _ (by with_reducible assumption) _ Try.underlying2 rfl (.int .i64 b) (ac_2 _ _ _ _ _) ?_) | (go_at_call 56; refine (cont_6B _).mono ?_; rintro e w' ⟨rfl, rfl⟩))
          go_ret
          exact ⟨by rw [HV.out]; rfl, bthen B1.out B2.out⟩
        · by_cases c3 : b = 0
          · have q : okA false b = true := by unfold okA inB; rw [decide_eq_true (show (0 ≤ b ∧ b ≤ 999) by omega)]; rw [decide_eq_true c3]; rfl
            have q : okj 1 = true := by rw [HJ.out]; exact q
            have hall2 := Lib.hid (show ∀ j, j < 2 → okj j = true from fun i hi => by rcases (by omega : i = 1 ∨ i < 1) with rfl | hi; exact q; exact hall.out i hi)
            clear hall
            have z1 : (b != 0) = false := by simpa using c3
            clear c3
            go_wp2_with (first | ((with_reducible refine is_idx 104 _ _ rfl ?_); refine wpList_idx rfl 104 _ _ rfl (.agg #[.string ⟨#[65]⟩, .string ⟨#[66]⟩, .string ⟨#[67]⟩]) (.int .i64 1) rfl rfl (v := .string ⟨#[66]⟩) (by kernel_rfl) ?_) | (go_at_call 55; refine (partOf_B _ _).mono ?_; rintro e w' ⟨rfl, rfl⟩) | ((with_reducible refine is_load 2 _ rfl ?_); refine wpList_load_cell rfl 2 _ rfl _ 2 rfl (ac 6 a b c f) _ (by with_reducible assumption) _ Try.underlying2 rfl (.int .i64 b) (ac_2 _ _ _ _ _) ?_) | (go_at_call 56; refine (cont_6B _).mono ?_; rintro e w' ⟨rfl, rfl⟩))
            exact ⟨⟨2, by omega, rfl, hall2, B2⟩, by simp [intOf]⟩
          · have q : okA false b = false := by unfold okA; rw [decide_eq_false c3]; simp
            have z1 : (b != 0) = true := by simpa using c3
            have HV := Lib.hid (show vVA 6 a b c f = false from by rw [HVV.out]; exact and_n2 (q))
            clear hall HVV
            go_wp2_with (first | ((with_reducible refine is_idx 104 _ _ rfl ?_); refine wpList_idx rfl 104 _ _ rfl (.agg #[.string ⟨#[65]⟩, .string ⟨#[66]⟩, .string ⟨#[67]⟩]) (.int .i64 1) rfl rfl (v := .string ⟨#[66]⟩) (by kernel_rfl) ?_) | (go_at_call 55; refine (partOf_B _ _).mono ?_; rintro e w' ⟨rfl, rfl⟩) | ((with_reducible refine is_load 2 _ rfl ?_); refine wpList_load_cell rfl 2 _ rfl _ 2 rfl (ac 6 a b c f) _ (by with_reducible assumption) _ Try.underlying2 rfl (.int .i64 b) (ac_2 _ _ _ _ _) ?_) | (go_at_call 56; refine (cont_6B _).mono ?_; rintro e w' ⟨rfl, rfl⟩))
            go_ret
            exact ⟨by rw [HV.out]; rfl, bthen B1.out B2.out⟩
    · skip
      by_cases c1 : c < 0
      · have q : okA false c = false := by unfold okA inB; rw [decide_eq_false (show ¬ (0 ≤ c ∧ c ≤ 999) by omega)]; rfl
        have HV := Lib.hid (show vVA 6 a b c f = false from by rw [HVV.out]; exact and_n3 (q))
        clear hall HVV
        go_wp2_with (first | ((with_reducible refine is_idx 104 _ _ rfl ?_); refine wpList_idx rfl 104 _ _ rfl (.agg #[.string ⟨#[65]⟩, .string ⟨#[66]⟩, .string ⟨#[67]⟩]) (.int .i64 2) rfl rfl (v := .string ⟨#[67]⟩) (by kernel_rfl) ?_) | (go_at_call 55; refine (partOf_C _ _).mono ?_; rintro e w' ⟨rfl, rfl⟩) | ((with_reducible refine is_load 2 _ rfl ?_); refine wpList_load_cell rfl 2 _ rfl _ 3 rfl (ac 6 a b c f) _ (by with_reducible assumption) _ Try.underlying2 rfl (.int .i64 c) (ac_3 _ _ _ _ _) ?_) | (go_at_call 56; refine (cont_6C _).mono ?_; rintro e w' ⟨rfl, rfl⟩))
        go_ret
        exact ⟨by rw [HV.out]; rfl, bthen B1.out B2.out⟩
      · by_cases c2 : c > 999
        · have q : okA false c = false := by unfold okA inB; rw [decide_eq_false (show ¬ (0 ≤ c ∧ c ≤ 999) by omega)]; rfl
          have HV := Lib.hid (show vVA 6 a b c f = false from by rw [HVV.out]; exact and_n3 (q))
          clear hall HVV
          go_wp2_with (first | ((with_reducible refine is_idx 104 _ _ rfl ?_); refine wpList_idx rfl 104 _ _ rfl (.agg #[.string ⟨#[65]⟩, .string ⟨#[66]⟩, .string ⟨#[67]⟩]) (.int .i64 2) rfl rfl (v := .string ⟨#[67]⟩) (by kernel_rfl) ?_) | (go_at_call 55; refine (partOf_C _ _).mono ?_; rintro e w' ⟨rfl, rfl⟩) | ((with_reducible refine is_load 2 _ rfl ?_); refine wpList_load_cell rfl 2 _ rfl _ 3 rfl (ac 6 a b c f) _ (by with_reducible assumption) _ Try.underlying2 rfl (.int .i64 c) (ac_3 _ _ _ _ _) ?_) | (go_at_call 56; refine (cont_6C _).mono ?_; rintro e w' ⟨rfl, rfl⟩))
          go_ret
          exact ⟨by rw [HV.out]; rfl, bthen B1.out B2.out⟩
        · by_cases c3 : c = 0
          · have q : okA false c = true := by unfold okA inB; rw [decide_eq_true (show (0 ≤ c ∧ c ≤ 999) by omega)]; rw [decide_eq_true c3]; rfl
            have q : okj 2 = true := by rw [HJ.out]; exact q
            have hall2 := Lib.hid (show ∀ j, j < 3 → okj j = true from fun i hi => by rcases (by omega : i = 2 ∨ i < 2) with rfl | hi; exact q; exact hall.out i hi)
            clear hall
            have z1 : (c != 0) = false := by simpa using c3
            clear c3
            go_wp2_with (first | ((with_reducible refine is_idx 104 _ _ rfl ?_); refine wpList_idx rfl 104 _ _ rfl (.agg #[.string ⟨#[65]⟩, .string ⟨#[66]⟩, .string ⟨#[67]⟩]) (.int .i64 2) rfl rfl (v := .string ⟨#[67]⟩) (by kernel_rfl) ?_) | (go_at_call 55; refine (partOf_C _ _).mono ?_; rintro e w' ⟨rfl, rfl⟩) | ((with_reducible refine is_load 2 _ rfl ?_); refine wpList_load_cell rfl 2 _ rfl _ 3 rfl (ac 6 a b c f) _ (by with_reducible assumption) _ Try.underlying2 rfl (.int .i64 c) (ac_3 _ _ _ _ _) ?_) | (go_at_call 56; refine (cont_6C _).mono ?_; rintro e w' ⟨rfl, rfl⟩))
            exact ⟨⟨3, by omega, rfl, hall2, B2⟩, by simp [intOf]⟩
          · have q : okA false c = false := by unfold okA; rw [decide_eq_false c3]; simp
            have z1 : (c != 0) = true := by simpa using c3
            have HV := Lib.hid (show vVA 6 a b c f = false from by rw [HVV.out]; exact and_n3 (q))
            clear hall HVV
            go_wp2_with (first | ((with_reducible refine is_idx 104 _ _ rfl ?_); refine wpList_idx rfl 104 _ _ rfl (.agg #[.string ⟨#[65]⟩, .string ⟨#[66]⟩, .string ⟨#[67]⟩]) (.int .i64 2) rfl rfl (v := .string ⟨#[67]⟩) (by kernel_rfl) ?_) | (go_at_call 55; refine (partOf_C _ _).mono ?_; rintro e w' ⟨rfl, rfl⟩) | ((with_reducible refine is_load 2 _ rfl ?_); refine wpList_load_cell rfl 2 _ rfl _ 3 rfl (ac 6 a b c f) _ (by with_reducible assumption) _ Try.underlying2 rfl (.int .i64 c) (ac_3 _ _ _ _ _) ?_) | (go_at_call 56; refine (cont_6C _).mono ?_; rintro e w' ⟨rfl, rfl⟩))
            go_ret
            exact ⟨by rw [HV.out]; rfl, bthen B1.out B2.out⟩
    · have q0 : okA true a = true := by have := hall.out 0 (by omega); rw [HJ.out] at this; exact this
      have q1 : okA false b = true := by have := hall.out 1 (by omega); rw [HJ.out] at this; exact this
      have q2 : okA false c = true := by have := hall.out 2 (by omega); rw [HJ.out] at this; exact this
      have HV := Lib.hid (show vVA 6 a b c f = okF false f from by rw [HVV.out, q0, q1, q2]; rfl)
      have hnil : (FloatKind.f32.format.order f 0 == some .eq) = nilW f := rfl
      have hni := nilW_iff hf
      clear hall q0 q1 q2 HVV HJ
      have hof : okF false f = if nilW f then !decide (2147483648 ≤ f) else finB f && false := rfl
      cases hz : nilW f
      · rw [hz] at hnil hof
        have KI := fun w' => isFinite_any f hf w'
        have hof : okF false f = (finB f && false) := hof
        cases hfin : finB f
        · rw [hfin] at KI hof
          have HV := Lib.hid (HV.out.trans hof)
          clear hof hni hz
          go_wp2_with (first | ((with_reducible refine is_load 26 _ rfl ?_); refine wpList_load_cell rfl 26 _ rfl _ 4 rfl (ac 6 a b c f) _ (by with_reducible assumption) _ Try.underlying26 rfl (.float .f32 f) (ac_4 _ _ _ _ _) ?_) | (go_at_call 58; refine (KI _).mono ?_; rintro e w' ⟨rfl, n9, rfl⟩))
          go_ret
          exact ⟨by rw [HV.out]; rfl, bdrew (bthen B1.out B2.out) _⟩
        · rw [hfin] at KI hof
          have HV := Lib.hid (HV.out.trans hof)
          clear hof hni hz
          go_wp2_with (first | ((with_reducible refine is_load 26 _ rfl ?_); refine wpList_load_cell rfl 26 _ rfl _ 4 rfl (ac 6 a b c f) _ (by with_reducible assumption) _ Try.underlying26 rfl (.float .f32 f) (ac_4 _ _ _ _ _) ?_) | (go_at_call 58; refine (KI _).mono ?_; rintro e w' ⟨rfl, n9, rfl⟩) | (go_at_call 56; refine (cont_6F _).mono ?_; rintro e w' ⟨rfl, rfl⟩))
          go_ret
          exact ⟨by rw [HV.out]; rfl, bdrew (bthen B1.out B2.out) _⟩
      · rw [hz] at hnil hof hni
        have hf2 : f = 0 ∨ f = 2147483648 := of_decide_eq_true hni.symm
        have hn : nanB f = false := by rcases hf2 with rfl | rfl <;> decide
        have hw := wide_at hf hn
        have hof : okF false f = (!decide (2147483648 ≤ f)) := hof
        have HV := Lib.hid (HV.out.trans hof)
        clear hof hni hz hf2
        go_wp2_with (first | ((with_reducible refine is_load 26 _ rfl ?_); refine wpList_load_cell rfl 26 _ rfl _ 4 rfl (ac 6 a b c f) _ (by with_reducible assumption) _ Try.underlying26 rfl (.float .f32 f) (ac_4 _ _ _ _ _) ?_) | (go_at_call 57; refine (Signbit_any f hf hn _).mono ?_; rintro e w' ⟨rfl, rfl⟩))
        go_ret
        exact ⟨by rw [HV.out]; rfl, bthen B1.out B2.out⟩

set_option maxHeartbeats 1000000 in
theorem ValidAct_any (k a b c : Int) (f : Nat) (hf : f < 4294967296) (w : World) :
    Calls Try.prog 17 #[.agg (ac k a b c f)] w fun e w' => e = .returned (.bool (vVA k a b c f)) ∧ Below w.heap.size w w' := by
  by_cases h : 1 ≤ k ∧ k ≤ 6
  · rcases k_six h with rfl | rfl | rfl | rfl | rfl | rfl
    · exact ValidAct_1 a b c f hf w
    · exact ValidAct_2 a b c f hf w
    · exact ValidAct_3 a b c f hf w
    · exact ValidAct_4 a b c f hf w
    · exact ValidAct_5 a b c f hf w
    · exact ValidAct_6 a b c f hf w
  · rw [vVA_k a b c f h]
    have A0 := At.new w (ac k a b c f) 45
    have B0 := Lib.hid (b0 w (.cells (ac k a b c f) 45))
    by_cases h1 : k < 1
    · go_enter Try.func17, Try.ntmps17
      go_wp2_with (first | ((with_reducible refine is_load 2 _ rfl ?_); refine wpList_load_cell rfl 2 _ rfl _ 0 rfl (ac k a b c f) _ (by with_reducible assumption) _ Try.underlying2 rfl (.int .i64 k) (ac_0 _ _ _ _ _) ?_) | ((with_reducible refine is_load 2 _ rfl ?_); refine wpList_load_cell_g rfl 2 _ rfl _ 0 rfl (ac k a b c f) _ (by with_reducible assumption) _ Try.underlying2 rfl (.int .i64 k) (ac_0 _ _ _ _ _) ?_))
      go_ret
      exact ⟨rfl, B0.out⟩
    · have h2 : k > 6 := by omega
      go_enter Try.func17, Try.ntmps17
      go_wp2_with (first | ((with_reducible refine is_load 2 _ rfl ?_); refine wpList_load_cell rfl 2 _ rfl _ 0 rfl (ac k a b c f) _ (by with_reducible assumption) _ Try.underlying2 rfl (.int .i64 k) (ac_0 _ _ _ _ _) ?_) | ((with_reducible refine is_load 2 _ rfl ?_); refine wpList_load_cell_g rfl 2 _ rfl _ 0 rfl (ac k a b c f) _ (by with_reducible assumption) _ Try.underlying2 rfl (.int .i64 k) (ac_0 _ _ _ _ _) ?_))
      go_ret
      exact ⟨rfl, B0.out⟩

end Go.Proofs.Ytboahhipobcabaa
