/-
  RampStep: its checks, what joins.
-/
import Derived.Test.YtchcikfjbpcalaaStep
import Derived.Test.YtchcikfjbpcalaaRes
import Derived.Test.YtchcikfjbpcalaaG5
namespace Go.Proofs.Ytchcikfjbpcalaa
open Go Go.RowKit
set_option maxRecDepth 100000

/-- the code of a road, a cell and three amounts -/
def rampC (ok : Bool) (k : Int) (o m j : Nat) : Int := if ok then (if 0 ≤ k ∧ k < 16 then amtC [o, m, j] else 2) else 1
theorem rampC_zero {ok : Bool} {k : Int} {o m j : Nat} (h : rampC ok k o m j = 0) : ok = true ∧ (0 ≤ k ∧ k < 16) ∧ o < 2139095040 ∧ m < 2139095040 ∧ j < 2139095040 := by
  unfold rampC at h
  cases ok
  · simp at h
  · by_cases c : 0 ≤ k ∧ k < 16
    · rw [if_pos rfl, if_pos c] at h
      refine ⟨rfl, c, ?_⟩
      unfold amtC at h
      cases c1 : [o, m, j].all amtB
      · rw [c1] at h; simp at h
      · simp [amtB] at c1; exact c1
    · rw [if_pos rfl, if_neg c] at h; simp at h
theorem rampChk_any (gr gk go gm gj : Nat) (cs : List Nat) (p b l : Nat) (hl : cs.length = 16) (hc : ∀ x ∈ cs, x < 4294967296) (hp : p < 4294967296) (hb : b < 4294967296) (hla : l < 4294967296) (k : Int) (hk : -9223372036854775808 ≤ k ∧ k ≤ 9223372036854775807) (o m j : Nat) (ho : o < 4294967296) (hm : m < 4294967296) (hj : j < 4294967296) (w : World) (Ar : At w gr (rd cs p b l) 28) (Ak : At w gk #[.int .i64 k] 2) (Ao : At w go #[.float .f32 o] 24) (Am : At w gm #[.float .f32 m] 24) (Aj : At w gj #[.float .f32 j] 24) :
    Calls Try.prog 20 #[.pointer (some ⟨gr, 0, none⟩), .pointer (some ⟨gk, 0, none⟩), .pointer (some ⟨go, 0, none⟩), .pointer (some ⟨gm, 0, none⟩), .pointer (some ⟨gj, 0, none⟩)] w fun e w' => Chk (rampC (okB cs p b l) k o m j) e ∧ Below w.heap.size w w' := by
  clear hk
  cases h : okB cs p b l
  · rw [show rampC false k o m j = 1 from rfl]
    go_enter Try.func20, Try.ntmps20
    go_wp2_with (((with_reducible refine is_load 28 _ rfl ?_); refine wpList_load_at rfl 28 _ rfl _ rfl (rd cs p b l) _ (by assumption) 19 (rd_size hl p b l) _ Try.underlying28 rfl (by kernel_rfl) ?_))
    have KV := ValidRoad_any cs p b l hl hc hp hb hla w
    rw [h] at KV
    refine KV.mono ?_
    rintro e w1 ⟨rfl, hb1⟩
    clear KV
    go_wp2_with fail
    refine (need_bad 1 w1).mono ?_
    rintro e w2 ⟨rfl, rfl⟩
    go_wp2
    exact ⟨rfl, .inr ⟨by decide, _, .inl rfl, rfl⟩, hb1⟩
  · by_cases c : 0 ≤ k ∧ k < 16
    · rw [show rampC true k o m j = amtC [o, m, j] from by unfold rampC; rw [if_pos rfl, if_pos c]]
      go_enter Try.func20, Try.ntmps20
      go_wp2_with (((with_reducible refine is_load 28 _ rfl ?_); refine wpList_load_at rfl 28 _ rfl _ rfl (rd cs p b l) _ (by assumption) 19 (rd_size hl p b l) _ Try.underlying28 rfl (by kernel_rfl) ?_))
      have KV := ValidRoad_any cs p b l hl hc hp hb hla w
      rw [h] at KV
      refine KV.mono ?_
      rintro e w1 ⟨rfl, hb1⟩
      clear KV
      have ck := (Ak.step hb1).cell (k := 0) (v := .int .i64 k) rfl
      have Ao1 := Ao.step hb1
      have Am1 := Am.step hb1
      have Aj1 := Aj.step hb1
      go_wp2_with fail
      refine (need_ok 1 w1).mono ?_
      rintro e w2 ⟨rfl, rfl⟩
      have KC := isCell_any k w2
      rw [decide_eq_true c] at KC
      clear c
      go_wp2_with fail
      refine KC.mono ?_
      rintro e w3 ⟨rfl, n3, rfl⟩
      clear KC
      go_wp2_with fail
      refine (need_ok 2 (w2.drewN n3)).mono ?_
      rintro e w4 ⟨rfl, rfl⟩
      have co : (w2.drewN n3).cell? ⟨go, 0, none⟩ = some (.float .f32 o) := Ao1.cell (k := 0) rfl
      have cm : (w2.drewN n3).cell? ⟨gm, 0, none⟩ = some (.float .f32 m) := Am1.cell (k := 0) rfl
      have cj : (w2.drewN n3).cell? ⟨gj, 0, none⟩ = some (.float .f32 j) := Aj1.cell (k := 0) rfl
      go_wp2_with fail
      refine (needNew_any [o, m, j] (by simp; exact ⟨ho, hm, hj⟩) (by simp) (w2.drewN n3) 24).mono ?_
      rintro e w5 ⟨⟨h0, rfl⟩ | ⟨h0, x, hx, rfl⟩, hb5⟩
      · go_wp2
        go_end0
        exact ⟨.inl ⟨h0, rfl⟩, bthen (bdrew hb1 _) hb5⟩
      · go_wp2
        exact ⟨rfl, .inr ⟨h0, x, hx, rfl⟩, bthen (bdrew hb1 _) hb5⟩
    · rw [show rampC true k o m j = 2 from by unfold rampC; rw [if_pos rfl, if_neg c]]
      go_enter Try.func20, Try.ntmps20
      go_wp2_with (((with_reducible refine is_load 28 _ rfl ?_); refine wpList_load_at rfl 28 _ rfl _ rfl (rd cs p b l) _ (by assumption) 19 (rd_size hl p b l) _ Try.underlying28 rfl (by kernel_rfl) ?_))
      have KV := ValidRoad_any cs p b l hl hc hp hb hla w
      rw [h] at KV
      refine KV.mono ?_
      rintro e w1 ⟨rfl, hb1⟩
      clear KV
      have ck := (Ak.step hb1).cell (k := 0) (v := .int .i64 k) rfl
      have Ao1 := Ao.step hb1
      have Am1 := Am.step hb1
      have Aj1 := Aj.step hb1
      go_wp2_with fail
      refine (need_ok 1 w1).mono ?_
      rintro e w2 ⟨rfl, rfl⟩
      have KC := isCell_any k w2
      rw [decide_eq_false c] at KC
      clear c
      go_wp2_with fail
      refine KC.mono ?_
      rintro e w3 ⟨rfl, n3, rfl⟩
      clear KC
      go_wp2_with fail
      refine (need_bad 2 (w2.drewN n3)).mono ?_
      rintro e w4 ⟨rfl, rfl⟩
      go_wp2
      exact ⟨rfl, .inr ⟨by decide, _, .inl rfl, rfl⟩, bdrew hb1 _⟩

/-- what joins -/
def joinW (p b : Nat) (cs : List Nat) (o m j k : Nat) : Nat := min j (posB (difB (takesW p b (nth cs k)) (nth (fluxL p b cs o m) k)))
/-- the flows into the cells, with what joins -/
def rampIn (p b : Nat) (cs : List Nat) (o m j k : Nat) : List Nat := (intoL (fluxL p b cs o m)).set k (addB (nth (intoL (fluxL p b cs o m)) k) (joinW p b cs o m j k))
theorem rampIn_len (p b : Nat) (cs : List Nat) (o m j k : Nat) : (rampIn p b cs o m j k).length = 16 := by unfold rampIn; rw [List.length_set]; exact intoL_len (fluxL_len _ _ _ _ _)
theorem ramp_facts {cs : List Nat} {p b l : Nat} (ok : OkR cs p b l) (o m : Nat) {j : Nat} (hj : j < 2139095040) {k : Nat} (hk : k < 16) :
    floatBits .sub .f32 (takesW p b (nth cs k)) (nth (fluxL p b cs o m) k) = some (difB (takesW p b (nth cs k)) (nth (fluxL p b cs o m) k)) ∧ Fin (difB (takesW p b (nth cs k)) (nth (fluxL p b cs o m) k)) ∧
    posB (minS j (difB (takesW p b (nth cs k)) (nth (fluxL p b cs o m) k))) = joinW p b cs o m j k ∧ joinW p b cs o m j k ≤ 1065353216 ∧
    floatBits .add .f32 (nth (intoL (fluxL p b cs o m)) k) (joinW p b cs o m j k) = some (addB (nth (intoL (fluxL p b cs o m)) k) (joinW p b cs o m j k)) ∧ addB (nth (intoL (fluxL p b cs o m)) k) (joinW p b cs o m j k) ≤ 1073741824 ∧
    (∀ x ∈ rampIn p b cs o m j k, x ≤ 1073741824) := by
  have h1 := takesW_le (a := nth cs k) ok.pace ok.back
  have h2 := nth_le (fluxL_le ok o m) k
  have h3 := nth_le (fluxL_le ok o m)
  have d1 := dif_fin (show takesW p b (nth cs k) < 2139095040 by omega) (show nth (fluxL p b cs o m) k < 2139095040 by omega)
  have d2 := posB_dif (show takesW p b (nth cs k) < 2139095040 by omega) (show nth (fluxL p b cs o m) k < 2139095040 by omega)
  have h4 : joinW p b cs o m j k ≤ 1065353216 := by unfold joinW; exact Nat.le_trans (Nat.min_le_right _ _) (Nat.le_trans d2 h1)
  have h5 : nth (intoL (fluxL p b cs o m)) k ≤ 1065353216 := by rw [intoL_nth _ hk]; exact h2
  have a1 := (add_eq (show nth (intoL (fluxL p b cs o m)) k < 2139095040 by omega) (show joinW p b cs o m j k < 2139095040 by omega)).1
  have a2 : addB (nth (intoL (fluxL p b cs o m)) k) (joinW p b cs o m j k) ≤ 1073741824 := by
    refine add_le (by omega) (by omega) ?_
    have e1 := rv_le (p := 23) h5
    have e2 := rv_le (p := 23) h4
    have e3 : rv 23 1065353216 + rv 23 1065353216 = rv 23 1073741824 := by decide
    omega
  refine ⟨dif_eq (by omega) (by omega), d1, minS_pos hj d1, h4, a1, a2, fun x hx => ?_⟩
  unfold rampIn at hx
  rcases List.mem_or_eq_of_mem_set hx with h | rfl
  · unfold intoL at h
    have := fluxL_le ok o m x (List.mem_of_mem_take (List.mem_of_mem_drop h))
    omega
  · exact a2
theorem outL_le {cs : List Nat} {p b l : Nat} (ok : OkR cs p b l) (o m : Nat) : ∀ x ∈ outL (fluxL p b cs o m), x ≤ 1065353216 := fun x hx => by
  unfold outL at hx
  exact fluxL_le ok o m x (List.mem_of_mem_take (List.mem_of_mem_drop hx))
theorem intoL_le {cs : List Nat} {p b l : Nat} (ok : OkR cs p b l) (o m : Nat) : ∀ x ∈ intoL (fluxL p b cs o m), x ≤ 1065353216 := fun x hx => by
  unfold intoL at hx
  exact fluxL_le ok o m x (List.mem_of_mem_take (List.mem_of_mem_drop hx))
end Go.Proofs.Ytchcikfjbpcalaa
