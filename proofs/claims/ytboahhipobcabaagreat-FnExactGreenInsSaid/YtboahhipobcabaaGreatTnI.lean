/-
  CONTRACTS: valid towns, the program: roads, plans.
-/
import Derived.Test.YtboahhipobcabaaGreatTn
import Derived.Test.YtboahhipobcabaaGreatVPlanI
import Derived.Test.YtboahhipobcabaaGreatG17
namespace Go.Proofs.YtboahhipobcabaaGreat
open Go Go.ChangeShapes Go.WideShapes Go.ChangeAt Go.RowKit
set_option maxRecDepth 100000

/-- all up to a number -/
def allN (f : Nat → Bool) : Nat → Bool
  | 0 => true
  | k + 1 => allN f k && f k

theorem allN_at {f : Nat → Bool} {n k : Nat} (hk : k < n) (h : f k = false) : allN f n = false := by
  induction n with
  | zero => omega
  | succ n ih =>
    show (_ && _) = _
    by_cases c : k = n
    · subst c; rw [h, Bool.and_false]
    · rw [ih (by omega)]; rfl

theorem allN_next {f : Nat → Bool} {k : Nat} (h : allN f k = true) (h2 : f k = true) : allN f (k + 1) = true := by show (_ && _) = _; rw [h, h2]; rfl

theorem allN_iff {f : Nat → Bool} : ∀ {n : Nat}, allN f n = true ↔ ∀ k, k < n → f k = true
  | 0 => ⟨fun _ k h => by omega, fun _ => rfl⟩
  | n + 1 => by
    show (_ && _) = _ ↔ _
    rw [Bool.and_eq_true, allN_iff (n := n)]
    exact ⟨fun h k hk => by
      by_cases c : k = n
      · subst c; exact h.2
      · exact h.1 k (by omega), fun h => ⟨fun k hk => h k (by omega), h n (by omega)⟩⟩

def okR (r : Rd4) : Bool := okB r.cs r.p r.b r.l
def okJt (j : Jt) : Bool := okJ j.i j.o j.ts j.ps

set_option maxHeartbeats 1000000 in
theorem areRoads_own (gr : Nat) (rs : List Rd4) (hn : rs.length ≤ 1048576) (T : TypeId) (w : World) (h : At w gr (fm rdr rs) T) :
    Calls Tryz.prog 126 #[slN gr rs.length] w fun e w' => e = .returned (.bool (allN (fun k => okR (fe zR rs k)) rs.length)) ∧ Below w.heap.size w w' := by
  unfold slN
  have HX := Lib.hid h
  obtain ⟨n, hnn⟩ : ∃ n, n = rs.length := ⟨_, rfl⟩
  obtain ⟨f, hf⟩ : ∃ f, f = fun k => okR (fe zR rs k) := ⟨_, rfl⟩
  rw [← hnn, ← hf]
  rw [← hnn] at hn
  have HN := Lib.hid hnn
  have HF := Lib.hid hf
  clear hnn h hf
  go_enter Tryz.func126, Tryz.ntmps126
  go_wp2
  go_loopw [7] (fun i wr => ∃ k : Nat, k ≤ n ∧ i = .int .i64 (k : Int) ∧ Hid (Below w.heap.size w wr) ∧ Hid (allN f k = true)) (fun i _ => n - (intOf i).toNat)
  case atStart => exact ⟨0, by omega, rfl, Lib.hid (Below.refl _ _), Lib.hid rfl⟩
  case round =>
    obtain ⟨k, hk, rfl, B1, hok⟩ := hrel
    by_cases hlt : k < n
    · have s2 : IntKind.i64.wrap ((k : Int) + 1) = (k : Int) + 1 := IntWalk.i64_in _ (by omega)
      have kd : (k : Int) < (n : Int) := by omega
      have A1 := HX.out.step B1.out
      have hsl := fm_at (d := zR) (k := k * 19) rdr_size (xs := rs) (i := k) (by rw [← HN.out]; exact hlt) rfl
      have hle : k * 19 + 19 ≤ (fm rdr rs).size := by rw [fm_size rdr_size, ← HN.out]; omega
      have hfk : f k = okR (fe zR rs k) := by rw [HF.out]
      obtain ⟨r, hr⟩ : ∃ r, r = fe zR rs k := ⟨_, rfl⟩
      rw [← hr] at hsl hfk
      have KT := fun w' => ValidRoad_any r.cs r.p r.b r.l r.hl r.hc r.hp r.hb r.hla w'
      change ∀ w', Calls Tryz.prog 52 #[.agg (rdr r)] w' (fun e w'' => e = .returned (.bool (okR r)) ∧ _) at KT
      rw [← hfk] at KT
      have N0 := At.new wr (#[.float .f32 0, .float .f32 0, .float .f32 0, .float .f32 0, .float .f32 0, .float .f32 0, .float .f32 0, .float .f32 0, .float .f32 0, .float .f32 0, .float .f32 0, .float .f32 0, .float .f32 0, .float .f32 0, .float .f32 0, .float .f32 0, .float .f32 0, .float .f32 0, .float .f32 0]) 64
      have N1 := N0.setRow (rdr r)
      have B2 := Lib.hid (bset (bnew B1.out (.cells (#[.float .f32 0, .float .f32 0, .float .f32 0, .float .f32 0, .float .f32 0, .float .f32 0, .float .f32 0, .float .f32 0, .float .f32 0, .float .f32 0, .float .f32 0, .float .f32 0, .float .f32 0, .float .f32 0, .float .f32 0, .float .f32 0, .float .f32 0, .float .f32 0, .float .f32 0]) 64)) (g := wr.heap.size) B1.out.size (rdr r))
      clear hr B1 hfk
      have ARM : True := trivial
      by_cases hb : f k = true
      · rw [hb] at KT
        have hv := Lib.hid (allN_next hok.out hb)
        clear hok hb
        go_wp2_with (first | ((with_reducible refine is_load 64 _ rfl ?_); refine wpList_load_part rfl 64 _ rfl _ (k * 19) rfl (fm rdr rs) _ (by with_reducible assumption) 19 hle _ Tryz.underlying64 rfl (by kernel_rfl) (rdr r) hsl ?_) | ((with_reducible refine is_store 64 _ _ rfl ?_); refine wpList_store_at rfl 64 _ _ rfl _ rfl (rdr r) rfl (#[.float .f32 0, .float .f32 0, .float .f32 0, .float .f32 0, .float .f32 0, .float .f32 0, .float .f32 0, .float .f32 0, .float .f32 0, .float .f32 0, .float .f32 0, .float .f32 0, .float .f32 0, .float .f32 0, .float .f32 0, .float .f32 0, .float .f32 0, .float .f32 0, .float .f32 0]) _ (by with_reducible assumption) 19 (rdr_size _) rfl (by kernel_rfl) (rdr_one _) ?_) | ((with_reducible refine is_load 64 _ rfl ?_); refine wpList_load_at rfl 64 _ rfl _ rfl (rdr r) _ (by with_reducible assumption) 19 (rdr_size _) _ Tryz.underlying64 rfl (by kernel_rfl) ?_))
        refine (KT _).mono ?_
        rintro e w3 ⟨rfl, hb3⟩
        have B3 := Lib.hid (bthen B2.out hb3)
        clear N0 N1 A1 B2 hsl hle KT hb3
        go_wp2_with fail
        exact ⟨⟨k + 1, by omega, by go_num, B3, hv⟩, by simp [intOf]; omega⟩
      · have hb : f k = false := by simpa using hb
        rw [hb] at KT
        have hv := Lib.hid (allN_at hlt hb)
        clear hok hb
        go_wp2_with (first | ((with_reducible refine is_load 64 _ rfl ?_); refine wpList_load_part rfl 64 _ rfl _ (k * 19) rfl (fm rdr rs) _ (by with_reducible assumption) 19 hle _ Tryz.underlying64 rfl (by kernel_rfl) (rdr r) hsl ?_) | ((with_reducible refine is_store 64 _ _ rfl ?_); refine wpList_store_at rfl 64 _ _ rfl _ rfl (rdr r) rfl (#[.float .f32 0, .float .f32 0, .float .f32 0, .float .f32 0, .float .f32 0, .float .f32 0, .float .f32 0, .float .f32 0, .float .f32 0, .float .f32 0, .float .f32 0, .float .f32 0, .float .f32 0, .float .f32 0, .float .f32 0, .float .f32 0, .float .f32 0, .float .f32 0, .float .f32 0]) _ (by with_reducible assumption) 19 (rdr_size _) rfl (by kernel_rfl) (rdr_one _) ?_) | ((with_reducible refine is_load 64 _ rfl ?_); refine wpList_load_at rfl 64 _ rfl _ rfl (rdr r) _ (by with_reducible assumption) 19 (rdr_size _) _ Tryz.underlying64 rfl (by kernel_rfl) ?_))
        refine (KT _).mono ?_
        rintro e w3 ⟨rfl, hb3⟩
        have B3 := Lib.hid (bthen B2.out hb3)
        clear N0 N1 A1 B2 hsl hle KT hb3
        go_wp2_with fail
        go_ret
        exact ⟨by rw [hv.out]; rfl, B3.out⟩
    · obtain rfl : n = k := by omega
      go_wp2_with fail
      go_ret
      exact ⟨by rw [hok.out]; rfl, B1.out⟩

def okPk (ps : Ps) (k : Nat) : Bool := okP (pS ps k) (pB ps k) (pO ps k)

set_option maxHeartbeats 1000000 in
theorem arePlans_own (gp : Nat) (gs : Nat → Nat) (ps : Ps) (hn : ps.length ≤ 1048576) (hW : ∀ i, i < ps.length → SlW (pS ps i)) (T : TypeId) (w : World) (h : At w gp (pvC (pvs gs ps ps.length ps.length)) T) (hk0 : PkOk w gp gs ps) :
    Calls Tryz.prog 79 #[slN gp ps.length] w fun e w' => e = .returned (.bool (decide (ps.length ≤ 6) && allN (okPk ps) ps.length)) ∧ Below w.heap.size w w' := by
  unfold slN
  have HX := Lib.hid (And.intro h (And.intro hk0 hW))
  obtain ⟨n, hnn⟩ : ∃ n, n = ps.length := ⟨_, rfl⟩
  obtain ⟨R, hR⟩ : ∃ R, R = pvC (pvs gs ps ps.length ps.length) := ⟨_, rfl⟩
  obtain ⟨f, hf⟩ : ∃ f, f = okPk ps := ⟨_, rfl⟩
  rw [← hnn, ← hf]
  rw [← hnn] at hn
  have HN := Lib.hid hnn
  have HF := Lib.hid hf
  have HR := Lib.hid hR
  clear hnn h hf hR hk0 hW
  by_cases h6 : n ≤ 6
  · have h7 : ¬ (n : Int) > 6 := by omega
    rw [decide_eq_true h6, Bool.true_and]
    go_enter Tryz.func79, Tryz.ntmps79
    go_wp2
    go_loopw [10] (fun i wr => ∃ k : Nat, k ≤ n ∧ i = .int .i64 (k : Int) ∧ Hid (Below w.heap.size w wr) ∧ Hid (allN f k = true)) (fun i _ => n - (intOf i).toNat)
    case atStart => exact ⟨0, by omega, rfl, Lib.hid (Below.refl _ _), Lib.hid rfl⟩
    case round =>
      obtain ⟨k, hk, rfl, B1, hok⟩ := hrel
      by_cases hlt : k < n
      · have s2 : IntKind.i64.wrap ((k : Int) + 1) = (k : Int) + 1 := IntWalk.i64_in _ (by omega)
        have kd : (k : Int) < (n : Int) := by omega
        have hkl : k < ps.length := by rw [← HN.out]; exact hlt
        have A1 := HX.out.1.step B1.out
        have G1 := (HX.out.2.1 k hkl).1.step B1.out
        have hw := HX.out.2.2 k hkl
        have hsl := pvC_at (k := k * 3) (l := pvs gs ps ps.length ps.length) (i := k) (by rw [pvs_len]; exact hkl) (pvs_at hkl hkl) rfl
        have hle : k * 3 + 3 ≤ (pvC (pvs gs ps ps.length ps.length)).size := by rw [pvC_size, pvs_len, ← HN.out]; omega
        rw [← HR.out] at A1 hsl hle
        have hfk : f k = okP (pS ps k) (pB ps k) (pO ps k) := by rw [HF.out]; rfl
        have N0 := At.new wr (#[.slice none 0 0, .int .i64 0, .int .i64 0]) 58
        have N1 := N0.setRow (plC (.slice (some ⟨gs k, 0, none⟩) (pS ps k).length (pS ps k).length) (pB ps k) (pO ps k))
        have G2 := (G1.alloc (.cells (#[.slice none 0 0, .int .i64 0, .int .i64 0]) 58)).setRow_other (k := wr.heap.size) (Nat.ne_of_lt G1.lt) (plC (.slice (some ⟨gs k, 0, none⟩) (pS ps k).length (pS ps k).length) (pB ps k) (pO ps k))
        have B2 := Lib.hid (bset (bnew B1.out (.cells (#[.slice none 0 0, .int .i64 0, .int .i64 0]) 58)) (g := wr.heap.size) B1.out.size (plC (.slice (some ⟨gs k, 0, none⟩) (pS ps k).length (pS ps k).length) (pB ps k) (pO ps k)))
        have KT := ValidPlan_any (gs k) (pS ps k) (pB ps k) (pO ps k) hw _ _ G2
        rw [← hfk] at KT
        clear B1 hfk G1 hw hkl G2
        generalize (pS ps k).length = ln at *
        generalize pB ps k = b at *
        generalize pO ps k = o at *
        generalize gs k = g at *
        by_cases hb : f k = true
        · rw [hb] at KT
          have hv := Lib.hid (allN_next hok.out hb)
          clear hok hb
          go_wp2_with (first | ((with_reducible refine is_load 58 _ rfl ?_); refine wpList_load_part rfl 58 _ rfl _ (k * 3) rfl R _ (by with_reducible assumption) 3 hle _ Tryz.underlying58 rfl (by kernel_rfl) (plC (.slice (some ⟨g, 0, none⟩) ln ln) b o) hsl ?_) | ((with_reducible refine is_store 58 _ _ rfl ?_); refine wpList_store_at rfl 58 _ _ rfl _ rfl (plC (.slice (some ⟨g, 0, none⟩) ln ln) b o) rfl (#[.slice none 0 0, .int .i64 0, .int .i64 0]) _ (by with_reducible assumption) 3 (plC_size _ _ _) rfl (by kernel_rfl) (pl_one _ rfl _ _) ?_) | ((with_reducible refine is_load 58 _ rfl ?_); refine wpList_load_at rfl 58 _ rfl _ rfl (plC (.slice (some ⟨g, 0, none⟩) ln ln) b o) _ (by with_reducible assumption) 3 (plC_size _ _ _) _ Tryz.underlying58 rfl (by kernel_rfl) ?_))
          refine KT.mono ?_
          rintro e w3 ⟨rfl, hb3⟩
          have B3 := Lib.hid (bthen B2.out hb3)
          clear N0 N1 A1 B2 hsl hle KT hb3
          go_wp2_with fail
          exact ⟨⟨k + 1, by omega, by go_num, B3, hv⟩, by simp [intOf]; omega⟩
        · have hb : f k = false := by simpa using hb
          rw [hb] at KT
          have hv := Lib.hid (allN_at hlt hb)
          clear hok hb
          go_wp2_with (first | ((with_reducible refine is_load 58 _ rfl ?_); refine wpList_load_part rfl 58 _ rfl _ (k * 3) rfl R _ (by with_reducible assumption) 3 hle _ Tryz.underlying58 rfl (by kernel_rfl) (plC (.slice (some ⟨g, 0, none⟩) ln ln) b o) hsl ?_) | ((with_reducible refine is_store 58 _ _ rfl ?_); refine wpList_store_at rfl 58 _ _ rfl _ rfl (plC (.slice (some ⟨g, 0, none⟩) ln ln) b o) rfl (#[.slice none 0 0, .int .i64 0, .int .i64 0]) _ (by with_reducible assumption) 3 (plC_size _ _ _) rfl (by kernel_rfl) (pl_one _ rfl _ _) ?_) | ((with_reducible refine is_load 58 _ rfl ?_); refine wpList_load_at rfl 58 _ rfl _ rfl (plC (.slice (some ⟨g, 0, none⟩) ln ln) b o) _ (by with_reducible assumption) 3 (plC_size _ _ _) _ Tryz.underlying58 rfl (by kernel_rfl) ?_))
          refine KT.mono ?_
          rintro e w3 ⟨rfl, hb3⟩
          have B3 := Lib.hid (bthen B2.out hb3)
          clear N0 N1 A1 B2 hsl hle KT hb3
          go_wp2_with fail
          go_ret
          exact ⟨by rw [hv.out]; rfl, B3.out⟩
      · obtain rfl : n = k := by omega
        go_wp2_with fail
        go_ret
        exact ⟨by rw [hok.out]; rfl, B1.out⟩
  · have h7 : (n : Int) > 6 := by omega
    rw [decide_eq_false h6, Bool.false_and]
    go_enter Tryz.func79, Tryz.ntmps79
    go_wp2
    go_ret
    exact ⟨rfl, Below.refl _ _⟩

theorem areTownRoads_own (gr : Nat) (rs : List Rd4) (hn : rs.length ≤ 1048576) (T : TypeId) (w : World) (h : At w gr (fm rdr rs) T) :
    Calls Tryz.prog 77 #[slN gr rs.length] w fun e w' => e = .returned (.bool (decide (1 ≤ rs.length ∧ rs.length ≤ 8) && allN (fun k => okR (fe zR rs k)) rs.length)) ∧ Below w.heap.size w w' := by
  have KR := areRoads_own gr rs hn T w h
  unfold slN at KR ⊢
  clear h
  generalize allN (fun k => okR (fe zR rs k)) rs.length = b at *
  generalize rs.length = n at *
  by_cases h1 : 1 ≤ n
  · by_cases h2 : n ≤ 8
    · rw [decide_eq_true ⟨h1, h2⟩, Bool.true_and]
      have d1 : decide ((n : Int) ≥ 1) = true := decide_eq_true (by omega)
      have d2 : decide ((n : Int) ≤ 8) = true := decide_eq_true (by omega)
      have d3 : (1 : Int) ≤ (n : Int) := by omega
      have d4 : (n : Int) ≤ 8 := by omega
      go_enter Tryz.func77, Tryz.ntmps77
      go_wp2_with fail
      refine KR.mono ?_
      rintro e w1 ⟨rfl, hb1⟩
      go_wp2_with fail
      go_ret
      exact ⟨rfl, hb1⟩
    · rw [decide_eq_false (fun c => h2 c.2), Bool.false_and]
      have d2 : ¬ (n : Int) ≤ 8 := by omega
      have d3 : (1 : Int) ≤ (n : Int) := by omega
      clear KR
      go_enter Tryz.func77, Tryz.ntmps77
      go_wp2
      go_ret
      exact ⟨rfl, Below.refl _ _⟩
  · rw [decide_eq_false (fun c => h1 c.1), Bool.false_and]
    have d3 : ¬ (1 : Int) ≤ (n : Int) := by omega
    clear KR
    go_enter Tryz.func77, Tryz.ntmps77
    go_wp2
    go_ret
    exact ⟨rfl, Below.refl _ _⟩

/-- a road's number -/
def ixB (n : Nat) (i : Int) : Bool := decide (0 ≤ i ∧ i < (n : Int))

theorem isIndex_b (i : Int) (n : Nat) (hn : n ≤ 1048576) (w : World) : Calls Tryz.prog 60 #[.int .i64 i, .int .i64 (n : Int)] w (Rd (.bool (ixB n i)) w) := by
  have s1 : IntKind.i64.wrap (n : Int) = (n : Int) := IntWalk.i64_in _ (by omega)
  by_cases h1 : 0 ≤ i
  · by_cases h2 : i < (n : Int)
    · rw [show ixB n i = true from decide_eq_true ⟨h1, h2⟩]
      go_enter Tryz.func60, Tryz.ntmps60
      go_wp2
      go_ret
      exact ⟨rfl, 0, rfl⟩
    · rw [show ixB n i = false from decide_eq_false (fun c => h2 c.2)]
      go_enter Tryz.func60, Tryz.ntmps60
      go_wp2
      go_ret
      exact ⟨rfl, 0, rfl⟩
  · rw [show ixB n i = false from decide_eq_false (fun c => h1 c.1)]
    go_enter Tryz.func60, Tryz.ntmps60
    go_wp2
    go_ret
    exact ⟨rfl, 0, rfl⟩

end Go.Proofs.YtboahhipobcabaaGreat
