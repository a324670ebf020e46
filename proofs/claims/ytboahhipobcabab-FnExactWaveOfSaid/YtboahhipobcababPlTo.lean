/-
  CONTRACTS: slices of plans, a law's made the program's.
-/
import Derived.Test.YtboahhipobcababG9
import Derived.Test.YtboahhipobcababToPlan
namespace Go.Proofs.Ytboahhipobcabab
open Go Go.ChangeShapes Go.WideShapes Go.ChangeAt Go.RowKit
set_option maxRecDepth 100000

/-- the rows of the first k plans, their slots at blocks of their own, and rows of zeros -/
def pvs (gs : Nat → Nat) (ps : Ps) (n k : Nat) : Pv := (List.range n).map fun i => if i < k then (.slice (some ⟨gs i, 0, none⟩) (pS ps i).length (pS ps i).length, pB ps i, pO ps i) else (.slice none 0 0, 0, 0)
theorem pvs_len (gs : Nat → Nat) (ps : Ps) (n k : Nat) : (pvs gs ps n k).length = n := by simp [pvs]
theorem pvs_zero (gs : Nat → Nat) (ps : Ps) (n : Nat) : pvs gs ps n 0 = List.replicate n (.slice none 0 0, 0, 0) := by
  apply List.ext_getElem
  · simp [pvs]
  · intro i h1 h2
    simp [pvs]
theorem pvs_at {gs : Nat → Nat} {ps : Ps} {n k i : Nat} (hi : i < n) (hk : i < k) : (pvs gs ps n k).getD i (.slice none 0 0, 0, 0) = (.slice (some ⟨gs i, 0, none⟩) (pS ps i).length (pS ps i).length, pB ps i, pO ps i) := by
  rw [List.getD_eq_getElem?_getD]
  simp [pvs, List.getElem?_range hi, hk]
theorem pvs_set {gs : Nat → Nat} {ps : Ps} {n k : Nat} (_hk : k < n) (G : Nat) : (pvs gs ps n k).set k (.slice (some ⟨G, 0, none⟩) (pS ps k).length (pS ps k).length, pB ps k, pO ps k) = pvs (fun i => if i = k then G else gs i) ps n (k + 1) := by
  apply List.ext_getElem
  · simp [pvs]
  · intro i h1 h2
    rw [List.getElem_set]
    simp only [pvs, List.getElem_map, List.getElem_range]
    by_cases c : k = i
    · subst c
      rw [if_pos rfl, if_pos (by omega), if_pos rfl]
    · rw [if_neg c]
      by_cases d : i < k
      · rw [if_pos d, if_pos (by omega), if_neg (by omega)]
      · rw [if_neg d, if_neg (by omega)]
theorem pvs_ones (gs : Nat → Nat) (ps : Ps) (n k : Nat) : ∀ p ∈ pvs gs ps n k, p.1.oneCell' = true := by
  intro p hp
  obtain ⟨i, -, rfl⟩ := List.mem_map.1 hp
  split <;> rfl
theorem made_plans (n : Nat) : madeCells (Value.agg #[.slice none 0 0, .int .i64 0, .int .i64 0]).cells (n * 3) = pvC (List.replicate n (.slice none 0 0, 0, 0)) := by
  have e : (Value.agg #[.slice none 0 0, .int .i64 0, .int .i64 0]).cells = #[.slice none 0 0, .int .i64 0, .int .i64 0] := rfl
  rw [e]
  unfold madeCells
  have hlen : (List.replicate n ((.slice none 0 0, 0, 0) : Value × Int × Int)).length = n := List.length_replicate
  apply Array.ext
  · rw [pvC_size, hlen]; simp
  · intro i h1 h2
    have hi : i < n * 3 := by simpa using h1
    have hq : i / 3 < n := by omega
    have g := pvC_get (l := List.replicate n (.slice none 0 0, 0, 0)) (i := i / 3) (j := i % 3) (by rw [hlen]; exact hq) (by omega) (v := .slice none 0 0) (b := 0) (o := 0) (by rw [List.getD_eq_getElem?_getD, List.getElem?_replicate, if_pos hq]; rfl)
    rw [show i / 3 * 3 + i % 3 = i from by omega, Array.getElem?_eq_getElem h2] at g
    have hz : (#[.slice none 0 0, .int .i64 0, .int .i64 0] : Array Value).size = 3 := rfl
    have hr : i % 3 < 3 := by omega
    simp only [Array.getElem_map, Array.getElem_range, hz]
    have : (#[.slice none 0 0, .int .i64 0, .int .i64 0] : Array Value)[i % 3]! = (#[.slice none 0 0, .int .i64 0, .int .i64 0] : Array Value)[i % 3]'(by rw [hz]; exact hr) := getElem!_pos _ _ _
    rw [this]
    have g' := g.symm
    unfold plC at g'
    rw [Array.getElem?_eq_getElem (by exact hr)] at g'
    exact Option.some.inj g'
theorem run_make_plans (W : World) (n : Nat) (hn : n ≤ 1048576) : (Instr.makeSlice 25 (.int .i64 (n : Int)) (.int .i64 (n : Int))).run Try.prog W = .ok (.slice (some ⟨W.heap.size, 0, none⟩) n n) (W.alloc (.cells (pvC (List.replicate n (.slice none 0 0, 0, 0))) 41)) := by
  have hi : (Try.prog.info? 41).map (fun i => (i.zero, i.size, i.bytes)) = some (some (.agg #[.slice none 0 0, .int .i64 0, .int .i64 0]), 3, 40) := by kernel_rfl
  obtain ⟨i, h1, h2, h3, h4⟩ := info_parts hi
  have := run_make (P := Try.prog) W 25 41 i (.agg #[.slice none 0 0, .int .i64 0, .int .i64 0]) Try.underlying25 h1 h2 .i64 .i64 (n : Int) (n : Int) (by omega) (by omega) (by rw [h4]; omega) (by omega)
  rw [Int.toNat_natCast, h3, made_plans] at this
  exact this
theorem psN_le {ps : Ps} : ∀ {n k : Nat}, k < n → (pS ps k).length ≤ psN ps n
  | 0, k, h => by omega
  | n + 1, k, h => by
    unfold psN
    by_cases c : k = n
    · subst c; omega
    · have := psN_le (ps := ps) (n := n) (k := k) (by omega)
      omega

set_option maxHeartbeats 1000000 in
theorem toPlanS_any (v : Value) (ps : Ps) (w : World) (hF : PSl w v ps) (hn : ps.length ≤ 1048576) (hN : psN ps ps.length ≤ 1048576) :
    Calls Try.prog 11 #[v] w fun e w' => e = .returned (.slice (some ⟨w.heap.size, 0, none⟩) ps.length ps.length) ∧ (∃ gs : Nat → Nat, At w' w.heap.size (pvC (pvs gs ps ps.length ps.length)) 41 ∧
      (∀ i, i < ps.length → At w' (gs i) (slC (pS ps i)) 107 ∧ w.heap.size < gs i) ∧ ∀ i j, i < j → j < ps.length → gs i < gs j) ∧ Below w.heap.size w w' := by
  have hmk := run_make_plans w ps.length hn
  have A0 := At.new w (pvC (List.replicate ps.length (.slice none 0 0, 0, 0))) 41
  have B0 := Lib.hid (b0 w (.cells (pvC (List.replicate ps.length (.slice none 0 0, 0, 0))) 41))
  by_cases z : ps.length = 0
  · obtain ⟨a, cap, rfl⟩ := hF.any
    rw [z] at hmk A0 B0 ⊢
    have hmk' : (Instr.makeSlice 25 (.int .i64 0) (.int .i64 0)).run Try.prog w = .ok (.slice (some ⟨w.heap.size, 0, none⟩) 0 0) (w.alloc (.cells (pvC (List.replicate 0 (.slice none 0 0, 0, 0))) 41)) := hmk
    clear hmk hF
    go_enter Try.func11, Try.ntmps11
    go_wp2_with ((at_make; refine wpList_make_run rfl _ _ _ rfl _ _ _ rfl rfl hmk' ?_))
    go_loopw [4] (fun i wr => i = .int .i64 0 ∧ wr = w.alloc (.cells (pvC (List.replicate 0 (.slice none 0 0, 0, 0))) 41)) (fun _ _ => 0)
    case atStart => exact ⟨rfl, rfl⟩
    case round =>
      obtain ⟨rfl, rfl⟩ := hrel
      go_wp2
      go_ret
      exact ⟨rfl, ⟨fun _ => 0, A0, fun i hi => by omega, fun i j _ hj => by omega⟩, B0.out⟩
  · obtain ⟨g, off, cap, rfl, HG⟩ := hF.get z 93 _ Try.underlying93 (by kernel_rfl)
    have HL := Lib.hid HG
    clear HG hF
    obtain ⟨n, hnn⟩ : ∃ n, n = ps.length := ⟨_, rfl⟩
    rw [← hnn] at hn hmk A0 B0 hN z ⊢
    have HNn := Lib.hid hnn
    have HP := Lib.hid (fun k (hk : k < n) => Nat.le_trans (psN_le (ps := ps) hk) hN)
    have A0' : At (w.alloc (.cells (pvC (List.replicate n (.slice none 0 0, 0, 0))) 41)) w.heap.size (pvC (pvs (fun _ => 0) ps n 0)) 41 := by rw [pvs_zero]; exact A0
    have HA := Lib.hid A0'
    clear hnn hN A0 A0'
    go_enter Try.func11, Try.ntmps11
    go_wp2_with ((at_make; refine wpList_make_run rfl _ _ _ rfl _ _ _ rfl rfl hmk ?_))
    clear hmk
    go_loopw [4] (fun i wr => ∃ k : Nat, ∃ gs : Nat → Nat, k ≤ n ∧ i = .int .i64 (k : Int) ∧ At wr w.heap.size (pvC (pvs gs ps n k)) 41 ∧ Hid ((∀ i, i < k → At wr (gs i) (slC (pS ps i)) 107 ∧ w.heap.size < gs i) ∧ ∀ i j, i < j → j < k → gs i < gs j) ∧ Hid (Below w.heap.size w wr)) (fun i _ => n - (intOf i).toNat)
    case atStart => exact ⟨0, fun _ => 0, by omega, rfl, HA.out, Lib.hid ⟨fun i hi => by omega, fun i j _ hj => by omega⟩, B0⟩
    case round =>
      clear B0
      obtain ⟨k, gs, hk, rfl, A1, HS, B1⟩ := hrel
      by_cases hlt : k < n
      · have s2 : IntKind.i64.wrap ((k : Int) + 1) = (k : Int) + 1 := IntWalk.i64_in _ (by omega)
        have kd : (k : Int) < (n : Int) := by omega
        obtain ⟨ak, ck, hs, hld⟩ := HL.out k (by rw [← HNn.out]; exact hlt)
        have KT := toPlan_any ak ck (pS ps k) (pB ps k) (pO ps k) wr (hs.step (Nat.le_refl _) B1.out) (HP.out k hlt)
        have hld2 := Lib.hid (hld _ B1.out)
        have hlw := A1.lt
        have hsz := pvC_size (pvs gs ps n k)
        rw [pvs_len] at hsz
        clear hs hld
        go_wp2_with ((with_reducible refine is_load 93 _ rfl ?_); refine wpList_load_of rfl 93 _ rfl _ rfl _ hld2.out ?_)
        refine KT.mono ?_
        rintro e w2 ⟨G, rfl, hG, hge, hb2⟩
        have A2 := A1.step hb2
        have B2 := Lib.hid (bthen B1.out hb2)
        have e3 : splice (pvC (pvs gs ps n k)) (k * 3) (plC (.slice (some ⟨G, 0, none⟩) (pS ps k).length (pS ps k).length) (pB ps k) (pO ps k)) = pvC (pvs (fun i => if i = k then G else gs i) ps n (k + 1)) := by rw [pvC_set (by rw [pvs_len]; exact hlt) rfl, pvs_set hlt]
        have A3 := A2.setRow (pvC (pvs (fun i => if i = k then G else gs i) ps n (k + 1)))
        have B3 := Lib.hid (bset B2.out (g := w.heap.size) (Nat.le_refl _) (pvC (pvs (fun i => if i = k then G else gs i) ps n (k + 1))))
        have H3 : Hid ((∀ i, i < k + 1 → At (w2.setRow w.heap.size (pvC (pvs (fun i => if i = k then G else gs i) ps n (k + 1)))) (if i = k then G else gs i) (slC (pS ps i)) 107 ∧ w.heap.size < (if i = k then G else gs i)) ∧ ∀ i j, i < j → j < k + 1 → (if i = k then G else gs i) < (if j = k then G else gs j)) := Lib.hid ⟨fun i hi => by
            by_cases c : i = k
            · subst c
              rw [if_pos rfl]
              exact ⟨hG.setRow_other (k := w.heap.size) (by omega) _, by omega⟩
            · rw [if_neg c]
              have h5 := HS.out.1 i (by omega)
              exact ⟨(h5.1.step hb2).setRow_other (k := w.heap.size) (by omega) _, h5.2⟩, fun i j hij hj => by
            rw [if_neg (by omega : ¬ i = k)]
            by_cases c : j = k
            · rw [if_pos c]
              have h5 := (HS.out.1 i (by omega)).1.lt
              omega
            · rw [if_neg c]
              exact HS.out.2 i j hij (by omega)⟩
        clear A1 B1 HS hb2 hG hge hld2 KT B2
        go_wp2_with (((with_reducible refine is_store 41 _ _ rfl ?_); refine wpList_store_part rfl 41 _ _ rfl _ _ rfl (plC (.slice (some ⟨G, 0, none⟩) (pS ps k).length (pS ps k).length) (pB ps k) (pO ps k)) rfl (pvC (pvs gs ps n k)) _ (by with_reducible assumption) 3 (plC_size _ _ _) (by rw [hsz]; omega) (by kernel_rfl) (pl_one _ (sl_one _ _ _) _ _) (pvC (pvs (fun i => if i = k then G else gs i) ps n (k + 1))) (e3) ?_))
        exact ⟨⟨k + 1, fun i => if i = k then G else gs i, by omega, by go_num, A3, H3, B3⟩, by simp [intOf]; omega⟩
      · obtain rfl : n = k := by omega
        go_wp2
        go_ret
        exact ⟨rfl, ⟨gs, A1, HS.out.1, HS.out.2⟩, B1.out⟩

end Go.Proofs.Ytboahhipobcabab
