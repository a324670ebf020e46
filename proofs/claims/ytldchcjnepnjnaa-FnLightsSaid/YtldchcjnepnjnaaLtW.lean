/-
  CONTRACTS: lights: the law's counts, a plan drawn, the first light, lights by ==.
-/
import Derived.Test.YtldchcjnepnjnaaLtI
import Derived.Test.YtldchcjnepnjnaaDrw6
import Derived.Test.YtldchcjnepnjnaaSlEq
namespace Go.Proofs.Ytldchcjnepnjnaa
open Go Go.ChangeShapes Go.WideShapes Go.ChangeAt Go.RowKit
set_option maxRecDepth 100000

structure LInv (xs : Slots) (b : Nat) (cs : List Bool) (le mo k s : Nat) (r : Bool) (st rd i tn : Nat) : Prop where
  lt : k < xs.length
  g : r = false → st = s ∧ rd = 0 ∧ s < mo ∧ (s < le ∨ cal (sb xs k) cs 8 = true)
  q : r = true → rd = s ∧ s < b ∧ st = (if cal (sb xs k) cs 8 = true then mo else le)
  t : tn = 0 → i = st + rd

theorem LInv.first {xs : Slots} {b : Nat} {cs : List Bool} {le mo : Nat} (h : 0 < xs.length) (hl : 1 ≤ le) (hm : le ≤ mo) : LInv xs b cs le mo 0 0 false 0 0 0 0 :=
  ⟨h, fun _ => ⟨rfl, rfl, by omega, .inl (by omega)⟩, fun h => (by cases h), fun _ => rfl⟩

theorem LInv.next {xs : Slots} {b : Nat} {cs : List Bool} {le mo k i tn : Nat} (h : k < xs.length) (hl : 1 ≤ le) (hm : le ≤ mo) : LInv xs b cs le mo ((k + 1) % xs.length) 0 false 0 0 i (tn + 1) :=
  ⟨Nat.mod_lt _ (by omega), fun _ => ⟨rfl, rfl, by omega, .inl (by omega)⟩, fun h => (by cases h), fun h => (by omega)⟩

/-- a round: what becomes of a light, and of the law's counts -/
theorem round_l {xs : Slots} {b : Nat} {cs : List Bool} {le mo k s : Nat} {r : Bool} {st rd i tn : Nat} (I : LInv xs b cs le mo k s r st rd i tn) (hl : 1 ≤ le) (hm : le ≤ mo) :
    (r = false ∧ stepT xs b cs le mo k s r = (k, s + 1, false) ∧ LInv xs b cs le mo k (s + 1) false (st + 1) rd (i + 1) tn) ∨
    (r = false ∧ 0 < b ∧ stepT xs b cs le mo k s r = (k, 0, true) ∧ LInv xs b cs le mo k 0 true (st + 1) rd (i + 1) tn) ∨
    (r = false ∧ b = 0 ∧ stepT xs b cs le mo k s r = ((k + 1) % xs.length, 0, false) ∧ rd = b ∧ st + 1 = (if cal (sb xs k) cs 8 = true then mo else le)) ∨
    (r = true ∧ stepT xs b cs le mo k s r = (k, s + 1, true) ∧ LInv xs b cs le mo k (s + 1) true st (rd + 1) (i + 1) tn) ∨
    (r = true ∧ stepT xs b cs le mo k s r = ((k + 1) % xs.length, 0, false) ∧ rd + 1 = b ∧ st = (if cal (sb xs k) cs 8 = true then mo else le)) := by
  obtain ⟨hk, hg, hq, ht⟩ := I
  cases r
  · obtain ⟨g1, g2, g3, g4⟩ := hg rfl
    have e : stepT xs b cs le mo k s false = if (le ≤ s + 1 ∧ cal (sb xs k) cs 8 = false) ∨ mo ≤ s + 1 then (if b = 0 then ((k + 1) % xs.length, 0, false) else (k, 0, true)) else (k, s + 1, false) := by unfold stepT; rw [if_neg (by decide)]
    rw [e]
    clear e hg hq
    obtain ⟨c, hc⟩ : ∃ c, c = cal (sb xs k) cs 8 := ⟨_, rfl⟩
    rw [← hc] at g4 ⊢
    by_cases h : (le ≤ s + 1 ∧ c = false) ∨ mo ≤ s + 1
    · rw [if_pos h]
      have hS : st + 1 = (if c = true then mo else le) := by
        cases c
        · rw [if_neg (by decide)]
          have : s < le := g4.elim id (fun h => by cases h)
          have : le ≤ s + 1 := by rcases h with h | h; exact h.1; omega
          omega
        · rw [if_pos rfl]
          have : mo ≤ s + 1 := by rcases h with h | h; exact absurd h.2 (by decide); exact h
          omega
      by_cases hb : b = 0
      · rw [if_pos hb]
        exact .inr (.inr (.inl ⟨rfl, hb, rfl, by omega, hS⟩))
      · rw [if_neg hb]
        refine .inr (.inl ⟨rfl, by omega, rfl, ⟨hk, fun h => (by cases h), fun _ => ⟨g2, by omega, by rw [← hc]; exact hS⟩, fun h => (by have := ht h; omega)⟩⟩)
    · rw [if_neg h]
      refine .inl ⟨rfl, rfl, ⟨hk, fun _ => ⟨by omega, g2, Nat.lt_of_not_le fun q => h (.inr q), by
        rw [← hc]
        rcases Nat.lt_or_ge (s + 1) le with q | q
        · exact .inl q
        · right; cases hcc : c
          · exact absurd (Or.inl ⟨q, hcc⟩) h
          · rfl⟩, fun h => (by cases h), fun h => (by have := ht h; omega)⟩⟩
  · obtain ⟨q1, q2, q3⟩ := hq rfl
    have e : stepT xs b cs le mo k s true = if s + 1 = b then ((k + 1) % xs.length, 0, false) else (k, s + 1, true) := by unfold stepT; rw [if_pos rfl]
    rw [e]
    by_cases h : s + 1 = b
    · rw [if_pos h]
      exact .inr (.inr (.inr (.inr ⟨rfl, rfl, by omega, q3⟩)))
    · rw [if_neg h]
      exact .inr (.inr (.inr (.inl ⟨rfl, rfl, ⟨hk, fun h => (by cases h), fun _ => ⟨by omega, by omega, q3⟩, fun h => (by have := ht h; omega)⟩⟩)))

theorem lp_of {xs : Slots} {b o k s : Nat} {r : Bool} (h : okP xs b o = true) (hk : k < xs.length) (hs : s ≤ 1000) (hr : r = true → 0 < b) : lpB xs b o k s r = true := by
  unfold lpB liB
  rw [h, decide_eq_true (show (0 : Int) ≤ (k : Int) ∧ (k : Int) < ((xs.length : Nat) : Int) by omega), decide_eq_true (show (0 : Int) ≤ (s : Int) ∧ (s : Int) ≤ 1000000 by omega)]
  cases r
  · rfl
  · rw [decide_eq_false (show ¬ ((b : Int) = 0) by have := hr rfl; omega)]; rfl

theorem run_part_t (w : World) (ty : TypeId) (c : Array Value) (k : Nat) (v : Value) (d : TypeDesc) (hu : Try.prog.underlying ty = some d) (hd : (match d with | .struct _ | .array _ _ => true | _ => false) = false) (hv : c[k]? = some v) : (part ty c k).run Try.prog w = .ok v w := by
  have hagg : (isAgg ty).run Try.prog w = .ok false w := by
    unfold isAgg
    rw [Sem.run_bind, run_underlying hu w]
    cases d <;> simp_all
  simp [part, Sem.run_bind, hagg, hv]

theorem run_eq_light (w : World) (t c : Int) (f : Bool) : (Op.equalIn 10000 33 (.agg (ltC t c f)) (.agg (ltC t c f))).run Try.prog w = .ok true w := by
  have ht : Try.prog.underlying 33 = some (.struct (Try.prog.fieldsOf 33)) := by kernel_rfl
  have hp : Try.prog.stoodInHeld 33 = false := by kernel_rfl
  rw [show (10000 : Nat) = 9999 + 1 from rfl, run_equalIn_struct w 9999 33 _ _ ht hp]
  have hf : (Try.prog.fieldsOf 33).toList.map (fun f => (f.name, f.type, f.offset)) = [("Slot", 2, 0), ("Since", 2, 1), ("Red", 4, 2)] := by kernel_rfl
  generalize (Try.prog.fieldsOf 33).toList = L at hf ⊢
  obtain _ | ⟨f1, _ | ⟨f2, _ | ⟨f3, _ | ⟨f4, L⟩⟩⟩⟩ := L
  · simp at hf
  · simp at hf
  · simp at hf
  rotate_left
  · simp at hf
  simp only [List.map_cons, List.map_nil, List.cons.injEq, Prod.mk.injEq, and_true] at hf
  obtain ⟨⟨n1', q1, o1⟩, ⟨n2', q2, o2⟩, n3', q3, o3⟩ := hf
  have n1 : f1.name ≠ "_" := by rw [n1']; decide
  have n2 : f2.name ≠ "_" := by rw [n2']; decide
  have n3 : f3.name ≠ "_" := by rw [n3']; decide
  have E1 : ∀ t : Int, (Op.equalIn 9999 2 (.int .i64 t) (.int .i64 t)).run Try.prog w = .ok (t == t) w := fun t => run_equalIn_int w 9998 2 .i64 .i64 t t Try.underlying2
  have E2 : (Op.equalIn 9999 4 (.bool f) (.bool f)).run Try.prog w = .ok (f == f) w := run_equalIn_bool' w 9998 4 f f Try.underlying4
  have p1 := run_part_t w 2 (ltC t c f) 0 _ _ Try.underlying2 rfl (ltC_0 t c f)
  have p2 := run_part_t w 2 (ltC t c f) 1 _ _ Try.underlying2 rfl (ltC_1 t c f)
  have p3 := run_part_t w 4 (ltC t c f) 2 _ _ Try.underlying4 rfl (ltC_2 t c f)
  simp [Op.eqFields, n1, n2, n3, q1, q2, q3, o1, o2, o3, Sem.run_bind, Sem.run_ite, p1, p2, p3, Result.andThen_ok, E1, E2]

theorem run_neq_light (w : World) (t c : Int) (f : Bool) : (binOp .neq 33 (.agg (ltC t c f)) (.agg (ltC t c f))).run Try.prog w = .ok (.bool false) w := by
  rw [run_neq_struct, run_eq_light]; rfl

theorem FirstLight_any (w : World) : Calls Try.prog 8 #[] w fun e w' => e = .returned (.agg (ltC 0 0 false)) ∧ Below w.heap.size w w' := by
  have R0 := At.new w (#[.int .i64 0, .int .i64 0, .bool false]) 33
  have R9 := R0.setRow (ltC 0 0 false)
  have B9 := Lib.hid (bset (b0 w (.cells #[.int .i64 0, .int .i64 0, .bool false] 33)) (g := w.heap.size) (Nat.le_refl _) (ltC 0 0 false))
  go_enter Try.func8, Try.ntmps8
  go_wp2_with (first | ((with_reducible refine is_bld 33 _ rfl ?_); refine wpList_bld rfl 33 _ rfl #[] (by kernel_rfl) (ltC 0 0 false) (by kernel_rfl) ?_) | ((with_reducible refine is_store 33 _ _ rfl ?_); refine wpList_store_at rfl 33 _ _ rfl _ rfl (ltC 0 0 false) rfl (#[.int .i64 0, .int .i64 0, .bool false]) _ R0 3 (ltC_size _ _ _) rfl (by kernel_rfl) (lt_one _ _ _) ?_))
  exact bodyPost_ret (v := .agg (ltC 0 0 false)) (results_at (p := 0) (ty := 33) rfl _ _ _ (ltC 0 0 false) _ rfl R9 _ Try.underlying33 rfl 3 (ltC_size _ _ _) (by kernel_rfl)) rfl ⟨rfl, B9.out⟩

theorem P6Plan_e (ad : Option Addr) (cp : Nat) (bs : List Nat) (w : World) (hC : BSl w ad bs) :
    Calls Try.prog 5 #[.slice ad bs.length cp] w fun e w' => ∃ (G cap : Nat) (zs : Array Value) (xs : Slots) (b o : Nat), e = .returned (.agg (plC (.slice (some ⟨G, 0, none⟩) xs.length cap) b o)) ∧ At w' G (slY xs zs) 40 ∧ SlW xs ∧ okP xs b o = true ∧ 1 ≤ xs.length ∧ xs.length ≤ 4 ∧ b < 3 ∧ Below w.heap.size w w' := by
  have ZP := At.new w (#[.slice none 0 0, .int .i64 0, .int .i64 0]) 26
  have B0 := Lib.hid (b0 w (.cells (#[.slice none 0 0, .int .i64 0, .int .i64 0]) 26))
  have hC0 := hC.step (b0 w (.cells (#[.slice none 0 0, .int .i64 0, .int .i64 0]) 26)) (Nat.le_refl _)
  have K := l00From_b ad cp bs (w.alloc (.cells (#[.slice none 0 0, .int .i64 0, .int .i64 0]) 26))
  clear hC
  go_enter Try.func5, Try.ntmps5
  go_wp2_with fail
  refine K.mono ?_
  rintro e w1 ⟨rfl, hb1, A1⟩
  have R1 := ZP.step hb1
  have B1 := Lib.hid (bthen B0.out hb1)
  have D1 := from_draws hC0 hb1 A1
  have hsz : (w.alloc (.cells (#[.slice none 0 0, .int .i64 0, .int .i64 0]) 26)).heap.size = w.heap.size + 1 := by simp
  rw [hsz] at D1
  clear ZP B0 K A1 hb1 hC0
  go_wp2_with fail
  refine (planDrawn_e D1 (by omega)).mono ?_
  rintro e w2 ⟨G, cap, zs, xs, b, o, rfl, hG, hA, hW, hok, h1, h4, -, hb, hO, -⟩
  have R2 := hO.at R1 (by omega)
  have B2 := Lib.hid (B1.out.trans (hO.below.mono (by omega)))
  have hGw : w.heap.size < G := by have := R1.lt; omega
  have R3 := R2.setRow (plC (.slice (some ⟨G, 0, none⟩) xs.length cap) b o)
  have A3 := hA.setRow_other (k := w.heap.size) (by omega) (plC (.slice (some ⟨G, 0, none⟩) xs.length cap) b o)
  have B3 := Lib.hid (bset B2.out (g := w.heap.size) (Nat.le_refl _) (plC (.slice (some ⟨G, 0, none⟩) xs.length cap) b o))
  clear R1 B1 D1 hO
  go_wp2_with (((with_reducible refine is_store 26 _ _ rfl ?_); refine wpList_store_at rfl 26 _ _ rfl _ rfl (plC (.slice (some ⟨G, 0, none⟩) xs.length cap) b o) rfl (#[.slice none 0 0, .int .i64 0, .int .i64 0]) _ R2 3 (plC_size _ _ _) rfl (by kernel_rfl) (pl_one _ rfl _ _) ?_))
  exact bodyPost_ret (v := .agg (plC (.slice (some ⟨G, 0, none⟩) xs.length cap) b o)) (results_at (p := 2) (ty := 26) rfl _ _ _ (plC (.slice (some ⟨G, 0, none⟩) xs.length cap) b o) _ rfl R3 _ Try.underlying26 rfl 3 (plC_size _ _ _) (by kernel_rfl)) rfl ⟨G, cap, zs, xs, b, o, rfl, A3, hW, hok, h1, h4, hb, B3.out⟩

theorem f6big_any (a : Option Addr) (n c : Nat) (hn : n ≤ maxLen) (w : World) : Calls Try.prog 4 #[.slice a n c] w fun e w' => e = .returned (.bool (decide (4096 < n))) ∧ w' = w := by
  have hm : n ≤ 9223372036854775807 := Nat.le_trans hn (by decide)
  by_cases h : 4096 < n
  · have h1 : (n : Int) > 4096 := by omega
    rw [decide_eq_true h]
    go_enter Try.func4, Try.ntmps4
    go_wp2
    go_ret
    exact ⟨rfl, rfl⟩
  · have h1 : ¬ (n : Int) > 4096 := by omega
    rw [decide_eq_false h]
    go_enter Try.func4, Try.ntmps4
    go_wp2
    go_ret
    exact ⟨rfl, rfl⟩

end Go.Proofs.Ytldchcjnepnjnaa
