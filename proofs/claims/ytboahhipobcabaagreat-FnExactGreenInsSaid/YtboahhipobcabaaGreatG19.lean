/-
  SEVERAL TEXTS IN ONE.
-/
import Derived.Test.YtboahhipobcabaaGreatTnE
import Derived.Test.YtboahhipobcabaaGreatPlTo
import Derived.Test.YtboahhipobcabaaGreatG16

/-
  Both ways of asking whether a town is valid agree.
-/
namespace Go.Proofs.YtboahhipobcabaaGreat
open Go Go.ChangeShapes Go.WideShapes Go.ChangeAt Go.RowKit
set_option maxRecDepth 100000

/-- one road with what is offered, as the model asks it -/
def roadK (T : Tn) (k : Nat) : Bool := okR (fe zR T.rs k) && (amtB (nth T.fs k) && (!decide ((k : Int) ∈ flatN (outsF T.js) T.js.length) || nilB (nth T.fs k)))

def sizesV (T : Tn) : Bool := decide (1 ≤ T.rs.length ∧ T.rs.length ≤ 8) && decide (T.fs.length = T.rs.length) && decide (T.js.length ≤ 4) && decide (T.ps.length ≤ 6)

def validS (T : Tn) : Bool := sizesV T && (allN (endK T.rs.length T.ps.length T.js) T.js.length && allN (roadK T) T.rs.length && allN (okPk T.ps) T.ps.length && inB 0 1000000000 T.tk && amtB T.ca && amtB T.we)

theorem allN_and {f g : Nat → Bool} : ∀ n, allN (fun k => f k && g k) n = (allN f n && allN g n)
  | 0 => rfl
  | n + 1 => by
    show (allN (fun k => f k && g k) n && (f n && g n)) = ((allN f n && f n) && (allN g n && g n))
    rw [allN_and n]
    cases allN f n <;> cases allN g n <;> cases f n <;> cases g n <;> rfl

theorem allN_congr {f g : Nat → Bool} : ∀ n, (∀ k, k < n → f k = g k) → allN f n = allN g n
  | 0, _ => rfl
  | n + 1, h => by
    show (_ && _) = (_ && _)
    rw [allN_congr n (fun k hk => h k (by omega)), h n (by omega)]

/-- marks, one after the other -/
theorem nod_take (seen xs : List Int) : ∀ t, t ≤ xs.length → nodB (seen ++ xs.take t) = (nodB seen && allN (fun t => !decide (ith xs t ∈ seen ++ xs.take t)) t)
  | 0, _ => by rw [List.take_zero, List.append_nil]; show _ = (_ && true); rw [Bool.and_true]
  | t + 1, h => by
    rw [take_snoc xs (by omega), ← List.append_assoc, nodB_snoc, nod_take seen xs t (by omega)]
    show _ = (_ && (_ && _))
    rw [Bool.and_assoc]

theorem useB_nod (n : Nat) (seen xs : List Int) : useB n seen xs = (allN (fun k => ixB n (ith xs k)) xs.length && allN (fun t => !decide (ith xs t ∈ seen ++ xs.take t)) xs.length) := allN_and _

theorem nod_flat (G : Nat → List Int) : ∀ n, nodB (flatN G n) = allN (fun k => allN (fun t => !decide (ith (G k) t ∈ flatN G k ++ (G k).take t)) (G k).length) n
  | 0 => rfl
  | n + 1 => by
    show nodB (flatN G n ++ G n) = (_ && _)
    rw [← nod_flat G n]
    have := nod_take (flatN G n) (G n) (G n).length (Nat.le_refl _)
    rw [List.take_length] at this
    exact this

theorem neB (a b : Int) : (!(a != b)) = decide (a = b) := by
  by_cases h : a = b
  · subst h; simp
  · simp [h]

/-- both ways of asking agree -/
theorem ends_joints (nr np : Nat) (js : List Jt) : allN (endK nr np js) js.length = (allN (fun k => jointV nr np (fe zJ js k)) js.length && (nodB (flatN (insF js) js.length) && nodB (flatN (outsF js) js.length))) := by
  rw [nod_flat, nod_flat, ← allN_and, ← allN_and]
  refine allN_congr _ fun k _ => ?_
  unfold endK jointV armsV
  rw [useB_nod, useB_nod, neB, neB]
  have hp : inB (-1) ((np : Int) - 1) (fe zJ js k).p = (decide ((fe zJ js k).p = -1) || ixB np (fe zJ js k).p) := by
    unfold inB ixB
    rw [← Bool.decide_or]
    exact decide_eq_decide.2 ⟨fun h => by omega, fun h => by omega⟩
  rw [hp]
  show (_ && _ && _ && (_ && _) && (_ && _) && _) = (_ && (_ && _) && (_ && _) && _ && (_ && _))
  generalize okJt (fe zJ js k) = b1
  generalize decide (((fe zJ js k).ns.length : Int) = (fe zJ js k).i) = b2
  generalize decide (((fe zJ js k).us.length : Int) = (fe zJ js k).o) = b3
  generalize allN (fun k_1 => ixB nr (ith (fe zJ js k).ns k_1)) (fe zJ js k).ns.length = b4
  generalize allN (fun k_1 => ixB nr (ith (fe zJ js k).us k_1)) (fe zJ js k).us.length = b5
  generalize (decide ((fe zJ js k).p = -1) || ixB np (fe zJ js k).p) = b6
  show (_ && _ && _ && (_ && allN (fun t => !decide (ith (insF js k) t ∈ flatN (insF js) k ++ (insF js k).take t)) (insF js k).length) && (_ && allN (fun t => !decide (ith (outsF js k) t ∈ flatN (outsF js) k ++ (outsF js k).take t)) (outsF js k).length) && _) = _
  generalize allN (fun t => !decide (ith (insF js k) t ∈ flatN (insF js) k ++ (insF js k).take t)) (insF js k).length = b7
  generalize allN (fun t => !decide (ith (outsF js k) t ∈ flatN (outsF js) k ++ (outsF js k).take t)) (outsF js k).length = b8
  cases b1 <;> cases b2 <;> cases b3 <;> cases b4 <;> cases b5 <;> cases b6 <;> cases b7 <;> cases b8 <;> rfl

theorem valid_same (T : Tn) : validS T = validT T := by
  unfold validS validT sizesV jointsV offerV
  rw [ends_joints]
  have hr : allN (roadK T) T.rs.length = (allN (fun k => okR (fe zR T.rs k)) T.rs.length && allN (offK T.fs (flatN (outsF T.js) T.js.length)) T.rs.length) := by
    rw [← allN_and]
    refine allN_congr _ fun k _ => ?_
    unfold roadK offK
    rw [Bool.or_comm]
  rw [hr]
  by_cases hf : T.fs.length = T.rs.length
  · rw [hf, decide_eq_true rfl]
    generalize decide (1 ≤ T.rs.length ∧ T.rs.length ≤ 8) = b1
    generalize decide (T.js.length ≤ 4) = b2
    generalize decide (T.ps.length ≤ 6) = b3
    generalize allN (fun k => jointV T.rs.length T.ps.length (fe zJ T.js k)) T.js.length = b4
    generalize nodB (flatN (insF T.js) T.js.length) = b5
    generalize nodB (flatN (outsF T.js) T.js.length) = b6
    generalize allN (fun k => okR (fe zR T.rs k)) T.rs.length = b7
    generalize allN (offK T.fs (flatN (outsF T.js) T.js.length)) T.rs.length = b8
    generalize allN (okPk T.ps) T.ps.length = b9
    generalize inB 0 1000000000 T.tk = c1
    generalize amtB T.ca = c2
    generalize amtB T.we = c3
    cases b1 <;> cases b2 <;> cases b3 <;> cases b4 <;> cases b5 <;> cases b6 <;> cases b7 <;> cases b8 <;> cases b9 <;> simp
  · rw [decide_eq_false hf]
    simp

end Go.Proofs.YtboahhipobcabaaGreat

/-
  CONTRACTS: plans at an address within a block: cycles, and which are valid, as the model asks it.
-/
namespace Go.Proofs.YtboahhipobcabaaGreat
open Go Go.ChangeShapes Go.WideShapes Go.ChangeAt Go.RowKit
set_option maxRecDepth 100000

/-- the cells of a plan at an address -/
structure PlAt (w : World) (g off : Nat) (s : Value) (b o : Int) : Prop where
  c0 : w.cell? ⟨g, off, none⟩ = some s
  c1 : w.cell? ⟨g, off + 1, none⟩ = some (.int .i64 b)
  c2 : w.cell? ⟨g, off + 2, none⟩ = some (.int .i64 o)
  lt : g < w.heap.size
theorem PlAt.step {w w' : World} {g off : Nat} {s : Value} {b o : Int} (h : PlAt w g off s b o) (hb : Below w.heap.size w w') : PlAt w' g off s b o := by
  have e : ∀ k, w'.cell? ⟨g, k, none⟩ = w.cell? ⟨g, k, none⟩ := fun k => by
    unfold World.cell?
    rw [hb.block g h.lt]
  exact ⟨(e _).trans h.c0, (e _).trans h.c1, (e _).trans h.c2, Nat.lt_of_lt_of_le h.lt hb.size⟩
theorem PlAt.drewN {w : World} {g off : Nat} {s : Value} {b o : Int} (h : PlAt w g off s b o) (n : Nat) : PlAt (w.drewN n) g off s b o := ⟨h.c0, h.c1, h.c2, h.lt⟩
theorem PlAt.of_row {w : World} {G k n : Nat} {gs : Nat → Nat} {ps : Ps} {T : TypeId} (hA : At w G (pvC (pvs gs ps n n)) T) (hk : k < n) : PlAt w G (k * 3) (.slice (some ⟨gs k, 0, none⟩) (pS ps k).length (pS ps k).length) (pB ps k) (pO ps k) := by
  have e : ∀ j, j < 3 → w.cell? ⟨G, k * 3 + j, none⟩ = (plC (.slice (some ⟨gs k, 0, none⟩) (pS ps k).length (pS ps k).length) (pB ps k) (pO ps k))[j]? := fun j hj => by
    rw [cell_of_row _ _ _ _ _ _ hA]
    exact pvC_get (by rw [pvs_len]; exact hk) hj (pvs_at hk hk)
  exact ⟨e 0 (by omega), e 1 (by omega), e 2 (by omega), hA.lt⟩

set_option maxHeartbeats 400000 in
theorem l04CycleO_any (g off : Nat) (G : Nat) (xs : Slots) (b o : Int) (hW : SlW xs) (T : TypeId) (h1 : 1 ≤ xs.length) (hn : xs.length ≤ 8) (w : World) (P0 : PlAt w g off (.slice (some ⟨G, 0, none⟩) xs.length xs.length) b o) (A0 : At w G (slC xs) T) :
    Calls Tryz.prog 102 #[.pointer (some ⟨g, off, none⟩)] w fun e w' => ∃ s, e = .returned (.int .i64 s) ∧ CycS xs b s ∧ Below w.heap.size w w' := by
  have HX := Lib.hid (And.intro hW h1)
  have B0 := Lib.hid (Below.refl w.heap.size w)
  obtain ⟨n, hnn⟩ : ∃ n, n = xs.length := ⟨_, rfl⟩
  have HN := Lib.hid hnn
  rw [← hnn] at hn P0
  clear hnn hW h1
  go_enter Tryz.func102, Tryz.ntmps102
  go_wp2
  go_loopw [3, 4] (fun c i wr => ∃ (k : Nat) (m : Int), k ≤ n ∧ i = .int .i64 (k : Int) ∧ c = .int .i64 m ∧ Hid (m = (k : Int) * b + tks xs k) ∧ (0 ≤ m ∧ m ≤ 240) ∧ Hid (tkOk xs k = true ∧ (k = 0 ∨ btw b = true)) ∧ PlAt wr g off (.slice (some ⟨G, 0, none⟩) n n) b o ∧ At wr G (slC xs) T ∧ Hid (Below w.heap.size w wr)) (fun _ i _ => n - (intOf i).toNat)
  case atStart => exact ⟨0, 0, by omega, rfl, rfl, Lib.hid (by simp [tks]), by omega, Lib.hid ⟨rfl, .inl rfl⟩, P0, A0, B0⟩
  case round =>
    clear P0 A0 B0
    obtain ⟨k, m, hk, rfl, rfl, hm, hmr, hT, P1, A1, B1⟩ := hrel
    have c0 : wr.cell? ⟨g, off, none⟩ = some (.slice (some ⟨G, 0, none⟩) n n) := P1.c0
    by_cases hlt : k < n
    · have s2 : IntKind.i64.wrap ((k : Int) + 1) = (k : Int) + 1 := IntWalk.i64_in _ (by omega)
      have kd : (k : Int) < (n : Int) := by omega
      have hkl : k < xs.length := by rw [← HN.out]; exact hlt
      have ct : wr.cell? ⟨G, k * 9 + 8, none⟩ = some (.int .i64 (st xs k)) := A1.cell (slC_ticks HX.out.1 hkl rfl)
      have c1 : wr.cell? ⟨g, off + 1, none⟩ = some (.int .i64 b) := P1.c1
      have KT := l00In_b (st xs k) 1 240 wr
      cases ht : tkOne (st xs k)
      · rw [show inB 1 240 (st xs k) = false from ht] at KT
        have hno := Lib.hid (cOk_tk (b := b) hkl ht)
        clear ht
        go_wp2_with fail
        refine KT.mono ?_
        rintro e w1 ⟨rfl, n1, rfl⟩
        go_wp2_with fail
        go_ret
        exact ⟨_, rfl, ⟨fun h => (by rw [hno.out] at h; cases h), fun _ => by omega, by omega, by omega⟩, bdrew B1.out _⟩
      · rw [show inB 1 240 (st xs k) = true from ht] at KT
        have htr : 1 ≤ st xs k ∧ st xs k ≤ 240 := by simpa [tkOne] using ht
        have hTn := Lib.hid (tkOk_next hT.out.1 ht)
        clear ht
        go_wp2_with fail
        refine KT.mono ?_
        rintro e w1 ⟨rfl, n1, rfl⟩
        clear KT
        have KB := l00In_b b 0 240 (wr.drewN n1)
        have c1' : (wr.drewN n1).cell? ⟨g, off + 1, none⟩ = some (.int .i64 b) := c1
        cases hb : btw b
        · rw [show inB 0 240 b = false from hb] at KB
          have hno := Lib.hid (cOk_btw (xs := xs) hb)
          clear hb
          go_wp2_with fail
          refine KB.mono ?_
          rintro e w2 ⟨rfl, n2, rfl⟩
          go_wp2_with fail
          go_ret
          exact ⟨_, rfl, ⟨fun h => (by rw [hno.out] at h; cases h), fun _ => by omega, by omega, by omega⟩, bdrew B1.out _⟩
        · rw [show inB 0 240 b = true from hb] at KB
          have hbr : 0 ≤ b ∧ b ≤ 240 := by simpa [btw] using hb
          have HB := Lib.hid hb
          clear hb
          go_wp2_with fail
          refine KB.mono ?_
          rintro e w2 ⟨rfl, n2, rfl⟩
          clear KB c1'
          have P2 := (P1.drewN n1).drewN n2
          have A2 := (A1.drewN n1).drewN n2
          have B2 := Lib.hid (bdrew (bdrew B1.out n1) n2)
          generalize hw2 : (wr.drewN n1).drewN n2 = w2 at P2 A2 B2 ⊢
          clear hw2 c0 c1 ct P1 A1 B1
          have c0 : w2.cell? ⟨g, off, none⟩ = some (.slice (some ⟨G, 0, none⟩) n n) := P2.c0
          have c1 : w2.cell? ⟨g, off + 1, none⟩ = some (.int .i64 b) := P2.c1
          have ct : w2.cell? ⟨G, k * 9 + 8, none⟩ = some (.int .i64 (st xs k)) := A2.cell (slC_ticks HX.out.1 hkl rfl)
          have sa : IntKind.i64.wrap (st xs k + b) = st xs k + b := IntWalk.i64_in _ (by omega)
          have sb : IntKind.i64.wrap (m + (st xs k + b)) = m + (st xs k + b) := IntWalk.i64_in _ (by omega)
          have hm2 := Lib.hid (show m + (st xs k + b) = ((k + 1 : Nat) : Int) * b + tks xs (k + 1) from by
            rw [hm.out, show tks xs (k + 1) = tks xs k + st xs k from rfl, show ((k + 1 : Nat) : Int) * b = (k : Int) * b + b from by rw [Int.natCast_add, Int.add_mul]; simp]; omega)
          have hmr2 : 0 ≤ m + (st xs k + b) ∧ m + (st xs k + b) ≤ 1000 := by omega
          by_cases hbig : 240 < m + (st xs k + b)
          · have hno := Lib.hid (cOk_big (k := k + 1) (by omega) HB.out hm2.out hbig)
            go_wp2
            go_quiet (fail)
            go_wp2
            go_ret
            exact ⟨_, rfl, ⟨fun h => (by rw [hno.out] at h; cases h), fun _ => hbig, hmr2.1, hmr2.2⟩, bdrew B2.out _⟩
          · go_wp2
            go_quiet (fail)
            go_wp2
            exact ⟨⟨k + 1, m + (st xs k + b), by omega, by go_num, rfl, hm2, by omega, Lib.hid ⟨hTn.out, .inr HB.out⟩, P2.drewN _, A2.drewN _, Lib.hid (bdrew B2.out _)⟩, by simp [intOf]; omega⟩
    · obtain rfl : n = k := by omega
      have hend : cOk xs b = true ∧ m = cyc xs b := by
        have h := hT.out
        have h3 := hm.out
        rw [HN.out] at h h3
        have hb : btw b = true := h.2.elim (fun h0 => by have := HX.out.2; omega) id
        exact cOk_end hb h.1 h3 hmr.2
      go_wp2
      go_ret
      exact ⟨_, rfl, ⟨fun _ => hend.2, fun h => (by rw [hend.1] at h; cases h), by omega, by omega⟩, B1.out⟩

theorem l04OkO_any (g off : Nat) (G : Nat) (xs : Slots) (b o : Int) (hW : SlW xs) (T : TypeId) (w : World) (P0 : PlAt w g off (.slice (some ⟨G, 0, none⟩) xs.length xs.length) b o) (A0 : At w G (slC xs) T) :
    Calls Tryz.prog 70 #[.pointer (some ⟨g, off, none⟩)] w fun e w' => e = .returned (.bool (okP xs b o)) ∧ Below w.heap.size w w' := by
  have KL := l00In_b ((xs.length : Nat) : Int) 1 8 w
  rw [lenOk_in] at KL
  have c0 : w.cell? ⟨g, off, none⟩ = some (.slice (some ⟨G, 0, none⟩) xs.length xs.length) := P0.c0
  cases hl : lenOk xs
  · rw [hl] at KL
    have hno := Lib.hid (okP_len (b := b) (o := o) hl)
    generalize xs.length = n at c0 KL
    clear P0 A0
    go_enter Tryz.func70, Tryz.ntmps70
    go_wp2_with fail
    refine KL.mono ?_
    rintro e w1 ⟨rfl, n1, rfl⟩
    go_wp2_with fail
    go_ret
    exact ⟨by rw [hno.out]; rfl, bdrew (Below.refl _ _) _⟩
  · rw [hl] at KL
    have hlr : 1 ≤ xs.length ∧ xs.length ≤ 8 := by simpa [lenOk] using hl
    have hyes := Lib.hid (okP_cOk (b := b) (o := o) hl)
    have KC := fun n1 => l04CycleO_any g off G xs b o hW T hlr.1 hlr.2 (w.drewN n1) (P0.drewN n1) (A0.drewN n1)
    have HP := Lib.hid P0
    generalize hnn : xs.length = n at c0 KL P0
    clear P0 A0 hlr hl
    go_enter Tryz.func70, Tryz.ntmps70
    go_wp2_with fail
    refine KL.mono ?_
    rintro e w1 ⟨rfl, n1, rfl⟩
    have B1 := Lib.hid (bdrew (Below.refl w.heap.size w) n1)
    go_wp2_with fail
    refine (KC n1).mono ?_
    rintro e w2 ⟨s, rfl, ⟨hs1, hs2, hs3⟩, hb2⟩
    have P2 := (HP.out.drewN n1).step hb2
    have B2 := Lib.hid (bthen B1.out hb2)
    clear KC HP B1 hb2 c0 KL
    have c2 : w2.cell? ⟨g, off + 2, none⟩ = some (.int .i64 o) := P2.c2
    clear P2
    cases hc : cOk xs b
    · rw [hc] at hyes
      have h240 := hs2 hc
      clear hs1 hs2 hc
      go_wp2
      go_ret
      exact ⟨by rw [hyes.out]; rfl, B2.out⟩
    · rw [hc] at hyes
      obtain rfl := hs1 hc
      have h240 : cyc xs b ≤ 240 := by
        unfold cOk at hc
        simp only [Bool.and_eq_true, decide_eq_true_eq] at hc
        exact hc.2.2
      clear hs1 hs2 hc
      have KI := l00In_b o 0 (cyc xs b - 1) w2
      have he : inB 0 (cyc xs b - 1) o = decide (0 ≤ o ∧ o < cyc xs b) := by unfold inB; exact decide_eq_decide.2 (by omega)
      rw [he] at KI
      generalize decide (0 ≤ o ∧ o < cyc xs b) = dd at KI hyes
      clear he
      generalize cyc xs b = cc at *
      have sc : IntKind.i64.wrap (cc - 1) = cc - 1 := IntWalk.i64_in _ (by omega)
      go_wp2_with fail
      refine KI.mono ?_
      rintro e w3 ⟨rfl, n3, rfl⟩
      go_wp2_with fail
      go_ret
      exact ⟨by rw [hyes.out]; rfl, bdrew B2.out _⟩

end Go.Proofs.YtboahhipobcabaaGreat
