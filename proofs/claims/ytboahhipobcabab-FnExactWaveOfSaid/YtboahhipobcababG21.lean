/-
  SEVERAL TEXTS IN ONE.
-/
import Derived.Test.YtboahhipobcababAtO
import Derived.Test.YtboahhipobcababG15
import Derived.Test.YtboahhipobcababG18

/-
  CONTRACTS: plans at an address within a block: greens, as the model has them.
-/
namespace Go.Proofs.Ytboahhipobcabab
open Go Go.ChangeShapes Go.WideShapes Go.ChangeAt Go.RowKit
set_option maxRecDepth 100000
set_option maxHeartbeats 1000000 in
theorem l04GreensO_any (g off : Nat) (G : Nat) (xs : Slots) (b o : Int) (hW : SlW xs) (T : TypeId) (hok : okP xs b o = true) (m : Nat) (hm : m < 8) (w : World) (P0 : PlAt w g off (.slice (some ⟨G, 0, none⟩) xs.length xs.length) b o) (A0 : At w G (slC xs) T) :
    Calls Try.prog 99 #[.pointer (some ⟨g, off, none⟩), .int .i64 (m : Int)] w fun e w' => ∃ v, e = .returned (.tuple #[v, .int .i64 ((cnt (gre b xs m) (cyc xs b).toNat : Nat) : Int)]) ∧ Own1 w' w.heap.size v (cyc xs b).toNat (gL b xs m (cyc xs b).toNat) ∧ Below w.heap.size w w' := by
  obtain ⟨hl, hb, htk, hc, ho⟩ := okP_parts hok
  have hI : (Try.prog.info? 4).map (fun i => (i.zero, i.size, i.bytes)) = some (some (.bool false), 1, 1) := by kernel_rfl
  obtain ⟨i0, hi, hz0, hz1, hz2⟩ := info_parts hI
  have P1 := P0.alloc (.cells #[] 4)
  have A1 := A0.alloc (.cells #[] 4)
  have O1 := Own1.empty w
  have B1 := Lib.hid (b0 w (.cells #[] 4))
  have KC := fun wr hP hA => l04CycleO_any g off G xs b o hW T hl.1 hl.2 wr hP hA
  have KA := fun (k : Nat) (hk : (k : Int) < 240) wr hP hA => l04AtO_any g off G xs b o hW T hl.2 hb htk (k : Int) ⟨by omega, by omega⟩ wr hP hA
  have hcO := cOk_of hok
  have hlen8 := fun (k : Nat) => atS_len (b := b) (c := (k : Int)) hW
  have hbnd : 0 < cyc xs b ∧ cyc xs b ≤ 240 := by omega
  obtain ⟨N, hN⟩ : ∃ N : Nat, cyc xs b = N := ⟨(cyc xs b).toNat, by omega⟩
  have hNt : (cyc xs b).toNat = N := by omega
  rw [hNt]
  have HN := Lib.hid hN
  rw [hN] at hbnd
  have hgl := P0.lt
  have hGl := A0.lt
  clear hI hok hl hb htk hc ho hW P0 A0 hN hNt
  generalize xs.length = n at P1 KC KA
  have hzc : (Value.bool false).cells.size = 1 := rfl
  go_enter Try.func99, Try.ntmps99
  go_wp2_with ((with_reducible refine is_bslice 151 0 _ rfl ?_); refine wpList_bslice rfl 151 0 _ rfl #[] rfl _ (run_bool0 _) ?_)
  go_loopw [6, 7, 8] (fun v cc i wr => ∃ (k c : Nat), k ≤ N ∧ i = .int .i64 (k : Int) ∧ cc = .int .i64 (c : Int) ∧ c ≤ k ∧ Hid (c = cnt (gre b xs m) k) ∧ Own1 wr w.heap.size v k (gL b xs m k) ∧ PlAt wr g off (.slice (some ⟨G, 0, none⟩) n n) b o ∧ At wr G (slC xs) T ∧ Hid (Below w.heap.size w wr)) (fun _ _ i _ => N - (intOf i).toNat)
  case atStart => exact ⟨0, 0, by omega, rfl, rfl, by omega, Lib.hid rfl, O1, P1, A1, B1⟩
  case round =>
    clear P1 A1 O1 B1
    obtain ⟨k, c, hk, rfl, rfl, hck, hcc, O1, P1, A1, B1⟩ := hrel
    obtain ⟨av, cv, rfl⟩ := O1.any
    have KC1 := KC wr P1 A1
    go_wp2_with fail
    refine KC1.mono ?_
    rintro e w1 ⟨s, rfl, ⟨hs, -, -, -⟩, hb1⟩
    obtain rfl := (hs hcO).trans HN.out
    have P2 := P1.step hb1
    have A2 := A1.step hb1
    have O2 := O1.step hb1
    have B2 := Lib.hid (bthen B1.out hb1)
    clear P1 A1 O1 B1 hb1 KC1 hs
    by_cases hlt : k < N
    · have kd : (k : Int) < (N : Int) := by omega
      have s2 : IntKind.i64.wrap ((k : Int) + 1) = (k : Int) + 1 := IntWalk.i64_in _ (by omega)
      have KA1 := KA k (by omega) w1 P2 A2
      have h8 := hlen8 k
      have hgr : gre b xs m k = bn (atS b xs (k : Int)).1 m := rfl
      have hgL := gL_next b xs m k
      have hcn : cnt (gre b xs m) (k + 1) = cnt (gre b xs m) k + (if gre b xs m k then 1 else 0) := rfl
      rw [hgr] at hcn hgL
      generalize (atS b xs (k : Int)).1 = rw8 at KA1 h8 hcn hgL
      generalize (atS b xs (k : Int)).2 = lf at KA1
      have SZV : (bl rw8).size = 8 := by rw [bl_size, h8]
      clear hgr
      go_wp2_with fail
      refine KA1.mono ?_
      rintro e w2 ⟨rfl, hb2⟩
      have BI : Below w1.heap.size w1 ((w2.alloc (.cells #[.bool false, .bool false, .bool false, .bool false, .bool false, .bool false, .bool false, .bool false] 69)).setRow w2.heap.size (bl rw8)) := bthen hb2 (bset (b0 _ _) (Nat.le_refl _) _)
      have I0 := At.new w2 #[.bool false, .bool false, .bool false, .bool false, .bool false, .bool false, .bool false, .bool false] 69
      have I6 := I0.setRow (bl rw8)
      have P3 := P2.step BI
      have A3 := A2.step BI
      have O3 := O2.step BI
      have B3 := Lib.hid (bthen B2.out BI)
      have ce := I6.cell (bl_get (bs := rw8) (k := m) (by omega))
      have BA : Below ((w2.alloc (.cells #[.bool false, .bool false, .bool false, .bool false, .bool false, .bool false, .bool false, .bool false] 69)).setRow w2.heap.size (bl rw8)).heap.size ((w2.alloc (.cells #[.bool false, .bool false, .bool false, .bool false, .bool false, .bool false, .bool false, .bool false] 69)).setRow w2.heap.size (bl rw8)) (((w2.alloc (.cells #[.bool false, .bool false, .bool false, .bool false, .bool false, .bool false, .bool false, .bool false] 69)).setRow w2.heap.size (bl rw8)).alloc (.cells #[.bool (bn rw8 m)] 4)) := b0 _ _
      have P4 := P3.step BA
      have A4 := A3.step BA
      have O4 := O3.step BA
      have I7 := I6.step BA
      have B4 := Lib.hid (bthen B3.out BA)
      have OB := O4.block
      have HS8 := Lib.hid (show w2.heap.size + 1 = ((w2.alloc (.cells #[.bool false, .bool false, .bool false, .bool false, .bool false, .bool false, .bool false, .bool false] 69)).setRow w2.heap.size (bl rw8)).heap.size from by simp [World.setRow])
      have hbase : w.heap.size ≤ (((w2.alloc (.cells #[.bool false, .bool false, .bool false, .bool false, .bool false, .bool false, .bool false, .bool false] 69)).setRow w2.heap.size (bl rw8)).alloc (.cells #[.bool (bn rw8 m)] 4)).heap.size := B4.out.size
      have hOB : ∀ kk, (Value.slice av k cv).ownBlock = some kk → kk ≠ w2.heap.size := by
        intro kk hkk
        have := (O2.block kk hkk).2
        have := hb2.size
        omega
      clear P2 A2 O2 B2 BI KA1 hb2 P3 A3 B3 BA
      generalize hx : bn rw8 m = x at *
      go_wp2_with (first | ((with_reducible refine is_store 69 _ _ rfl ?_); refine wpList_store_at rfl 69 _ _ rfl _ rfl (bl rw8) rfl (#[.bool false, .bool false, .bool false, .bool false, .bool false, .bool false, .bool false, .bool false]) _ (by with_reducible assumption) 8 (SZV) (rfl) (by kernel_rfl) (bl_one _) ?_) | ((with_reducible refine is_bslice 151 1 _ rfl ?_); refine wpList_bslice rfl 151 1 _ rfl #[(0, .bool x)] rfl _ (run_bool1 _ x) ?_) | (at_builtin; go_loud (refine wpList_append_own _ rfl _ _ 151 rfl w.heap.size 4 i0 (.bool false) 1 1 Try.underlying151 hi hz0 hz1 hz2 hzc (by decide) _ k _ rfl O4 ⟨w2.heap.size + 1, 0, none⟩ 1 1 [.bool x] rfl rfl (one_cells _ x _ HS8.out) (fun u hu => by simp at hu; subst hu; rfl) (by unfold maxLen; omega) (by omega) hbase ?_)))
      intro v' w' hown hgrow _
      have O5 : Own1 w' w.heap.size v' (k + 1) (gL b xs m (k + 1)) := by
        have := hown
        unfold Own1
        rw [hgL, List.map_append]
        exact this
      have hb5 := Below.grownBy hgrow hbase (fun kk hkk => (OB kk hkk).1)
      have P5 : PlAt w' g off (.slice (some ⟨G, 0, none⟩) n n) b o := P4.of_block (hgrow.block _ P4.lt (fun e => by have := (OB _ e.symm).1; omega))
      have A5 : At w' G (slC xs) T := (hgrow.block _ A4.lt (fun e => by have := (OB _ e.symm).1; omega)).trans A4
      have I8 : At w' w2.heap.size (bl rw8) 69 := (hgrow.block _ I7.lt (fun e => hOB _ e.symm rfl)).trans I7
      have B5 := Lib.hid (B4.out.trans hb5)
      have ce5 : w'.cell? ⟨w2.heap.size, m, none⟩ = some (.bool x) := by rw [← hx]; exact I8.cell (bl_get (by omega))
      have sc : IntKind.i64.wrap ((c : Int) + 1) = (c : Int) + 1 := IntWalk.i64_in _ (by omega)
      have HC := Lib.hid hcn
      clear I0 I6 P4 A4 O3 O4 I7 I8 B4 OB hbase hOB hown hgrow hb5 ce hx hcn hgl hGl
      cases x
      · go_wp2
        exact ⟨⟨k + 1, c, by omega, by go_num, rfl, by omega, Lib.hid (by rw [HC.out, hcc.out]; rfl), O5, P5, A5, B5⟩, by simp [intOf]; omega⟩
      · go_wp2
        exact ⟨⟨k + 1, c + 1, by omega, by go_num, rfl, by omega, Lib.hid (by rw [HC.out, hcc.out]; rfl), O5, P5, A5, B5⟩, by simp [intOf]; omega⟩
    · obtain rfl : k = N := by omega
      go_wp2
      go_ret2
      exact ⟨_, by rw [hcc.out]; rfl, O2, B2.out⟩

end Go.Proofs.Ytboahhipobcabab

/-
  CONTRACTS: l04Begin.
-/
namespace Go.Proofs.Ytboahhipobcabab
open Go Go.ChangeShapes Go.WideShapes Go.ChangeAt Go.RowKit
set_option maxRecDepth 100000

theorem bn_gL {b : Int} {xs : Slots} {m n k : Nat} (h : k < n) : bn (gL b xs m n) k = gre b xs m k := by
  unfold bn gL
  rw [List.getD_eq_getElem?_getD]
  simp [List.getElem?_range h]

theorem grp_zero {b : Int} {xs : Slots} {m : Nat} {N : Int} {j : Nat} (h : j < N.toNat) : grp b xs m N 0 j = gre b xs m j := by
  unfold grp
  rw [Int.zero_add, Int.emod_eq_of_lt (by omega) (by omega), Int.toNat_natCast]

theorem l04BeginO_any (g off : Nat) (G : Nat) (xs : Slots) (b o : Int) (hW : SlW xs) (T : TypeId) (hok : okP xs b o = true) (m : Nat) (hm : m < 8) (hg : 0 < cnt (gre b xs m) (cyc xs b).toNat) (w : World) (P0 : PlAt w g off (.slice (some ⟨G, 0, none⟩) xs.length xs.length) b o) (A0 : At w G (slC xs) T) :
    Calls Try.prog 57 #[.pointer (some ⟨g, off, none⟩), .int .i64 (m : Int)] w fun e w' => e = .returned (.int .i64 (bg xs b m : Int)) ∧ Below w.heap.size w w' := by
  obtain ⟨-, -, -, hc, ho⟩ := okP_parts hok
  obtain ⟨h1, h2⟩ := bg_lt (by omega) hg
  have hno : ∀ j, j < bg xs b m → gre b xs m j = false := fun j hj => by
    rw [← grp_zero (N := cyc xs b) (by omega)]; exact fnd_no hj
  rw [grp_zero h2] at h1
  have KG := l04GreensO_any g off G xs b o hW T hok m hm w P0 A0
  have HN := Lib.hid (And.intro hno h1)
  have hN : (cyc xs b).toNat ≤ 240 := by omega
  clear hno h1 hc ho hok hg P0 A0
  obtain ⟨d, hd⟩ : ∃ d, d = bg xs b m := ⟨_, rfl⟩
  rw [← hd] at h2 HN ⊢
  obtain ⟨N, hNN⟩ : ∃ N, N = (cyc xs b).toNat := ⟨_, rfl⟩
  rw [← hNN] at KG h2 hN
  clear hd hNN
  go_enter Try.func57, Try.ntmps57
  go_wp2_with fail
  refine KG.mono ?_
  rintro e w1 ⟨v, rfl, O1, hb1⟩
  obtain ⟨g1, cap, cur, rfl, -, A1, hcur⟩ := O1.at (by omega)
  have HC := Lib.hid hcur
  clear KG O1 hcur
  go_wp2_with fail
  go_loopw [7] (fun iv wr => ∃ i : Nat, i ≤ d ∧ iv = .int .i64 (i : Int) ∧ Hid (Below w1.heap.size w1 wr)) (fun iv _ => d - (intOf iv).toNat)
  case atStart => exact ⟨0, by omega, rfl, Lib.hid (Below.refl _ _)⟩
  case round =>
    obtain ⟨i, hi, rfl, B1⟩ := hrel
    have kd : (i : Int) < (N : Int) := by omega
    have s2 : IntKind.i64.wrap ((i : Int) + 1) = (i : Int) + 1 := IntWalk.i64_in _ (by omega)
    have ct := (A1.step B1.out).cell (HC.out i (by omega))
    rw [bn_gL (by omega)] at ct
    by_cases hlt : i < d
    · rw [HN.out.1 i hlt] at ct
      go_wp2_with fail
      exact ⟨⟨i + 1, by omega, by go_num, B1⟩, by simp [intOf]; omega⟩
    · obtain rfl : i = d := by omega
      rw [HN.out.2] at ct
      go_wp2_with fail
      go_ret
      exact ⟨rfl, bthen hb1 B1.out⟩

end Go.Proofs.Ytboahhipobcabab
