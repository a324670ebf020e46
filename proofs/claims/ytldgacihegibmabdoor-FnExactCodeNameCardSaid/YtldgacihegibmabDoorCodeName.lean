/-
  THE CARD OF FnExactCodeName: the program's CodeName answers as its model, at every code; the package's table holds its nine names.
-/
import Derived.Test.YtldgacihegibmabDoorCards
import Derived.Test.YtldgacihegibmabDoorTie
import Derived.WalkKit
import Derived.WalkSpells
import Derived.WalkLawsBesides
import Derived.ProofKit
import Derived.OpenShut
import Derived.ChangeVars
import Derived.Deep.DeepHandedRow
import Derived.Lib.LaidTab
import Derived.Lib.Hide
namespace Go.Proofs.YtldgacihegibmabDoor.codeName
open Go Go.ChangeShapes Go.WideShapes Go.ChangeAt Go.RowKit

theorem own : ownKnob Tryd.prog.godebug = none := by kernel_rfl
theorem gTab : Tryd.prog.globalNamed "loop.example/g01227/impl.codeNames" = some 0 := by kernel_rfl
theorem gTabType : (Tryd.prog.globals[0]?).map (·.type) = some 46 := by kernel_rfl
theorem cells46 : Tryd.prog.cellsOf 46 = 9 := by kernel_rfl
theorem cells9 : Tryd.prog.cellsOf 9 = 1 := by kernel_rfl

/-- the nine names, as letters -/
def letters : List (List UInt8) :=
  [[111, 107], [105, 110, 118, 97, 108, 105, 100], [114, 97, 110, 103, 101], [108, 105, 109, 105, 116], [115, 116, 97, 116, 101], [115, 121, 110, 116, 97, 120], [110, 111, 116, 102, 111, 117, 110, 100], [98, 117, 100, 103, 101, 116], [112, 114, 111, 111, 102]]
def cellsN : List Value := letters.map fun s => .string ⟨s.toArray⟩
def dataN {H : Type} : DataW H := .agg (letters.map fun s => .lit (.string s))

/-- an array of strings that reads as letters holds just them -/
theorem cells_of_names {H : Type} {enc : TypeId × Value → H} {P : Program} {w : World} {base : Nat} {sp : Nat → Bool} {held : Bool} {fuel : Nat} {t e : TypeId} {n : Nat} {cs : List Value} {zs : List (List UInt8)} {p : List MemPlace}
    (ht : P.underlying t = some (.array n e)) (he : P.underlying e = some .string) (hce : P.cellsOf e = 1) (hct : P.cellsOf t = n)
    (h : DataW.trod enc P w base sp held fuel t cs = some (.agg (zs.map fun s => .lit (.string s)), p)) : cs = zs.map fun s => Value.string ⟨s.toArray⟩ := by
  cases fuel with
  | zero => simp [DataW.trod] at h
  | succ fuel =>
    simp only [DataW.trod, ht, hce, hct, Nat.mul_one] at h
    split at h
    · rename_i hl
      obtain ⟨xs, hm, hx⟩ := Option.map_eq_some_iff.1 h
      have hxs : xs.map (·.1) = zs.map fun s => (DataW.lit (.string s) : DataW H) := by
        have := congrArg Prod.fst hx
        simpa using this
      have hxl : xs.length = n := by simpa using Lib.mapM_length hm
      have hzl : zs.length = n := by
        have := congrArg List.length hxs
        simp at this
        omega
      apply List.ext_getElem?
      intro i
      by_cases hi : i < n
      · obtain ⟨b, hb, hf⟩ := Lib.mapM_at hm i i (by simp [hi])
        have hci : i < cs.length := by omega
        have h1 : (cs.drop i).take 1 = [cs[i]] := by
          rw [List.drop_eq_getElem_cons hci]; rfl
        rw [h1] at hf
        have h2 : (xs.map (·.1))[i]? = some b.1 := by simp [hb]
        rw [hxs, List.getElem?_map, Option.map_eq_some_iff] at h2
        obtain ⟨s, hs, hb1⟩ := h2
        rw [List.getElem?_eq_getElem hci, List.getElem?_map, hs]
        cases fuel with
        | zero => simp [DataW.trod] at hf
        | succ fuel =>
          rcases b with ⟨b, q⟩
          simp only at hb1
          subst hb1
          generalize hv : cs[i] = v at hf ⊢
          simp only [DataW.trod, he] at hf
          split at hf <;> simp_all
          obtain ⟨-, hd, -⟩ := hf
          subst hd
          rfl
      · rw [List.getElem?_eq_none (by omega), List.getElem?_eq_none (by simp; omega)]
    · cases h

theorem var_kept {P : Program} {w w' : World} {n : String} {cs : Array Value} (hk : w.keptBut w' (fun _ => False)) (h : w.var? P n = some cs) : w'.var? P n = some cs := by
  simp only [World.var?] at h ⊢
  cases hg : P.globalNamed n with
  | none => rw [hg] at h; cases h
  | some g =>
    rw [hg] at h
    simp only [Option.bind_some] at h ⊢
    have lt : g < w.heap.size := by
      rcases Nat.lt_or_ge g w.heap.size with lt | hh
      · exact lt
      · rw [Array.getElem?_eq_none hh] at h
        cases h
    have := hk.2.2 g lt
    split at h
    · rename_i c t fr hb
      cases h
      rw [hb] at this
      cases hb' : w'.heap[g]? with
      | none => rw [hb'] at this; cases this
      | some o =>
        rw [hb'] at this
        cases o with
        | cells c' t' fr' =>
          obtain ⟨-, -, hs, hc⟩ := this
          simp only [Option.some.injEq]
          apply Array.ext_getElem?
          intro j
          exact hc j (fun f => f)
        | _ => cases this
    · cases h

/-- what the row's list gives -/
theorem table {W : World} (hH : laidMetH Tryd.prog Rows.fnExactCodeNameRow.laid W) : W.var? Tryd.prog "loop.example/g01227/impl.codeNames" = some cellsN.toArray := by
  have h : laidMet Tryd.prog Rows.fnExactCodeNameRow.laid W := hH
  obtain ⟨ps, ⟨g', t', cs, fuel, p, q, hg', ht', hvar, hd, _, _⟩, _⟩ := h
  obtain rfl := Option.some.inj (gTab.symm.trans hg')
  obtain rfl := Option.some.inj (gTabType.symm.trans ht')
  have : cs.toList = cellsN := cells_of_names (zs := letters) Tryd.underlying46 Tryd.underlying9 cells9 cells46 hd
  rw [hvar, ← this]

theorem bsize (d : Array UInt8) : (ByteArray.mk d).size = d.size := rfl
theorem trod_names {H : Type} {enc : TypeId × Value → H} {w : World} {base : Nat} {sp : Nat → Bool} {held : Bool} (m : Nat) :
    DataW.trod enc Tryd.prog w base sp held (m + 2) 46 cellsN = some (dataN, []) := by
  simp [DataW.trod, Tryd.underlying46, Tryd.underlying9, cells9, cells46, cellsN, letters, dataN, List.range, List.range.loop, maxLen, bsize]
set_option maxRecDepth 100000 in
theorem trod_names_eq {H : Type} {enc : TypeId × Value → H} {w : World} {base : Nat} {sp : Nat → Bool} {held : Bool} {fuel : Nat} {d : DataW H} {p : List MemPlace}
    (h : DataW.trod enc Tryd.prog w base sp held fuel 46 cellsN = some (d, p)) : d = dataN ∧ p = [] := by
  match fuel, h with
  | 0, h => simp [DataW.trod] at h
  | 1, h => simp [DataW.trod, Tryd.underlying46, cells46, cellsN, letters, List.range, List.range.loop] at h
  | m + 2, h =>
    rw [trod_names m] at h
    cases h
    exact ⟨rfl, rfl⟩

/-- the letters of a code's name -/
def nameOf (c : Int) : List UInt8 := if c < 0 then [] else if 8 < c then [] else letters.getD c.toNat []
def nameV (c : Int) : Value := .string ⟨(nameOf c).toArray⟩

theorem in_cases {c : Int} (h0 : 0 ≤ c) (h8 : c ≤ 8) : c = 0 ∨ c = 1 ∨ c = 2 ∨ c = 3 ∨ c = 4 ∨ c = 5 ∨ c = 6 ∨ c = 7 ∨ c = 8 := by omega

theorem l00In_any (c : Int) (w : World) :
    Calls Tryd.prog 21 #[.int .i64 c, .int .i64 0, .int .i64 8] w fun e w' => e = .returned (.bool (decide (0 ≤ c) && decide (c ≤ 8))) ∧ w' = w := by
  go_enter Tryd.func21, Tryd.ntmps21
  go_wp2
  all_goals go_ret
  all_goals exact ⟨by simp_all <;> omega, rfl⟩

set_option maxHeartbeats 4000000 in
theorem sCode_in (c : Int) (h0 : 0 ≤ c) (h8 : c ≤ 8) (w : World) :
    Calls Tryd.prog 8 #[.int .i64 c] w fun e w' => e = .returned (nameV c) ∧ Grown w w' := by
  have L : ∀ w, Calls Tryd.prog 21 #[.int .i64 c, .int .i64 0, .int .i64 8] w fun e w' => e = .returned (.bool true) ∧ w' = w := fun w =>
    (l00In_any c w).mono fun _ _ ⟨h, h'⟩ => ⟨by rw [h]; simp [h0, h8], h'⟩
  rcases in_cases h0 h8 with rfl | rfl | rfl | rfl | rfl | rfl | rfl | rfl | rfl
  all_goals
    go_enter Tryd.func8, Tryd.ntmps8
    go_wp2_with (first | (go_at_call 21; refine (L _).mono ?_; rintro e w' ⟨rfl, rfl⟩))
    go_ret
    exact ⟨rfl, by repeat (first | exact Grown.refl _ | apply Grown.drew | apply Grown.alloc)⟩

theorem sCode_out (c : Int) (h : c < 0 ∨ 8 < c) (w : World) :
    Calls Tryd.prog 8 #[.int .i64 c] w fun e w' => e = .returned (nameV c) ∧ Grown w w' := by
  have L : ∀ w, Calls Tryd.prog 21 #[.int .i64 c, .int .i64 0, .int .i64 8] w fun e w' => e = .returned (.bool false) ∧ w' = w := fun w =>
    (l00In_any c w).mono fun _ _ ⟨e, h'⟩ => ⟨by rw [e]; simp; omega, h'⟩
  have hn : nameV c = .string ⟨#[]⟩ := by
    unfold nameV nameOf
    rcases h with h | h
    · rw [if_pos h]
    · rw [if_neg (by omega), if_pos h]
  rw [hn]
  clear hn h
  go_enter Tryd.func8, Tryd.ntmps8
  go_wp2_with (first | (go_at_call 21; refine (L _).mono ?_; rintro e w' ⟨rfl, rfl⟩))
  go_ret
  exact ⟨rfl, by repeat (first | exact Grown.refl _ | apply Grown.drew | apply Grown.alloc)⟩

theorem code_out (c : Int) (h : c < 0 ∨ 8 < c) (w : World) :
    Calls Tryd.prog 9 #[.int .i64 c] w fun e w' => e = .returned (nameV c) ∧ Grown w w' := by
  have hn : nameV c = .string ⟨#[]⟩ := by
    unfold nameV nameOf
    rcases h with h | h
    · rw [if_pos h]
    · rw [if_neg (by omega), if_pos h]
  rw [hn]
  clear hn
  rcases h with h | h
  · go_enter Tryd.func9, Tryd.ntmps9
    go_wp2
    go_ret
    exact ⟨rfl, by repeat (first | exact Grown.refl _ | apply Grown.drew | apply Grown.alloc)⟩
  · have h' : ¬ c < 0 := by omega
    have h9 : 9 ≤ c := by omega
    go_enter Tryd.func9, Tryd.ntmps9
    go_wp2
    go_ret
    exact ⟨rfl, by repeat (first | exact Grown.refl _ | apply Grown.drew | apply Grown.alloc)⟩

set_option maxHeartbeats 4000000 in
theorem code_in (c : Int) (h0 : 0 ≤ c) (h8 : c ≤ 8) (w : World) (hv : w.var? Tryd.prog "loop.example/g01227/impl.codeNames" = some cellsN.toArray) :
    Calls Tryd.prog 9 #[.int .i64 c] w fun e w' => e = .returned (nameV c) ∧ Grown w w' := by
  have H : ∀ i, w.cell? ⟨0, i, none⟩ = cellsN.toArray[i]? := World.var?_cell gTab hv
  clear hv
  rcases in_cases h0 h8 with rfl | rfl | rfl | rfl | rfl | rfl | rfl | rfl | rfl
  · have c0 : w.cell? ⟨0, 0, none⟩ = some (.string ⟨#[111, 107]⟩) := H 0
    clear H h0 h8
    go_enter Tryd.func9, Tryd.ntmps9
    go_wp2
    go_ret
    exact ⟨rfl, by repeat (first | exact Grown.refl _ | apply Grown.drew | apply Grown.alloc)⟩
  · have c0 : w.cell? ⟨0, 1, none⟩ = some (.string ⟨#[105, 110, 118, 97, 108, 105, 100]⟩) := H 1
    clear H h0 h8
    go_enter Tryd.func9, Tryd.ntmps9
    go_wp2
    go_ret
    exact ⟨rfl, by repeat (first | exact Grown.refl _ | apply Grown.drew | apply Grown.alloc)⟩
  · have c0 : w.cell? ⟨0, 2, none⟩ = some (.string ⟨#[114, 97, 110, 103, 101]⟩) := H 2
    clear H h0 h8
    go_enter Tryd.func9, Tryd.ntmps9
    go_wp2
    go_ret
    exact ⟨rfl, by repeat (first | exact Grown.refl _ | apply Grown.drew | apply Grown.alloc)⟩
  · have c0 : w.cell? ⟨0, 3, none⟩ = some (.string ⟨#[108, 105, 109, 105, 116]⟩) := H 3
    clear H h0 h8
    go_enter Tryd.func9, Tryd.ntmps9
    go_wp2
    go_ret
    exact ⟨rfl, by repeat (first | exact Grown.refl _ | apply Grown.drew | apply Grown.alloc)⟩
  · have c0 : w.cell? ⟨0, 4, none⟩ = some (.string ⟨#[115, 116, 97, 116, 101]⟩) := H 4
    clear H h0 h8
    go_enter Tryd.func9, Tryd.ntmps9
    go_wp2
    go_ret
    exact ⟨rfl, by repeat (first | exact Grown.refl _ | apply Grown.drew | apply Grown.alloc)⟩
  · have c0 : w.cell? ⟨0, 5, none⟩ = some (.string ⟨#[115, 121, 110, 116, 97, 120]⟩) := H 5
    clear H h0 h8
    go_enter Tryd.func9, Tryd.ntmps9
    go_wp2
    go_ret
    exact ⟨rfl, by repeat (first | exact Grown.refl _ | apply Grown.drew | apply Grown.alloc)⟩
  · have c0 : w.cell? ⟨0, 6, none⟩ = some (.string ⟨#[110, 111, 116, 102, 111, 117, 110, 100]⟩) := H 6
    clear H h0 h8
    go_enter Tryd.func9, Tryd.ntmps9
    go_wp2
    go_ret
    exact ⟨rfl, by repeat (first | exact Grown.refl _ | apply Grown.drew | apply Grown.alloc)⟩
  · have c0 : w.cell? ⟨0, 7, none⟩ = some (.string ⟨#[98, 117, 100, 103, 101, 116]⟩) := H 7
    clear H h0 h8
    go_enter Tryd.func9, Tryd.ntmps9
    go_wp2
    go_ret
    exact ⟨rfl, by repeat (first | exact Grown.refl _ | apply Grown.drew | apply Grown.alloc)⟩
  · have c0 : w.cell? ⟨0, 8, none⟩ = some (.string ⟨#[112, 114, 111, 111, 102]⟩) := H 8
    clear H h0 h8
    go_enter Tryd.func9, Tryd.ntmps9
    go_wp2
    go_ret
    exact ⟨rfl, by repeat (first | exact Grown.refl _ | apply Grown.drew | apply Grown.alloc)⟩

theorem Grown.trans' {a b c : World} (h : Grown a b) (k : Grown b c) : Grown a c := by
  refine ⟨World.keptBut_trans h.1 k.1, fun x => (k.2.1 x).trans (h.2.1 x), Nat.le_trans h.2.2 k.2.2⟩

theorem walk (c : Int) (w : World) (hv : w.var? Tryd.prog "loop.example/g01227/impl.codeNames" = some cellsN.toArray) :
    Calls Tryd.prog 3 #[.int .i64 c] w fun e w' => e = .returned (.bool true) ∧ Grown w w' := by
  have S : ∀ w, Calls Tryd.prog 8 #[.int .i64 c] w fun e w' => e = .returned (nameV c) ∧ Grown w w' := fun w =>
    if h : 0 ≤ c ∧ c ≤ 8 then sCode_in c h.1 h.2 w else sCode_out c (by omega) w
  have C : ∀ w, w.var? Tryd.prog "loop.example/g01227/impl.codeNames" = some cellsN.toArray → Calls Tryd.prog 9 #[.int .i64 c] w fun e w' => e = .returned (nameV c) ∧ Grown w w' := fun w hv =>
    if h : 0 ≤ c ∧ c ≤ 8 then code_in c h.1 h.2 w hv else code_out c (by omega) w
  have V := Lib.hid hv
  clear hv
  simp only [nameV] at S C
  generalize nameOf c = nm at S C
  have S' := Lib.hid S
  have C' := Lib.hid C
  clear S C
  go_enter Tryd.func3, Tryd.ntmps3
  go_wp2_with (first
    | (go_at_call 8; refine (S'.out _).mono ?_; rintro e w1 ⟨rfl, G1⟩; replace V := Lib.hid (var_kept G1.1 V.out); replace G1 := Lib.hid G1)
    | (go_at_call 9; refine (C'.out _ V.out).mono ?_; rintro e w2 ⟨rfl, G2⟩; replace G2 := Lib.hid G2))
  go_ret
  exact ⟨rfl, Grown.trans' G1.out G2.out⟩

set_option maxRecDepth 100000 in
/-- what the walk gives, for every argument and every world that holds the table -/
theorem contract (H : Type) (enc : TypeId × Value → H) (W : World) (base : Nat) (args : Array Value) (ds gs : List (DataW H)) (before : List MemPlace)
    (hval : ∀ (j : Nat) t v, Tryd.f3.params[j]? = some t → args[j]? = some v → Value.okWide Tryd.prog W .any base t v)
    (hW : DataW.Whole enc Tryd.prog Tryd.f3.params.toList Rows.fnExactCodeNameSpec.vars false W args.toList ds gs before) (hL : laidMetH Tryd.prog Rows.fnExactCodeNameRow.laid W) :
    Calls Tryd.prog 3 args W fun e W' => ∃ v, e = .returned v ∧ Rows.fnExactCodeNameSpec.post enc Tryd.prog Tryd.f3 false true false false W args v W' := by
  have hW' := hW
  obtain ⟨p, q, hA0, hV, rfl, hfz, hnd⟩ := hW
  have hA : DataW.TrodAll enc Tryd.prog W 0 (fun _ => true) true Tryd.f3.params.toList args.toList ds p := hA0
  rw [Tryd.params3] at hA hval
  obtain ⟨v0, vs0, d0, ds0, p0, q0, hargs, rfl, rfl, h0, r0⟩ := trodAll_cons hA
  obtain ⟨rfl, rfl, rfl⟩ := trodAll_nil r0
  obtain rfl : args = #[v0] := by cases args; simp_all
  have hT := table hL
  obtain ⟨g, t, cs, fuel, d, p', rfl, hg, ht, hvar, hd, rfl⟩ := trodVars_one hV
  obtain rfl := Option.some.inj (gTab.symm.trans hg)
  obtain rfl := Option.some.inj (gTabType.symm.trans ht)
  obtain rfl : cs = cellsN.toArray := Option.some.inj (hvar.symm.trans hT)
  obtain ⟨rfl, rfl⟩ := trod_names_eq hd
  obtain ⟨c, rfl, rfl, rfl, hwf⟩ := open_int Tryd.underlying2 (hval 0 2 v0 rfl rfl) h0
  clear hA0 hV hd
  refine (walk c W hT).mono fun e W' ⟨he, hgr⟩ => ?_
  subst he
  have hT' := var_kept hgr.1 hT
  exact ⟨_, rfl, post_of_same (pa := []) (pv := MemPlace.row ⟨0, 0, none⟩ cellsN.toArray.size ++ []) hW'
    (fun _ _ _ => trodAll_cons_mk (shut_bool Tryd.underlying4 _) trodAll_mk0) (fun _ _ => trodAll_cons_mk (shut_int Tryd.underlying2 hwf) trodAll_mk0)
    (fun _ _ => trodVars_mk1 gTab gTabType hT' (trod_names 0)) rfl
    (hgr.frame _) hgr.2.1 (ok_one (by kernel_rfl) rfl (okWide_bool_mk Tryd.underlying4 _))⟩

/-- a world for the witness: the settled one, the table holding what its initialiser lays -/
noncomputable def laidWorld (os : Os) : World :=
  { World.holding Tryd.prog os ⟨#[], #[], []⟩ with heap := (World.holding Tryd.prog os ⟨#[], #[], []⟩).heap.modify 0 fun
      | .cells _ t frozen => .cells #[.string ⟨#[111, 107]⟩, .string ⟨#[105, 110, 118, 97, 108, 105, 100]⟩, .string ⟨#[114, 97, 110, 103, 101]⟩, .string ⟨#[108, 105, 109, 105, 116]⟩, .string ⟨#[115, 116, 97, 116, 101]⟩, .string ⟨#[115, 121, 110, 116, 97, 120]⟩, .string ⟨#[110, 111, 116, 102, 111, 117, 110, 100]⟩, .string ⟨#[98, 117, 100, 103, 101, 116]⟩, .string ⟨#[112, 114, 111, 111, 102]⟩] t frozen
      | o => o }
theorem laid_met (os : Os) : laidMet Tryd.prog Rows.fnExactCodeNameRow.laid ((laidWorld os).forCall (fun _ _ => 0) ⟨#[], #[.int .i64 0], []⟩).memory :=
  laidMet_of_run' 8 (by kernel_rfl) (by kernel_rfl)
theorem reads (os : Os) {H : Type} (enc : TypeId × Value → H) : ∃ places, DataW.whole enc Tryd.prog ((laidWorld os).forCall (fun _ _ => 0) ⟨#[], #[.int .i64 0], []⟩).memory Tryd.f3.params.toList Rows.fnExactCodeNameSpec.vars false #[Value.int .i64 0].toList 8 = some ([.lit (.int .i64 0)], [dataN], places) :=
  ⟨MemPlace.row ⟨0, 0, none⟩ 9, by kernel_rfl⟩

set_option maxRecDepth 100000 in
theorem lifted (os : Os) (started : os.Started) (H : Type) (enc : TypeId × Value → H) (F : Stop.Interp) :
    ReturnsInHanded {} Tryd.checked os 3 .any ((OpenSpec.ofChange Rows.fnExactCodeNameSpec).preRow enc Tryd.prog Tryd.f3 Rows.fnExactCodeNameRow.domain false Rows.fnExactCodeNameRow.laid) (((OpenSpec.ofChange Rows.fnExactCodeNameSpec).at F).post enc Tryd.prog Tryd.f3 false true false false) := by
  obtain ⟨places, hx⟩ := reads os enc
  refine returnsInHanded_of_row (C := Tryd.checked) (s := OpenSpec.ofChange Rows.fnExactCodeNameSpec) own started (by kernel_rfl) Tryd.func3
    (witness_row_at (enc := enc) (C := Tryd.checked) false (laidWorld os) #[.int .i64 0] rfl (by kernel_rfl) (by kernel_rfl) (by kernel_rfl)
      (OpenSpec.preRow_of_cond 8 hx (by kernel_rfl) (fun k hk => by cases hk) (by kernel_rfl) (laid_met os))) ?_
  intro W base args ds gs before hval hW _ _ _ hL _ _
  exact contract H enc W base args ds gs before hval hW hL

theorem said : Rows.FnExactCodeNameSaid :=
  OpenClaim.holds_of_cond 3 Tryd.f3 rfl rfl rfl rfl rfl rfl rfl ⟨rfl, rfl, rfl, rfl, rfl⟩ rfl rfl rfl rfl rfl (by kernel_rfl) Tryd.func3 (by kernel_rfl)
    (of_decide_eq_true (by kernel_rfl)) (by unfold Func.isWrapper; first | (rw [if_pos (by decide +kernel)]; kernel_rfl) | (rw [if_neg (by decide +kernel)]; exact ⟨rfl, rfl⟩))
    (fun os started H enc _ F => by rw [OpenClaim.pre_eq_preRow]; exact lifted os started H enc F)

theorem plain (f : FuncId) (fn : Func) (hf : Tryd.pinned.checked.prog.funcNamed "loop.example/g01227/laws.FnExactCodeName" = some f) (hfn : Tryd.pinned.checked.prog.funcs[f]? = some fn) :
    true = Tryd.pinned.checked.prog.looks [] ∧ ∀ (j : Nat) t, fn.params[j]? = some t → Tryd.pinned.checked.prog.wantsStandIn t = false := by
  obtain rfl : f = 3 := Option.some.inj ((show Tryd.prog.funcNamed "loop.example/g01227/laws.FnExactCodeName" = some 3 by kernel_rfl).symm.trans hf) |>.symm
  obtain rfl : fn = Tryd.f3 := (Option.some.inj (Tryd.func3.symm.trans hfn)).symm
  refine ⟨by kernel_rfl, fun j t ht => ?_⟩
  rw [Tryd.params3] at ht
  obtain rfl : t = 2 := by simpa using Array.mem_of_getElem? ht
  exact (show Tryd.prog.wantsStandIn 2 = false by kernel_rfl)

/-- THE CARD -/
theorem card : Rows.FnExactCodeNameCardSaid :=
  Claim7.holds_tied_plain_at .later [] _ _ _ _ said (fun _ h => by cases h) (by kernel_rfl) (fun _ h => by cases h) fnExactCodeName_row_tie rfl ⟨rfl, rfl⟩ (by kernel_rfl) rfl plain (by kernel_rfl)
#print axioms card
end Go.Proofs.YtldgacihegibmabDoor.codeName
