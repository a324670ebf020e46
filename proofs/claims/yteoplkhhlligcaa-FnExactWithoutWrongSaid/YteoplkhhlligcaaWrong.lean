/-
  CONTRACTS: lists without wrong tallies.
-/
import Derived.Test.YteoplkhhlligcaaVTlI
import Derived.Test.YteoplkhhlligcaaOwnT
namespace Go.Proofs.Yteoplkhhlligcaa
open Go Go.ChangeShapes Go.WideShapes Go.ChangeAt Go.RowKit
set_option maxRecDepth 100000

/-- can a tally be right? -/
def keepT (xs : Ts) (m : Int) (k : Nat) : Bool := decide (tc xs k ≤ m) && (decide (tc xs k = 0) || decide (0 < tf xs k))
def at3 (xs : Ts) (k : Nat) : Int × Int × Int := (tn xs k, tc xs k, tf xs k)
/-- the tallies that can be right, of the first k -/
def wrL (xs : Ts) (m : Int) : Nat → Ts
  | 0 => []
  | k + 1 => if keepT xs m k then wrL xs m k ++ [at3 xs k] else wrL xs m k
theorem wrL_yes {xs : Ts} {m : Int} {k : Nat} (h : keepT xs m k = true) : wrL xs m (k + 1) = wrL xs m k ++ [at3 xs k] := by show (if _ then _ else _) = _; rw [if_pos h]
theorem wrL_no {xs : Ts} {m : Int} {k : Nat} (h : keepT xs m k = false) : wrL xs m (k + 1) = wrL xs m k := by show (if _ then _ else _) = _; rw [h]; rfl
theorem wrL_len (xs : Ts) (m : Int) : ∀ k, (wrL xs m k).length ≤ k
  | 0 => Nat.le_refl _
  | k + 1 => by
    have := wrL_len xs m k
    cases h : keepT xs m k
    · rw [wrL_no h]; omega
    · rw [wrL_yes h, List.length_append]; show _ + 1 ≤ _; omega
theorem at3_w {xs : Ts} (h : TW xs) {k : Nat} (hk : k < xs.length) : I64t (at3 xs k).1 ∧ I16 (at3 xs k).2.1 ∧ I16 (at3 xs k).2.2 := h.at hk
theorem TW.snoc {ys : Ts} {s : Int × Int × Int} (h : TW ys) (hs : I64t s.1 ∧ I16 s.2.1 ∧ I16 s.2.2) : TW (ys ++ [s]) := by
  intro x hx
  rcases List.mem_append.1 hx with hx | hx
  · exact h x hx
  · obtain rfl := List.mem_singleton.1 hx
    exact hs
theorem TW.nil : TW [] := by simp [TW]
theorem wrL_w {xs : Ts} (hW : TW xs) (m : Int) : ∀ k, k ≤ xs.length → TW (wrL xs m k)
  | 0, _ => TW.nil
  | k + 1, hk => by
    have := wrL_w hW m k (by omega)
    cases h : keepT xs m k
    · rw [wrL_no h]; exact this
    · rw [wrL_yes h]; exact this.snoc (at3_w hW (by omega))
def vWrong (xs : Ts) (m : Int) : Ts × Int := if okT xs then (if 0 ≤ m then (wrL xs m xs.length, 0) else ([], 2)) else ([], 1)
theorem vWrong_1 {xs : Ts} {m : Int} (h : okT xs = false) : vWrong xs m = ([], 1) := by unfold vWrong; rw [h]; rfl
theorem vWrong_2 {xs : Ts} {m : Int} (h : okT xs = true) (h2 : ¬ 0 ≤ m) : vWrong xs m = ([], 2) := by unfold vWrong; rw [if_pos h, if_neg h2]
theorem vWrong_0 {xs : Ts} {m : Int} (h : okT xs = true) (h2 : 0 ≤ m) : vWrong xs m = (wrL xs m xs.length, 0) := by unfold vWrong; rw [if_pos h, if_pos h2]
theorem vWrong_w {xs : Ts} (hW : TW xs) (m : Int) : TW (vWrong xs m).1 ∧ (vWrong xs m).1.length ≤ 96 := by
  unfold vWrong
  split
  · rename_i h
    split
    · exact ⟨wrL_w hW m _ (Nat.le_refl _), Nat.le_trans (wrL_len xs m _) (okT_len h)⟩
    · exact ⟨TW.nil, Nat.zero_le _⟩
  · exact ⟨TW.nil, Nat.zero_le _⟩

theorem At.keep {w w' : World} {g : Nat} {c : Array Value} {T : TypeId} {r : Option Nat} (h : At w g c T) (hg : w.grownBy w' r) (hne : ∀ q, r = some q → q ≠ g) : At w' g c T :=
  (hg.block g h.lt (fun e => hne g e.symm rfl)).trans h

end Go.Proofs.Yteoplkhhlligcaa
