/-
  Alias tables: a builder in memory; package alias's last, enlist.
-/
import Derived.Test.YtojdgcalpdbifaaAliD
import Derived.WalkSmall
namespace Go.Proofs.Ytojdgcalpdbifaa
open Go.RowKit
set_option maxRecDepth 100000

theorem blk_ne12 {w : World} {g g' : Nat} {t t' : TypeId} {cs cs' : Array Value} (h : Blk w g t cs) (h' : Blk w g' t' cs') (ht : t ≠ t') : g ≠ g' := by
  rintro rfl
  unfold Blk at h h'
  rw [h] at h'
  injection h' with h'
  injection h' with _ h2 _
  exact ht h2

theorem own12_far {w w' : World} {base : Nat} {e : TypeId} {v : Value} {n : Nat} {xs : List Value} {row : Option Nat} (h : w.ownsRow base e 1 v n xs) (hg : w.grownBy w' row) (hr : ∀ r, row = some r → v.ownBlock ≠ some r) : w'.ownsRow base e 1 v n xs := by
  cases row with
  | none => exact own7_none h hg
  | some r => exact own7_far h hg (hr r rfl)

section
variable {W : World} {L g gh gc n t : Nat} {h c o : Nat → Nat} {Al : Option Addr} {kl cl : Nat} {Am : Option Addr} {km cm : Nat} {ls ms : List Nat}
end
end Go.Proofs.Ytojdgcalpdbifaa
