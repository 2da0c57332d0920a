/-
  For any bytes b, any numbers l and any text s: what package wire puts behind b is what the document puts. No conditions.
-/
import Derived.Test.YtbogejpjnbdfcaaLawPuts
import Derived.Test.YtbogejpjnbdfcaaRowB
namespace Go.Proofs.Ytbogejpjnbdfcaa
open Go.ChangeShapes Go.WideShapes Go.ChangeAt Go.RowKit
set_option maxRecDepth 100000

theorem wirePuts_all (w : World) (A : Option Addr) (n c : Nat) (xs : List UInt8) (B : Option Addr) (m d : Nat) (ls : List Nat) (s : ByteArray) (hl : xs.length = n) (hr : Rb w w.heap.size A xs) (_ : n ≤ maxLen) (hm : ls.length = m) (hru : Ru w B ls) (hw : Wds ls) (_ : m ≤ maxLen) (_ : True) :
    Calls Try.prog 3 #[.slice A n c, .slice B m d, .string s] w fun e w' => e = .returned (.bool true) ∧ Below w.heap.size w w' := by
  by_cases h1 : n ≤ 300
  · by_cases h2 : m ≤ 50
    · by_cases h3 : s.size ≤ 300
      · exact puts_walk A B xs ls n c m d s w hl hm hr hru hw h1 h2 h3
      · exact puts_long A B n c m d s w (.inr (.inr ⟨h1, h2, by omega⟩))
    · exact puts_long A B n c m d s w (.inr (.inl ⟨h1, by omega⟩))
  · exact puts_long A B n c m d s w (.inl (by omega))

set_option maxRecDepth 100000 in
theorem wirePuts_lifted (os : Os) (started : os.Started) (H : Type) (enc : TypeId × Value → H) :
    ReturnsInHanded {} Try.checked os 3 .any (Rows.wirePutsSpec.pre6 enc Try.prog Try.f3 Rows.wirePutsRow.domain false) (Rows.wirePutsSpec.post enc Try.prog Try.f3 false true false false) := by
  refine returnsInHanded_of_change (C := Try.checked) own_knob started (by kernel_rfl) Try.func3
    (ChangeSpec.witness6 (enc := enc) (C := Try.checked) false ⟨#[], #[.slice none 0 0, .slice none 0 0, .string ⟨#[]⟩], []⟩ 8 (by kernel_rfl) (by kernel_rfl) (by kernel_rfl) (by kernel_rfl)) ?_
  intro W base args ds gs before hval0 hW hcnd _
  have hval : ∀ (j : Nat) t v, Try.f3.params[j]? = some t → args[j]? = some v → Value.okWide Try.prog W .any base t v := hval0
  have hW' : DataW.Whole enc Try.prog Try.f3.params.toList Rows.wirePutsSpec.vars false W args.toList ds gs before := hW
  obtain ⟨p, q, hA0, hV, hpq, hfz, hnd⟩ := hW
  have hA : DataW.TrodAll enc Try.prog W 0 (fun _ => true) true Try.f3.params.toList args.toList ds p := hA0
  rw [Try.params3] at hA hval
  obtain ⟨v0, vs0, d0, ds0, p0, q0, hargs, rfl, rfl, t0, r0⟩ := trodAll_cons hA
  obtain ⟨v1, vs1, d1, ds1, p1, q1, rfl, rfl, rfl, t1, r1⟩ := trodAll_cons r0
  obtain ⟨v2, vs2, d2, ds2, p2, q2, rfl, rfl, rfl, t2, r2⟩ := trodAll_cons r1
  obtain ⟨rfl, rfl, rfl⟩ := trodAll_nil r2
  obtain rfl : args = #[v0, v1, v2] := by cases args; simp_all
  obtain ⟨A0, n0, c0, xs0, rfl, h0, k0, m0⟩ := open_bytes (hval 0 22 v0 rfl rfl) t0
  obtain ⟨A1, n1, c1, xs1, rfl, h1, k1, m1, l1⟩ := open_u64s (hval 1 23 v1 rfl rfl) t1
  obtain ⟨s2, rfl, h2⟩ := open_str (hval 2 9 v2 rfl rfl) t2
  have hwalk : Calls Try.prog 3 #[.slice A0 n0 c0, .slice A1 n1 c1, .string s2] W fun e w' => e = .returned (.bool true) ∧ Below W.heap.size W w' := wirePuts_all W A0 n0 c0 xs0 A1 n1 c1 xs1 s2 h0 k0 m0 h1 k1 m1 l1 h2
  refine hwalk.mono fun e W' ⟨he, hg⟩ => ?_
  subst he
  exact ⟨_, rfl, law_post laid_out (by kernel_rfl) Try.underlying4 (by kernel_rfl) rfl hW' rfl hg⟩

theorem wirePuts_over : Rows.wirePutsRow.holds Try.pinned (OpenSpec.ofChange Rows.wirePutsSpec) :=
  OpenClaim.holds_of_wide 3 Try.f3 rfl rfl rfl rfl rfl rfl rfl ⟨rfl, rfl, rfl, rfl, rfl⟩ rfl rfl rfl rfl rfl (by kernel_rfl) Try.func3 (by kernel_rfl)
    (of_decide_eq_true (by kernel_rfl)) (by unfold Func.isWrapper; first | (rw [if_pos (by decide +kernel)]; kernel_rfl) | (rw [if_neg (by decide +kernel)]; exact ⟨rfl, rfl⟩))
    (fun os started H enc _ => wirePuts_lifted os started H enc)

theorem wirePuts_holds : Rows.WirePutsSaid :=
  wirePuts_over

end Go.Proofs.Ytbogejpjnbdfcaa
