/-
  Numbers in digits of 32 bits: the number of a word, copies, bits.
-/
import Derived.Test.YtaifigkbblncpaaGreatDoorMC
import Derived.Test.YtaifigkbblncpaaGreatDoorPackA
import Derived.Test.YtaifigkbblncpaaGreatDoorMF
import Derived.Test.YtaifigkbblncpaaGreatDoorShelf
namespace Go.Proofs.YtaifigkbblncpaaGreatDoor
open Go.RowKit
set_option maxRecDepth 100000

/-- v is a slice of uint32 whose digits, without noughts at the end, are those of a; they lie from block L on. -/
def Nv (w : World) (L : Nat) (v : Value) (a : Nat) : Prop := ∃ A xs n c, v = .slice A n c ∧ xs.length = n ∧ n ≤ c ∧ Ra w w.heap.size A xs ∧ Fa L A xs ∧ Cn xs ∧ U xs = a
theorem Nv.below {w w' : World} {L : Nat} {v : Value} {a : Nat} (h : Nv w L v a) (hb : Below w.heap.size w w') : Nv w' L v a := by
  obtain ⟨A, xs, n, c, h1, hl, h2, h3, h4, h5, h6⟩ := h
  exact ⟨A, xs, n, c, h1, hl, h2, (h3.below hb (Nat.le_refl _)).more hb.size, h4, h5, h6⟩
theorem Nv.more {w : World} {L L' : Nat} {v : Value} {a : Nat} (h : Nv w L v a) (hL : L' ≤ L) : Nv w L' v a := by
  obtain ⟨A, xs, n, c, h1, hl, h2, h3, h4, h5, h6⟩ := h
  exact ⟨A, xs, n, c, h1, hl, h2, h3, h4.more hL, h5, h6⟩
theorem Nv.old {w : World} {L : Nat} {v : Value} {a : Nat} (h : Nv w L v a) {p : Addr} (hp : p.block < L) (u : Value) : Nv (w.setCell p u) L v a := by
  obtain ⟨A, xs, n, c, h1, hl, h2, h3, h4, h5, h6⟩ := h
  exact ⟨A, xs, n, c, h1, hl, h2, by rw [setCell_size]; exact h3.old h4 hp u, h4, h5, h6⟩
theorem Nv.form {w : World} {L : Nat} {v : Value} {a : Nat} (h : Nv w L v a) {k : Nat} (hk : a < 4294967296 ^ k) :
    ∃ A xs n c, v = .slice A n c ∧ Hid (xs.length = n) ∧ n ≤ c ∧ Ra w w.heap.size A xs ∧ Cn xs ∧ Hid (U xs = a) ∧ n ≤ k := by
  obtain ⟨A, xs, n, c, h1, hl, h2, h3, h4, h5, h6⟩ := h
  exact ⟨A, xs, n, c, h1, hl, h2, h3, h5, h6, by have := h5.len (k := k) (by omega); omega⟩
theorem Nv.shape {w : World} {L : Nat} {v : Value} {a : Nat} (h : Nv w L v a) : ∃ A n c, v = .slice A n c := by
  obtain ⟨A, xs, n, c, h1, _⟩ := h
  exact ⟨A, n, c, h1⟩
/-- What a function of package nat answers that makes the number a: all that was there is as it was. -/
def RetNv (w : World) (a : Nat) (e : Ending) (w' : World) : Prop := ∃ v, e = .returned v ∧ Nv w' w.heap.size v a ∧ Below w.heap.size w w'

/-- A literal slice of uint32 reads. -/
theorem Ra.lit (w : World) (t : TypeId) (xs : List Nat) : Ra (w.alloc (.cells (u32s xs).toArray t)) (w.heap.size + 1) (some ⟨w.heap.size, 0, none⟩) xs := fun _ =>
  ⟨w.heap.size, 0, rfl, by omega, fun k hk => by
    rw [(Blk.new w t (u32s xs).toArray).cell (0 + k), Nat.zero_add]
    simpa using u32s_get hk⟩

set_option maxHeartbeats 1000000 in
theorem natOf_any (a : Nat) (w : World) (ha : a < 18446744073709551616) : Calls Tryz.prog 33 #[.int .u64 (a : Int)] w (RetNv w a) := by
  have h1 : IntKind.u32.wrap (a : Int) = ((a % 4294967296 : Nat) : Int) := by simp [IntKind.wrap, IntKind.bits, IntKind.signed]
  have h2 : IntKind.u32.wrap ((a : Int) / 4294967296) = ((a / 4294967296 : Nat) : Int) := by rw [IntWalk.u32_in _ (by omega)]; omega
  have hr := Ra.lit w 53 [a % 4294967296, a / 4294967296]
  have hd : Dg [a % 4294967296, a / 4294967296] := by intro d hd; simp at hd; omega
  have hu : U [a % 4294967296, a / 4294967296] = a := by simp only [U]; omega
  have HU := Lib.hid hu
  have H1 := Lib.hid h1
  have H2 := Lib.hid h2
  clear hu h1 h2
  go_enter Tryz.func33, Tryz.ntmps33
  go_wp2_with fail
  have hr' : Ra (w.alloc (.cells #[.int .u32 ((a : Int) % 4294967296), .int .u32 ((a : Int) / 4294967296)] 53)) (w.alloc (.cells #[.int .u32 ((a : Int) % 4294967296), .int .u32 ((a : Int) / 4294967296)] 53)).heap.size (some ⟨w.heap.size, 0, none⟩) [a % 4294967296, a / 4294967296] := by
    simpa [u32s] using hr
  refine (shorten_any _ _ 2 2 _ (by rfl) hr' hd (by omega) (by omega)).mono ?_
  rintro e w' ⟨m, hm, rfl, hcan, hU, rfl⟩
  have HCan := Lib.hid hcan
  have HUU := Lib.hid (hU.trans HU.out)
  clear hcan hU
  go_wp2_with fail
  go_ret
  refine ⟨_, rfl, ⟨_, [a % 4294967296, a / 4294967296].take m, m, 2, rfl, by simp; omega, hm, hr'.take m, fun _ => ⟨_, _, rfl, Nat.le_refl _⟩, HCan.out, HUU.out⟩, (Below.refl _ _).alloc (Nat.le_refl _) _⟩

/-- v is a slice of uint32 in memory of the call's own (from block B on), with the digits xs. -/
def Ow (w : World) (B : Nat) (v : Value) (n : Nat) (xs : List Nat) : Prop := w.ownsRow B 53 1 v n (u32s xs)
theorem Ow.len {w : World} {B : Nat} {v : Value} {n : Nat} {xs : List Nat} (h : Ow w B v n xs) : xs.length = n := by have := h.1; rw [u32s_length] at this; omega
theorem Ow.form {w : World} {B : Nat} {v : Value} {n : Nat} {xs : List Nat} (h : Ow w B v n xs) : ∃ A c, v = .slice A n c ∧ n ≤ c := ownsRow_form w h
theorem Ow.below {w w' : World} {B : Nat} {v : Value} {n : Nat} {xs : List Nat} (h : Ow w B v n xs) (hb : Below w.heap.size w w') : Ow w' B v n xs := by
  have hlt := World.ownsRow.lt h
  obtain ⟨h1, h2⟩ := h
  refine ⟨h1, ?_⟩
  rcases h2 with h2 | ⟨g, cap, cur, rfl, hg, hh, r⟩
  · exact .inl h2
  · exact .inr ⟨g, cap, cur, rfl, hg, by rw [hb.block g (hlt g rfl).2]; exact hh, r⟩
theorem Ow.more {w : World} {B B' : Nat} {v : Value} {n : Nat} {xs : List Nat} (h : Ow w B v n xs) (hB : B' ≤ B) : Ow w B' v n xs := by
  obtain ⟨h1, h2⟩ := h
  refine ⟨h1, ?_⟩
  rcases h2 with h2 | ⟨g, cap, cur, rfl, hg, hh, r⟩
  · exact .inl h2
  · exact .inr ⟨g, cap, cur, rfl, by omega, hh, r⟩
theorem Ow.take {w : World} {B : Nat} {A : Option Addr} {n c : Nat} {xs : List Nat} (h : Ow w B (.slice A n c) n xs) {m : Nat} (hm : m ≤ n) : Ow w B (.slice A m c) m (xs.take m) := by
  have hl := h.len
  obtain ⟨h1, h2⟩ := h
  refine ⟨by rw [u32s_length]; simp; omega, ?_⟩
  rcases h2 with ⟨h2, h3⟩ | ⟨g, cap, cur, hv, hg, hh, hn, hc, hsz, ht⟩
  · injection h2 with h4 h5 h6
    subst h4 h5 h6
    obtain rfl : m = 0 := by omega
    exact .inl ⟨rfl, rfl⟩
  · injection hv with h4 h5 h6
    subst h4 h6
    refine .inr ⟨g, c, cur, rfl, hg, hh, by omega, hc, hsz, ?_⟩
    have e : u32s (xs.take m) = (u32s xs).take m := by simp [u32s, List.map_take]
    rw [e, ← ht, List.take_take, Nat.min_eq_left (by simp; omega), Nat.mul_one]
theorem Ow.reads {w : World} {B : Nat} {A : Option Addr} {n c : Nat} {xs : List Nat} (h : Ow w B (.slice A n c) n xs) : Ra w w.heap.size A xs ∧ Fa B A xs := ⟨Ra.of_own h, Fa.of_own h⟩
theorem Ow.nv {w : World} {B : Nat} {A : Option Addr} {n c : Nat} {xs : List Nat} (h : Ow w B (.slice A n c) n xs) (hc : n ≤ c) (hcan : Cn xs) : Nv w B (.slice A n c) (U xs) :=
  ⟨A, xs, n, c, rfl, h.len, hc, h.reads.1, h.reads.2, hcan, rfl⟩
theorem Ow.nil (w : World) (B : Nat) : Ow w B (.slice none 0 0) 0 [] := World.ownsRow_nil _ _ _ _

/-- What a function answers that makes a slice of its own, with the digits xs. -/
def RetOw (w : World) (xs : List Nat) (e : Ending) (w' : World) : Prop := ∃ v, e = .returned v ∧ Ow w' w.heap.size v xs.length xs ∧ Below w.heap.size w w'

theorem nil_is : ∀ (n c : Nat) (w : World), (binOp .eql 23 (.slice none n c) (.slice none 0 0)).run Tryz.prog w = .ok (.bool true) w := fun _ _ _ => by kernel_rfl
theorem nil_not : ∀ (a : Addr) (n c : Nat) (w : World), (binOp .eql 23 (.slice (some a) n c) (.slice none 0 0)).run Tryz.prog w = .ok (.bool false) w := fun _ _ _ _ => by kernel_rfl
theorem clone_done {w w1 : World} {A' : Option Addr} {c' n' : Nat} {xs : List Nat} (hl : ([] ++ xs).length = n') (hown : w1.ownsRow w.heap.size 53 1 (.slice A' n' c') n' (u32s ([] ++ xs)))
    (hg : (w.alloc (.cells #[] 53)).grownBy w1 (Value.slice (some ⟨w.heap.size, 0, none⟩) 0 0).ownBlock) : RetOw w xs (.returned (.slice A' n' c')) w1 := by
  rw [List.nil_append] at hl hown
  subst hl
  exact ⟨_, rfl, hown, ((Below.refl _ _).alloc (Nat.le_refl _) _).grown hg (by simp) (by intro k hk; simp [Value.ownBlock] at hk; omega)⟩

set_option maxHeartbeats 1000000 in
theorem clone_any (A : Option Addr) (xs : List Nat) (n c : Nat) (w : World) (hl : xs.length = n) (hr : Ra w w.heap.size A xs) (hn : n ≤ 10000000) :
    Calls Tryz.prog 71 #[.slice A n c] w (RetOw w xs) := by
  have HL := Lib.hid hl
  have hni := nil_is
  have hnn := nil_not
  clear hl
  cases A with
  | none =>
    obtain rfl : xs = [] := by
      rcases xs with _ | ⟨y, r⟩
      · rfl
      · obtain ⟨_, _, h, _⟩ := hr (by simp)
        cases h
    obtain rfl : n = 0 := by simpa using HL.out.symm
    go_enter Tryz.func71, Tryz.ntmps71
    go_wp2
    go_ret
    exact ⟨_, rfl, Ow.nil _ _, Below.refl _ _⟩
  | some ad =>
    have HO : Hid ((w.alloc (.cells #[] 53)).ownsRow w.heap.size 53 1 (.slice (some ⟨w.heap.size, 0, none⟩) 0 0) ([] : List Nat).length (u32s [])) :=
      Lib.hid (by have := World.ownsRow_made (base := w.heap.size) (e := 53) (size := 1) w #[] 0 (by simp) (by decide) rfl; simpa [u32s] using this)
    have HR := Lib.hid (hr.alloc (Nat.le_refl _) (.cells #[] 53))
    go_enter Tryz.func71, Tryz.ntmps71
    go_wp2_with (at_builtin; go_loud (refine wpList_append_u32s _ rfl (.tmp 5) (.tmp 6) 23 rfl w.heap.size 53 Tryz.underlying23 info_u32 (.slice (some ⟨w.heap.size, 0, none⟩) 0 0) [] rfl HO.out w.heap.size (some ad) n xs _ HL.out rfl HR.out (by have := HL.out; simp; omega) (by simp) ?_); intro A' n' c' w1 hl1 hc1 hown1 hg1)
    go_ret
    exact clone_done hl1.out hown1.out hg1

set_option maxHeartbeats 1000000 in
theorem natCut_own (A : Option Addr) (xs : List Nat) (n c : Nat) (w : World) (hl : xs.length = n) (hr : Ra w w.heap.size A xs) (hd : Dg xs) (hn : n ≤ 10000000) (hc : n ≤ c) :
    Calls Tryz.prog 73 #[.slice A n c] w fun e w' => ∃ m, m ≤ n ∧ Cn (xs.take m) ∧ U (xs.take m) = U xs ∧ RetOw w (xs.take m) e w' := by
  go_enter Tryz.func73, Tryz.ntmps73
  go_wp2_with fail
  refine (shorten_any A xs n c w hl hr hd hn hc).mono ?_
  rintro e w' ⟨m, hm, rfl, hcan, hU, rfl⟩
  have HC := Lib.hid hcan
  have HU := Lib.hid hU
  have HML : Hid ((xs.take m).length = m) := Lib.hid (by simp; omega)
  clear hcan hU hl
  go_wp2_with fail
  refine (clone_any A (xs.take m) m c w HML.out (hr.take m) (by omega)).mono ?_
  rintro e w1 ⟨v, rfl, how, hb⟩
  have HO := Lib.hid how
  clear how
  go_wp2_with fail
  go_ret
  exact ⟨m, hm, HC.out, HU.out, _, rfl, HO.out, hb⟩
end Go.Proofs.YtaifigkbblncpaaGreatDoor
