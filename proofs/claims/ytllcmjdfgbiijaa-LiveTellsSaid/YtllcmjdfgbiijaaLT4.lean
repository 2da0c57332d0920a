/-
  SaidLiveTells, part 4 of 16: what the theorem liveTells_holds reaches.
-/
import Derived.Test.YtllcmjdfgbiijaaLT3
import Derived.KernelRfl
import Derived.WalkSmall
namespace Go.Proofs.Ytllcmjdfgbiijaa
open Go.RowKit
set_option maxRecDepth 100000
/-- The numbers fall. -/
def Fall (xs : List Nat) : Prop := xs.Pairwise (fun a b => b < a)
theorem Fall.nth {xs : List Nat} (h : Fall xs) {i j : Nat} (hij : i < j) (hj : j < xs.length) : nth xs j < nth xs i := by
  rw [nth_in hj, nth_in (show i < xs.length by omega)]
  exact List.pairwise_iff_getElem.1 h i j (by omega) hj hij
/-- The place of x among falling numbers, of which it is none. -/
structure Plc (xs : List Nat) (x p : Nat) : Prop where
  le : p ≤ xs.length
  low : ∀ t, t < p → x < nth xs t
  high : ∀ t, p ≤ t → t < xs.length → nth xs t < x
theorem plc_ex {xs : List Nat} (h : Fall xs) {x : Nat} (hx : x ∉ xs) : ∃ p, Plc xs x p := by
  induction xs with
  | nil => exact ⟨0, Nat.le_refl _, fun t h => by omega, fun t _ h => by simp at h⟩
  | cons a r ih =>
    have h1 : Fall r := (List.pairwise_cons.1 h).2
    have h2 := (List.pairwise_cons.1 h).1
    obtain ⟨p, p1, p2, p3⟩ := ih h1 (fun e => hx (by simp [e]))
    rcases Nat.lt_trichotomy x a with h3 | h3 | h3
    · refine ⟨p + 1, by simp; exact p1, fun t ht => ?_, fun t h4 h5 => ?_⟩
      · cases t with
        | zero => rw [nth_cons0]; exact h3
        | succ t => rw [nth_cons]; exact p2 t (by omega)
      · cases t with
        | zero => omega
        | succ t => rw [nth_cons]; exact p3 t (by omega) (by simpa using h5)
    · exact absurd (by simp [h3]) hx
    · refine ⟨0, Nat.zero_le _, fun t ht => by omega, fun t _ h5 => ?_⟩
      cases t with
      | zero => rw [nth_cons0]; exact h3
      | succ t =>
        have h6 : t < r.length := by simpa using h5
        have h7 := h2 _ (List.getElem_mem h6)
        rw [nth_cons, nth_in h6]
        omega
theorem Plc.fall {xs : List Nat} {x p : Nat} (h : Plc xs x p) (hf : Fall xs) : Fall (ins13 xs p x) := by
  unfold Fall ins13
  rw [List.pairwise_append]
  refine ⟨List.Pairwise.sublist (List.take_sublist _ _) hf, ?_, ?_⟩
  · rw [List.pairwise_cons]
    refine ⟨fun y hy => ?_, List.Pairwise.sublist (List.drop_sublist _ _) hf⟩
    obtain ⟨t, ht, rfl⟩ := List.getElem_of_mem hy
    rw [List.length_drop] at ht
    rw [List.getElem_drop, ← nth_in]
    exact h.high _ (by omega) (by omega)
  · intro a ha b hb
    obtain ⟨t, ht, rfl⟩ := List.getElem_of_mem ha
    rw [List.length_take] at ht
    have h1 := h.low t (by omega)
    rw [List.getElem_take, ← nth_in]
    rw [List.mem_cons] at hb
    rcases hb with rfl | hb
    · exact h1
    · obtain ⟨s, hs, rfl⟩ := List.getElem_of_mem hb
      rw [List.length_drop] at hs
      rw [List.getElem_drop, ← nth_in]
      have h2 := h.high (p + s) (by omega) (by omega)
      omega
theorem ins13_mem {xs : List Nat} {x p j : Nat} : j ∈ ins13 xs p x ↔ j = x ∨ j ∈ xs := by
  unfold ins13
  rw [List.mem_append, List.mem_cons]
  have h : j ∈ xs ↔ j ∈ xs.take p ∨ j ∈ xs.drop p := by rw [← List.mem_append, List.take_append_drop]
  rw [h]
  constructor
  · rintro (h | h | h)
    · exact .inr (.inl h)
    · exact .inl h
    · exact .inr (.inr h)
  · rintro (h | h | h)
    · exact .inr (.inl h)
    · exact .inl h
    · exact .inr (.inr h)
set_option maxHeartbeats 1000000 in
theorem cmp13_any (a b : Nat) (w : World) (ha : a < 1000000) (hb : b < 1000000) :
    Calls Try.prog 72 #[.int .i64 (a : Int), .int .i64 (b : Int)] w fun e w' => e = .returned (.int .i64 ((b : Int) - (a : Int))) ∧ w' = w := by
  have hw : IntKind.i64.wrap ((b : Int) - (a : Int)) = (b : Int) - (a : Int) := by rw [IntKind.wrap_i64]; omega
  go_enter Try.func72, Try.ntmps72
  go_wp2_with fail
  go_ret
  exact ⟨rfl, rfl⟩
set_option maxHeartbeats 4000000 in
theorem bsf13_any {xs : List Nat} {x p n c : Nat} {A : Option Addr} (w : World) (hl : xs.length = n) (hr : Rd w w.heap.size A xs) (hp : Plc xs x p) (hn : n ≤ 1000000) (hx : x < 1000000) (hxs : ∀ y, y ∈ xs → y < 1000000) :
    Calls Try.prog 71 #[.slice A n c, .int .i64 (x : Int), .func (.func 72) #[] #[]] w fun e w' => e = .returned (.tuple #[.int .i64 (p : Int), .bool false]) ∧ w' = w := by
  have hpn : p ≤ n := by have := hp.le; omega
  have HL := Lib.hid hl
  have HR := Lib.hid hr
  have HP := Lib.hid hp
  have HX := Lib.hid hxs
  clear hl hr hp hxs
  go_enter Try.func71, Try.ntmps71
  go_wp2_with fail
  go_loopw [9, 10] (fun s9 s10 wr => wr = w ∧ ∃ lo hi : Nat, s9 = .int .i64 (lo : Int) ∧ s10 = .int .i64 (hi : Int) ∧ lo ≤ p ∧ p ≤ hi ∧ hi ≤ n) (fun s9 s10 _ => (intOf s10).toNat - (intOf s9).toNat)
  case atStart => exact ⟨by first | trivial | rfl, 0, n, rfl, rfl, by omega, hpn, Nat.le_refl _⟩
  case round =>
    obtain ⟨rfl, lo, hi, rfl, rfl, h1, h2, h3⟩ := hrel
    by_cases hlt : lo < hi
    · obtain ⟨m, hm⟩ : ∃ m, (lo + hi) / 2 = m := ⟨_, rfl⟩
      obtain ⟨b, o, hA, _, ca⟩ := HR.out.at_ (show m < xs.length by have := HL.out; omega)
      subst hA
      obtain ⟨y, hy⟩ : ∃ y, nth xs m = y := ⟨_, rfl⟩
      have hyb : y < 1000000 := by
        have hml : m < xs.length := by have := HL.out; omega
        rw [← hy, nth_in hml]
        exact HX.out _ (List.getElem_mem hml)
      rw [hy] at ca
      have HC := Lib.hid (cmp13_any y x wr hyb hx)
      have hdiv : ((lo : Int) + (hi : Int)) / 2 = (m : Int) := by omega
      have i0 : (0 : Int) ≤ (m : Int) := by omega
      have i1 : (m : Int) < (n : Int) := by omega
      have hw0 : IntKind.i64.wrap ((lo : Int) + (hi : Int)) = (lo : Int) + (hi : Int) := by rw [IntKind.wrap_i64]; omega
      have hw1 : IntKind.u64.wrap ((lo : Int) + (hi : Int)) = (lo : Int) + (hi : Int) := by rw [IntKind.wrap_u64]; omega
      have hw2 : IntKind.i64.wrap (m : Int) = (m : Int) := by rw [IntKind.wrap_i64]; omega
      have hw3 : IntKind.u64.wrap (m : Int) = (m : Int) := by rw [IntKind.wrap_u64]; omega
      by_cases hmp : m < p
      · have hyx : x < y := by rw [← hy]; exact HP.out.low m hmp
        have hneg : (x : Int) - (y : Int) < 0 := by omega
        clear hy hm
        go_wp2_with fail
        refine HC.out.mono ?_
        rintro e w3 ⟨rfl, rfl⟩
        go_wp2_with fail
        go_roundw
        case rel => exact ⟨by first | trivial | rfl, m + 1, hi, by go_num, rfl, by omega, h2, h3⟩
        case measure => simp [intOf]; omega
      · have hyx : y < x := by rw [← hy]; exact HP.out.high m (by omega) (by have := HL.out; omega)
        have hneg : ¬ (x : Int) - (y : Int) < 0 := by omega
        clear hy
        go_wp2_with fail
        refine HC.out.mono ?_
        rintro e w3 ⟨rfl, rfl⟩
        go_wp2_with fail
        go_roundw
        case rel => exact ⟨by first | trivial | rfl, lo, m, rfl, rfl, h1, by omega, by omega⟩
        case measure => simp [intOf]; omega
    · obtain rfl : lo = p := by omega
      obtain rfl : hi = lo := by omega
      by_cases hpn2 : hi < n
      · obtain ⟨b, o, hA, _, ca⟩ := HR.out.at_ (show hi < xs.length by have := HL.out; omega)
        subst hA
        obtain ⟨y, hy⟩ : ∃ y, nth xs hi = y := ⟨_, rfl⟩
        have hyb : y < 1000000 := by
          have hml : hi < xs.length := by have := HL.out; omega
          rw [← hy, nth_in hml]
          exact HX.out _ (List.getElem_mem hml)
        have hyx : y < x := by rw [← hy]; exact HP.out.high hi (by omega) (by have := HL.out; omega)
        rw [hy] at ca
        have HC := Lib.hid (cmp13_any y x wr hyb hx)
        have hz : ¬ (x : Int) - (y : Int) = 0 := by omega
        have i0 : (0 : Int) ≤ (hi : Int) := by omega
        have i1 : (hi : Int) < (n : Int) := by omega
        clear hy
        go_wp2_with fail
        refine HC.out.mono ?_
        rintro e w3 ⟨rfl, rfl⟩
        go_wp2_with fail
        go_ret2
        exact ⟨by first | rfl | simp [hz], rfl⟩
      · have i1 : ¬ (hi : Int) < (n : Int) := by omega
        go_wp2_with fail
        go_ret2
        exact ⟨rfl, rfl⟩
/-- What stays: all below block L, and all that was there but block g and the row. -/
structure Bk13 (L g : Nat) (row : Option Nat) (w w' : World) : Prop where
  below : Below L w w'
  size : w.heap.size ≤ w'.heap.size
  keep : ∀ b, b < w.heap.size → b ≠ g → some b ≠ row → w'.heap[b]? = w.heap[b]?
theorem Bk13.blk {L g : Nat} {row : Option Nat} {w w' : World} (h : Bk13 L g row w w') {b : Nat} {t : TypeId} {cs : Array Value} (hb : Blk w b t cs) (h1 : b ≠ g) (h2 : some b ≠ row) : Blk w' b t cs := (h.keep b hb.lt h1 h2).trans hb
theorem Bk13.own {L g : Nat} {row : Option Nat} {w w' : World} (h : Bk13 L g row w w') {base n : Nat} {e : TypeId} {v : Value} {xs : List Value} (ho : w.ownsRow base e 1 v n xs) (h1 : v.ownBlock ≠ some g) (h2 : ∀ r, v.ownBlock = some r → row ≠ some r) : w'.ownsRow base e 1 v n xs := by
  have hlt := ho.lt
  obtain ⟨k1, k2⟩ := ho
  refine ⟨k1, ?_⟩
  rcases k2 with k2 | ⟨b, cap, cur, rfl, hb, hh, r⟩
  · exact .inl k2
  · refine .inr ⟨b, cap, cur, rfl, hb, ?_, r⟩
    rw [h.keep b (hlt b rfl).2 (fun e => h1 (by rw [← e]; rfl)) (fun e => h2 b rfl e.symm)]
    exact hh
/-- What put leaves behind. -/
def Pt13 (w : World) (L g : Nat) (v : Value) (ys : List Nat) (e : Ending) (w' : World) : Prop :=
  e = .returned (.tuple #[]) ∧ ∃ A' c', Blk w' g 26 #[.slice A' ys.length c'] ∧ w'.ownsRow L 3 1 (.slice A' ys.length c') ys.length (ints ys) ∧ (∀ r, (Value.slice A' ys.length c').ownBlock = some r → v.ownBlock = some r ∨ w.heap.size ≤ r) ∧ Bk13 L g v.ownBlock w w'
set_option maxHeartbeats 2000000 in
theorem put13_any {L g k c x p : Nat} {A : Option Addr} {xs : List Nat} (w : World) (hv : Blk w g 26 #[.slice A k c]) (ho : w.ownsRow L 3 1 (.slice A k c) k (ints xs)) (hl : xs.length = k) (hp : Plc xs x p) (hL : L ≤ w.heap.size) (hLg : L ≤ g)
    (hk : k ≤ 100000) (hx : x < 1000000) (hxs : ∀ y, y ∈ xs → y < 1000000) :
    Calls Try.prog 69 #[.pointer (some ⟨g, 0, none⟩), .int .i64 (x : Int)] w (Pt13 w L g (.slice A k c) (ins13 xs p x)) := by
  have hpk : p ≤ k := by have := hp.le; omega
  have HPT : Hid (Pt13 w L g (.slice A k c) (ins13 xs p x) = fun e w' => e = .returned (.tuple #[]) ∧ ∃ A' c', Blk w' g 26 #[.slice A' (ins13 xs p x).length c'] ∧ w'.ownsRow L 3 1 (.slice A' (ins13 xs p x).length c') (ins13 xs p x).length (ints (ins13 xs p x)) ∧ (∀ r, (Value.slice A' (ins13 xs p x).length c').ownBlock = some r → (Value.slice A k c).ownBlock = some r ∨ w.heap.size ≤ r) ∧ Bk13 L g (Value.slice A k c).ownBlock w w') := Lib.hid rfl
  have c0 := hv.cell 0
  have HB := Lib.hid (bsf13_any (c := c) w hl (Rd.of_own ho) hp (by omega) hx hxs)
  have hba := b1' w (.cells #[.int .i64 (x : Int)] 3)
  have HI := Lib.hid (insert13_any (w.alloc (.cells #[.int .i64 (x : Int)] 3)) hl (own7_keep ho hba) hpk (Blk.new w _ _) (fun e => by have := (ho.lt _ e).2; omega) (by omega) (by simp; omega))
  have hv1 := hv.below hba hv.lt
  have d0 := hv1.cell 0
  have HV := Lib.hid hv1
  have HO := Lib.hid ho
  have HVW := Lib.hid hv
  have HBA := Lib.hid hba
  clear hv hv1 ho hl hp hxs hba
  go_enter Try.func69, Try.ntmps69
  go_wp2_with fail
  refine HB.out.mono ?_
  rintro e w1 ⟨rfl, rfl⟩
  clear HB
  go_wp2_with fail
  refine HI.out.mono ?_
  rintro e w2 ⟨A', c', rfl, h2, h3, h4⟩
  have hgne : (Value.slice A k c).ownBlock ≠ some g := own7_ne HO.out HVW.out (by decide)
  have hv2 := HV.out.grown h3 (fun e => hgne e.symm)
  have e0 := hv2.cell 0
  have f0 := hv2.frozen 0
  have H2 := Lib.hid h2
  have H3 := Lib.hid h3
  have H4 := Lib.hid h4
  have HV2 := Lib.hid hv2
  have HN := Lib.hid hgne
  clear h2 h3 h4 hv2 hgne HI
  go_wp2_with fail
  go_end0
  rw [HPT.out]
  have hs : (w1.alloc (.cells #[.int .i64 (x : Int)] 3)).heap.size = w1.heap.size + 1 := by simp
  have hbel : Below L w1 w2 := (HBA.out.mono hL).grown H3.out (by omega) (fun r hr => (HO.out.lt r hr).1)
  refine ⟨rfl, A', c', by simpa using HV2.out.set_ 0 _, own7_far H2.out (grownBy_setCell' w2 g _) (own7_ne H2.out HV2.out (by decide)), fun r hr => ?_, ⟨hbel.setCell hLg _, ?_, fun b hb h5 h6 => ?_⟩⟩
  · rcases H4.out r hr with h | h
    · exact .inl h
    · exact .inr (by omega)
  · have := hbel.size
    simpa [World.setCell] using this
  · exact (Below.heap_setCell w2 ⟨g, 0, none⟩ _ b h5).trans ((H3.out.block b (by omega) h6).trans (HBA.out.block b hb))
end Go.Proofs.Ytllcmjdfgbiijaa
namespace Go.Proofs.Ytllcmjdfgbiijaa
open Go.RowKit
section
variable {P : Program} {md : Region.Mode} {ops : Array Oper} {Q : Exit → Act → World → Prop} {S : World → Prop} {oi : Oper} {fuel : Nat} {listed : Array Bool} {a : Act} {w : World}
theorem sk (i : Nat) (h : wpAnyH P md ops Q S fuel (listed.setIfInBounds i true) (a.put oi.dst undef) w) (hi : ops.toList[i]? = some oi := by rfl)
    (hs : Region.noSelect ops = true := by kernel_rfl) (hf : Region.free md ops listed i = true := by kernel_rfl) (hr : (Region.ready md ops listed).contains i = true := by kernel_rfl)
    (hQ : ∀ c a w, Q (.panic c) (a.put oi.dst undef) w → Q (.panic c) a w := by exact fun _ _ _ h => h) (hw : Region.wanted oi (yielded ops a.tmps) = false := by rfl) (hS : S w := by assumption) : wpAnyH P md ops Q S (fuel + 1) listed a w :=
  take_skip (op_of hi) hs hf hr hQ hw hS h
theorem tk (i : Nat) {v : Value} (hy : ∀ w, S w → (execOp a.eval oi).run P w = .ok (.value v) w) (h : wpAnyH P md ops Q S fuel (listed.setIfInBounds i true) (a.put oi.dst v) w) (hi : ops.toList[i]? = some oi := by rfl)
    (hs : Region.noSelect ops = true := by kernel_rfl) (hf : Region.free md ops listed i = true := by kernel_rfl) (hr : (Region.ready md ops listed).contains i = true := by kernel_rfl)
    (hQ : ∀ c a w, Q (.panic c) (a.put oi.dst v) w → Q (.panic c) a w := by exact fun _ _ _ h => h) (hw : Region.wanted oi (yielded ops a.tmps) = true := by rfl) (hS : S w := by assumption) : wpAnyH P md ops Q S (fuel + 1) listed a w :=
  wpAnyH_take (op_of hi) hs hf hr hQ (Or.inl ⟨hw, hy⟩) hS h
theorem tkp (hP : ∀ c a d v w, Q (.panic c) (Act.put a (some d) v) w → Q (.panic c) a w) (i : Nat) {v : Value} {d : Nat} (hy : ∀ w, S w → (execOp a.eval oi).run P w = .ok (.value v) w) (h : wpAnyH P md ops Q S fuel (listed.setIfInBounds i true) (a.put oi.dst v) w) (hi : ops.toList[i]? = some oi := by rfl)
    (hs : Region.noSelect ops = true := by kernel_rfl) (hf : Region.free md ops listed i = true := by kernel_rfl) (hr : (Region.ready md ops listed).contains i = true := by kernel_rfl)
    (hd : oi.dst = some d := by rfl) (hw : Region.wanted oi (yielded ops a.tmps) = true := by rfl) (hS : S w := by assumption) : wpAnyH P md ops Q S (fuel + 1) listed a w :=
  wpAnyH_take (op_of hi) hs hf hr (by rw [hd]; exact fun _ _ _ => hP _ _ _ _ _) (Or.inl ⟨hw, hy⟩) hS h
theorem rdy (i : Nat) (hk : ∀ K' : Act → World → Prop, Shut (∀ a w, S w → (S w → wpAnyH P md ops Q S fuel (listed.setIfInBounds i true) a w) → K' a w) → if Region.wanted oi (yielded ops a.tmps) = true then Oper.wp P oi a w K' Q else K' (a.put oi.dst undef) w)
    (hi : ops.toList[i]? = some oi := by rfl) (hr : Region.ready md ops listed = [i] := by kernel_rfl) : wpAnyH P md ops Q S (fuel + 1) listed a w :=
  wpAnyH_ready hr (by simp) (AllReadyH.cons (op_of hi) hk AllReadyH.nil)
/-- What 'Act.put' leaves, laid out. -/
theorem pt1 {α : Type} (l : List α) (i : Nat) (a : α) : l.toArray.setIfInBounds i a = (l.set i a).toArray := List.setIfInBounds_toArray ..
theorem pt2 {α : Type} (x : α) (l : List α) (a : α) : (x :: l).set 0 a = a :: l := rfl
theorem pt3 {α : Type} (x : α) (l : List α) (i : Nat) (a : α) : (x :: l).set (i + 1) a = x :: l.set i a := rfl
end
end Go.Proofs.Ytllcmjdfgbiijaa
namespace Go.Proofs.Ytllcmjdfgbiijaa
open Go.RowKit
set_option maxRecDepth 100000
theorem blk_ne12 {w : World} {g g' : Nat} {t t' : TypeId} {cs cs' : Array Value} (h : Blk w g t cs) (h' : Blk w g' t' cs') (ht : t ≠ t') : g ≠ g' := by
  rintro rfl
  unfold Blk at h h'
  rw [h] at h'
  injection h' with h'
  injection h' with _ h2 _
  exact ht h2
theorem own12_far {w w' : World} {base : Nat} {e : TypeId} {v : Value} {n : Nat} {xs : List Value} {row : Option Nat} (h : w.ownsRow base e 1 v n xs) (hg : w.grownBy w' row) (hr : ∀ r, row = some r → v.ownBlock ≠ some r) : w'.ownsRow base e 1 v n xs := by
  cases row with
  | none => exact own7_none h hg
  | some r => exact own7_far h hg (hr r rfl)
section
variable {W : World} {L g gh gc n t : Nat} {h c o : Nat → Nat} {Al : Option Addr} {kl cl : Nat} {Am : Option Addr} {km cm : Nat} {ls ms : List Nat}
end
end Go.Proofs.Ytllcmjdfgbiijaa
namespace Go.Proofs.Ytllcmjdfgbiijaa
open Go.RowKit
set_option maxRecDepth 100000
theorem info_int12 : (Try.prog.info? 3).map (fun i => (i.zero, i.size, i.bytes)) = some (some (.int .i64 0), 1, 8) := by kernel_rfl
theorem own12_some {w : World} {base : Nat} {e : TypeId} {A : Option Addr} {cc m : Nat} {vs : List Value} (h : w.ownsRow base e 1 (.slice A (m + 1) cc) (m + 1) vs) : ∃ r, A = some ⟨r, 0, none⟩ ∧ m + 1 ≤ cc := by
  rcases h.2 with ⟨h0, _⟩ | ⟨r, cap, cur, hv, _, _, hn, _⟩
  · cases h0
  · injection hv with h1 h2 h3
    subst h3
    exact ⟨r, h1, hn⟩
theorem own12_last {w : World} {base : Nat} {e : TypeId} {r cc m : Nat} {xs : List Nat} {a : Nat} (h : w.ownsRow base e 1 (.slice (some ⟨r, 0, none⟩) (m + 1) cc) (m + 1) (ints (xs ++ [a]))) (hx : xs.length = m) : w.cell? ⟨r, m, none⟩ = some (.int .i64 (a : Int)) := by
  have h1 := h.cells (g := r) rfl m (.int .i64 (a : Int)) (by rw [ints_append, List.getElem?_append_right (by rw [ints_length]; omega), ints_length, hx, Nat.sub_self]; rfl)
  rw [Go.WideShapes.add_plain, Nat.zero_add] at h1
  exact h1
section
variable {W : World} {L g gh gc n t : Nat} {h c o : Nat → Nat} {Al : Option Addr} {kl cl : Nat} {Am : Option Addr} {km cm : Nat} {ls ms : List Nat}
end
theorem rv12_one (w : World) (d : Nat) (t : TypeId) : Rv (w.alloc (.cells #[.int .i64 (d : Int)] t)) (w.heap.size + 1) (some ⟨w.heap.size, 0, none⟩) (ints [d]) := by
  intro _
  refine ⟨w.heap.size, 0, rfl, by omega, fun k v hk => ?_⟩
  match k, hk with
  | 0, hk =>
    obtain rfl : Value.int .i64 (d : Int) = v := by simpa [ints] using hk
    exact cell_one_new w (.int .i64 (d : Int)) t 0 _ rfl
  | k + 1, hk => simp [ints] at hk
end Go.Proofs.Ytllcmjdfgbiijaa
