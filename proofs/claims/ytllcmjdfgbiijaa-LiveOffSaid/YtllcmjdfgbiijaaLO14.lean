/-
  SaidLiveOff, part 14 of 15: what the theorem liveOff_holds reaches.
-/
import Derived.Test.YtllcmjdfgbiijaaLO13
namespace Go.Proofs.Ytllcmjdfgbiijaa
open Go.RowKit
set_option maxRecDepth 100000
set_option maxHeartbeats 2000000 in
theorem loff17_no1 (A0 A1 A2 A3 A4 : Option Addr) (n0 n1 n2 n3 n4 c0 c1 c2 c3 c4 : Nat) (sq c : Int) (S : Sv14) (w : World) (hn : ¬ Small14 n0 n1 n2 n3 n4) :
    Calls Try.prog 4 #[(.agg #[.slice A0 n0 c0, .slice A1 n1 c1, .slice A2 n2 c2, .slice A3 n3 c3, .slice A4 n4 c4, .int .i64 sq]), .int .i64 c] w fun e w' => e = .returned (.bool true) ∧ Below w.heap.size w w' := by
  have hb0 := b1' w (.cells #[.slice A0 n0 c0, .slice A1 n1 c1, .slice A2 n2 c2, .slice A3 n3 c3, .slice A4 n4 c4, .int .i64 sq] 28)
  have hk0 := Blk.new w 28 #[.slice A0 n0 c0, .slice A1 n1 c1, .slice A2 n2 c2, .slice A3 n3 c3, .slice A4 n4 c4, .int .i64 sq]
  obtain ⟨W0, hW0⟩ : ∃ W, w.alloc (.cells #[.slice A0 n0 c0, .slice A1 n1 c1, .slice A2 n2 c2, .slice A3 n3 c3, .slice A4 n4 c4, .int .i64 sq] 28) = W := ⟨_, rfl⟩
  rw [hW0] at hb0 hk0
  have p0 := hk0.cell 0
  have p1 := hk0.cell 1
  have p2 := hk0.cell 2
  have p3 := hk0.cell 3
  have p4 := hk0.cell 4
  have p5 := hk0.cell 5
  have HB0 := Lib.hid hb0
  have HC := Lib.hid (fun W => small14 A0 A1 A2 A3 A4 n0 n1 n2 n3 n4 c0 c1 c2 c3 c4 sq false W (by simp [hn]))
  clear hb0 hk0 hn
  go_enter Try.func4, Try.ntmps4
  go_wp2_with fail
  refine (HC.out _).mono ?_
  rintro e u1 ⟨rfl, hb1⟩
  have HB1 := Lib.hid (HB0.out.trans (hb1.mono HB0.out.size))
  clear hb1 HC
  go_wp2_with fail
  refine (alive17_any _).mono ?_
  rintro e u2 ⟨rfl, hb2⟩
  have HB2 := Lib.hid (HB1.out.trans (hb2.mono HB1.out.size))
  clear hb2
  go_wp2_with fail
  go_ret
  exact ⟨rfl, HB2.out⟩
set_option maxHeartbeats 2000000 in
theorem loff17_no2 (A0 A1 A2 A3 A4 : Option Addr) (n0 n1 n2 n3 n4 c0 c1 c2 c3 c4 : Nat) (sq c : Int) (S : Sv14) (w : World) (hs : SA14 w S A0 A1 A2 A3 A4 n0 n1 n2 n3 n4 c0 c1 c2 c3 c4 sq) (hn : Small14 n0 n1 n2 n3 n4) (hf : ¬ Fine14 S) :
    Calls Try.prog 4 #[(.agg #[.slice A0 n0 c0, .slice A1 n1 c1, .slice A2 n2 c2, .slice A3 n3 c3, .slice A4 n4 c4, .int .i64 sq]), .int .i64 c] w fun e w' => e = .returned (.bool true) ∧ Below w.heap.size w w' := by
  have hx0 := Bx14.new hs
  have hxn := hx0.step (Below.refl _ _).drew
  obtain ⟨W1, hW1⟩ : ∃ W, w.alloc (.cells #[.slice A0 n0 c0, .slice A1 n1 c1, .slice A2 n2 c2, .slice A3 n3 c3, .slice A4 n4 c4, .int .i64 sq] 28) = W := ⟨_, rfl⟩
  rw [hW1] at hx0 hxn
  have HX0 := Lib.hid hx0
  have p0 := hx0.x.cell 0
  have p1 := hx0.x.cell 1
  have p2 := hx0.x.cell 2
  have p3 := hx0.x.cell 3
  have p4 := hx0.x.cell 4
  have p5 := hx0.x.cell 5
  have HC := Lib.hid (fun W => small14 A0 A1 A2 A3 A4 n0 n1 n2 n3 n4 c0 c1 c2 c3 c4 sq true W (by simp [hn]))
  have HD0 := Lib.hid (fun W (h : Bx14 w S A0 A1 A2 A3 A4 n0 n1 n2 n3 n4 c0 c1 c2 c3 c4 sq W) => rfine14 (.agg #[.slice A0 n0 c0, .slice A1 n1 c1, .slice A2 n2 c2, .slice A3 n3 c3, .slice A4 n4 c4, .int .i64 sq]) S false W h.st (by simp [hf]))
  clear hs hx0 hxn hn hf
  go_enter Try.func4, Try.ntmps4
  go_wp2_with fail
  refine (HC.out _).mono ?_
  rintro e u1 ⟨rfl, hb1⟩
  have HX1 := Lib.hid (HX0.out.step hb1)
  clear hb1 HC HX0 p0 p1 p2 p3 p4 p5
  have q10 := HX1.out.x.cell 0
  have q11 := HX1.out.x.cell 1
  have q12 := HX1.out.x.cell 2
  have q13 := HX1.out.x.cell 3
  have q14 := HX1.out.x.cell 4
  have q15 := HX1.out.x.cell 5
  go_wp2_with fail
  refine (HD0.out _ HX1.out).mono ?_
  rintro e u2 ⟨rfl, hb2⟩
  have HX2 := Lib.hid (HX1.out.step hb2)
  clear hb2 HD0 HX1 q10 q11 q12 q13 q14 q15
  go_wp2_with fail
  refine (alive17_any _).mono ?_
  rintro e u3 ⟨rfl, hb3⟩
  have HX3 := Lib.hid (HX2.out.step hb3)
  clear hb3
  go_wp2_with fail
  go_ret
  exact ⟨rfl, HX3.out.b⟩
set_option maxHeartbeats 2000000 in
theorem loff17_no3 (A0 A1 A2 A3 A4 : Option Addr) (n0 n1 n2 n3 n4 c0 c1 c2 c3 c4 : Nat) (sq c : Int) (S : Sv14) (w : World) (hs : SA14 w S A0 A1 A2 A3 A4 n0 n1 n2 n3 n4 c0 c1 c2 c3 c4 sq) (hn : Small14 n0 n1 n2 n3 n4) (hf : Fine14 S) (hu : us14 usT S.T c = false) :
    Calls Try.prog 4 #[(.agg #[.slice A0 n0 c0, .slice A1 n1 c1, .slice A2 n2 c2, .slice A3 n3 c3, .slice A4 n4 c4, .int .i64 sq]), .int .i64 c] w fun e w' => e = .returned (.bool true) ∧ Below w.heap.size w w' := by
  have hx0 := Bx14.new hs
  have hxn := hx0.step (Below.refl _ _).drew
  obtain ⟨W1, hW1⟩ : ∃ W, w.alloc (.cells #[.slice A0 n0 c0, .slice A1 n1 c1, .slice A2 n2 c2, .slice A3 n3 c3, .slice A4 n4 c4, .int .i64 sq] 28) = W := ⟨_, rfl⟩
  rw [hW1] at hx0 hxn
  have HX0 := Lib.hid hx0
  have p0 := hx0.x.cell 0
  have p1 := hx0.x.cell 1
  have p2 := hx0.x.cell 2
  have p3 := hx0.x.cell 3
  have p4 := hx0.x.cell 4
  have p5 := hx0.x.cell 5
  have HC := Lib.hid (fun W => small14 A0 A1 A2 A3 A4 n0 n1 n2 n3 n4 c0 c1 c2 c3 c4 sq true W (by simp [hn]))
  have HD0 := Lib.hid (fun W (h : Bx14 w S A0 A1 A2 A3 A4 n0 n1 n2 n3 n4 c0 c1 c2 c3 c4 sq W) => rfine14 (.agg #[.slice A0 n0 c0, .slice A1 n1 c1, .slice A2 n2 c2, .slice A3 n3 c3, .slice A4 n4 c4, .int .i64 sq]) S true W h.st (by simp [hf]))
  have HD1 := Lib.hid (fun W (h : Bx14 w S A0 A1 A2 A3 A4 n0 n1 n2 n3 n4 c0 c1 c2 c3 c4 sq W) => rTicket14 (.agg #[.slice A0 n0 c0, .slice A1 n1 c1, .slice A2 n2 c2, .slice A3 n3 c3, .slice A4 n4 c4, .int .i64 sq]) S c false W h.st hu)
  clear hs hx0 hxn hn hf hu
  go_enter Try.func4, Try.ntmps4
  go_wp2_with fail
  refine (HC.out _).mono ?_
  rintro e u1 ⟨rfl, hb1⟩
  have HX1 := Lib.hid (HX0.out.step hb1)
  clear hb1 HC HX0 p0 p1 p2 p3 p4 p5
  have q10 := HX1.out.x.cell 0
  have q11 := HX1.out.x.cell 1
  have q12 := HX1.out.x.cell 2
  have q13 := HX1.out.x.cell 3
  have q14 := HX1.out.x.cell 4
  have q15 := HX1.out.x.cell 5
  go_wp2_with fail
  refine (HD0.out _ HX1.out).mono ?_
  rintro e u2 ⟨rfl, hb2⟩
  have HX2 := Lib.hid (HX1.out.step hb2)
  clear hb2 HD0 HX1 q10 q11 q12 q13 q14 q15
  have q20 := HX2.out.x.cell 0
  have q21 := HX2.out.x.cell 1
  have q22 := HX2.out.x.cell 2
  have q23 := HX2.out.x.cell 3
  have q24 := HX2.out.x.cell 4
  have q25 := HX2.out.x.cell 5
  go_wp2_with fail
  refine (HD1.out _ HX2.out).mono ?_
  rintro e u3 ⟨rfl, hb3⟩
  have HX3 := Lib.hid (HX2.out.step hb3)
  clear hb3 HD1 HX2 q20 q21 q22 q23 q24 q25
  go_wp2_with fail
  refine (alive17_any _).mono ?_
  rintro e u4 ⟨rfl, hb4⟩
  have HX4 := Lib.hid (HX3.out.step hb4)
  clear hb4
  go_wp2_with fail
  go_ret
  exact ⟨rfl, HX4.out.b⟩
theorem own17_far {w : World} {base k n : Nat} {e : TypeId} {v : Value} {xs : List Value} (h : w.ownsRow base e k v n xs) {p : Addr} (hne : v.ownBlock ≠ some p.block) (u : Value) : (w.setCell p u).ownsRow base e k v n xs := by
  obtain ⟨h1, h2⟩ := h
  refine ⟨h1, ?_⟩
  rcases h2 with h2 | ⟨g, cap, cur, rfl, hg, hh, r⟩
  · exact .inl h2
  · exact .inr ⟨g, cap, cur, rfl, hg, by rw [Below.heap_setCell w p u g (fun e => hne (by rw [← e]; rfl))]; exact hh, r⟩
theorem own17_type {w : World} {base k n : Nat} {e : TypeId} {v : Value} {xs : List Value} (h : w.ownsRow base e k v n xs) {p : Addr} {t : TypeId} {cs : Array Value} (hb : Blk w p.block t cs) (hne : t ≠ e) (u : Value) : (w.setCell p u).ownsRow base e k v n xs :=
  own17_far h (fun e' => own14_blk h hb hne e'.symm) u
theorem OA14.var17 {w : World} {L : Nat} {S : Sv14} {A0 A1 A2 A3 A4 : Option Addr} {n0 n1 n2 n3 n4 c0 c1 c2 c3 c4 : Nat} {sq : Int} (h : OA14 w L S A0 A1 A2 A3 A4 n0 n1 n2 n3 n4 c0 c1 c2 c3 c4 sq) {p : Addr} {cs : Array Value} (hb : Blk w p.block 28 cs) (u : Value) : OA14 (w.setCell p u) L S A0 A1 A2 A3 A4 n0 n1 n2 n3 n4 c0 c1 c2 c3 c4 sq :=
  ⟨own17_type h.o0 hb (by decide) u, own17_type h.o1 hb (by decide) u, own17_type h.o2 hb (by decide) u, own17_type h.o3 hb (by decide) u, own17_type h.o4 hb (by decide) u, h.l0, h.l1, h.l2, h.l3, h.l4, h.m0, h.m1, h.m2, h.m3, h.m4, h.e⟩
theorem OA14.put6_17 {w : World} {L : Nat} {S : Sv14} {A0 A1 A2 A3 A4 : Option Addr} {n0 n1 n2 n3 n4 c0 c1 c2 c3 c4 : Nat} {sq : Int} (h : OA14 w L S A0 A1 A2 A3 A4 n0 n1 n2 n3 n4 c0 c1 c2 c3 c4 sq) {g : Nat} {cs : Array Value} (hb : Blk w g 28 cs) (B0 B1 B2 B3 B4 : Option Addr) (m0 m1 m2 m3 m4 d0 d1 d2 d3 d4 : Nat) (sb : Int) : OA14 (put6 w g B0 B1 B2 B3 B4 m0 m1 m2 m3 m4 d0 d1 d2 d3 d4 sb) L S A0 A1 A2 A3 A4 n0 n1 n2 n3 n4 c0 c1 c2 c3 c4 sq :=
  ((((((h.var17 (p := ⟨g, 0, none⟩) hb _).var17 (p := ⟨g, 1, none⟩) (hb.set_ 0 _) _).var17 (p := ⟨g, 2, none⟩) ((hb.set_ 0 _).set_ 1 _) _).var17 (p := ⟨g, 3, none⟩) (((hb.set_ 0 _).set_ 1 _).set_ 2 _) _).var17 (p := ⟨g, 4, none⟩) ((((hb.set_ 0 _).set_ 1 _).set_ 2 _).set_ 3 _) _).var17 (p := ⟨g, 5, none⟩) (((((hb.set_ 0 _).set_ 1 _).set_ 2 _).set_ 3 _).set_ 4 _) _)
/-- A ticket of one's own is turned on, or off. -/
theorem OA14.on17 {w : World} {L : Nat} {S : Sv14} {A0 A1 A2 A3 A4 : Option Addr} {n0 n1 n2 n3 n4 c0 c1 c2 c3 c4 : Nat} {sq : Int} (h : OA14 w L S A0 A1 A2 A3 A4 n0 n1 n2 n3 n4 c0 c1 c2 c3 c4 sq) {k : Nat} (hk : k < S.T.length) (o : Bool) :
    ∃ (g : Nat) (cs : Array Value), A1 = some ⟨g, 0, none⟩ ∧ L ≤ g ∧ Blk w g 35 cs ∧ k * 6 + 5 < cs.size ∧ OA14 (w.setCell ⟨g, k * 6 + 5, none⟩ (.bool o)) L (set17 S k o) A0 A1 A2 A3 A4 n0 n1 n2 n3 n4 c0 c1 c2 c3 c4 sq := by
  have hl1 := h.l1
  rcases h.o1.2 with ⟨_, h0⟩ | ⟨g, cap, cur, hv, hg, hh, hnc, hcm, hcs, htk⟩
  · omega
  · injection hv with hA _ hc
    subst hA hc
    have hik : (k + 1) * 6 ≤ n1 * 6 := Nat.mul_le_mul_right 6 (by omega)
    have hnk : n1 * 6 ≤ c1 * 6 := Nat.mul_le_mul_right 6 hnc
    have hb : Blk w g 35 cur := hh
    have hcur : ∀ q, q < n1 * 6 → cur[q]? = (fl14 clT S.T)[q]? := fun q hq => by rw [← htk, List.getElem?_take_of_lt hq, Array.getElem?_toList]
    refine ⟨g, cur, rfl, hg, hb, by omega, own17_type h.o0 hb (by decide) _, ⟨?_, .inr ⟨g, c1, _, rfl, hg, hb.set_ (k * 6 + 5) (.bool o), hnc, hcm, by simpa using hcs, ?_⟩⟩, own17_type h.o2 hb (by decide) _, own17_type h.o3 hb (by decide) _, own17_type h.o4 hb (by decide) _, h.l0, by rw [set17_len]; exact h.l1, h.l2, h.l3, h.l4, h.m0, h.m1, h.m2, h.m3, h.m4, h.e⟩
    · rw [fl14_len len14T, set17_len, hl1]
    · apply List.ext_getElem?
      intro q
      rw [List.getElem?_take]
      split
      · next hq =>
        have hm : q % 6 < 6 := Nat.mod_lt _ (by omega)
        have hd : q / 6 < n1 := Nat.div_lt_of_lt_mul (by rw [Nat.mul_comm]; exact hq)
        have he : q / 6 * 6 + q % 6 = q := by rw [Nat.mul_comm]; exact Nat.div_add_mod q 6
        have hset := fl14_get len14T (xs := (set17 S k o).T) (j := q / 6) (i := q % 6) (by rw [set17_len, hl1]; exact hd) hm
        rw [he, set17_gt hk] at hset
        have hold := fl14_get len14T (xs := S.T) (j := q / 6) (i := q % 6) (by rw [hl1]; exact hd) hm
        rw [he] at hold
        rw [Array.getElem?_toList, hset]
        by_cases e1 : q = k * 6 + 5
        · have e2 : q / 6 = k := by omega
          have e3 : q % 6 = 5 := by omega
          rw [e2, if_pos rfl, e3, e1, Array.getElem?_setIfInBounds_self_of_lt (by omega)]
          rfl
        · rw [Array.getElem?_setIfInBounds_ne (fun e => e1 e.symm), hcur q hq, hold]
          by_cases e2 : q / 6 = k
          · have e3 : q % 6 ≠ 5 := by omega
            rw [e2, if_pos rfl]
            have e4 : q % 6 = 0 ∨ q % 6 = 1 ∨ q % 6 = 2 ∨ q % 6 = 3 ∨ q % 6 = 4 := by omega
            rcases e4 with e | e | e | e | e <;> rw [e] <;> rfl
          · rw [if_neg e2]
      · next hq =>
        rw [List.getElem?_eq_none]
        rw [fl14_len len14T, set17_len, hl1]
        omega
/-- Another one's ticket is. -/
theorem OA14.aside17 {w : World} {L : Nat} {S : Sv14} {A0 A1 A2 A3 A4 : Option Addr} {n0 n1 n2 n3 n4 c0 c1 c2 c3 c4 : Nat} {sq : Int} (h : OA14 w L S A0 A1 A2 A3 A4 n0 n1 n2 n3 n4 c0 c1 c2 c3 c4 sq) {p : Addr} {cs : Array Value} (hb : Blk w p.block 35 cs) (hne : (Value.slice A1 n1 c1).ownBlock ≠ some p.block) (u : Value) : OA14 (w.setCell p u) L S A0 A1 A2 A3 A4 n0 n1 n2 n3 n4 c0 c1 c2 c3 c4 sq :=
  ⟨own17_type h.o0 hb (by decide) u, own17_far h.o1 hne u, own17_type h.o2 hb (by decide) u, own17_type h.o3 hb (by decide) u, own17_type h.o4 hb (by decide) u, h.l0, h.l1, h.l2, h.l3, h.l4, h.m0, h.m1, h.m2, h.m3, h.m4, h.e⟩
/-- A boxed state, and two copies in variables of their own. -/
structure Of17 (w : World) (S : Sv14) (A0 A1 A2 A3 A4 : Option Addr) (n0 n1 n2 n3 n4 c0 c1 c2 c3 c4 : Nat) (sq : Int) (go gf L1 L2 : Nat) (X Y : Sv14) (B0 B1 B2 B3 B4 E0 E1 E2 E3 E4 : Option Addr) (m0 m1 m2 m3 m4 d0 d1 d2 d3 d4 o0 o1 o2 o3 o4 p0 p1 p2 p3 p4 : Nat) (sb se : Int) (W : World) : Prop where
  b : By16 w S A0 A1 A2 A3 A4 n0 n1 n2 n3 n4 c0 c1 c2 c3 c4 sq W
  vo : Blk W go 28 #[.slice B0 m0 d0, .slice B1 m1 d1, .slice B2 m2 d2, .slice B3 m3 d3, .slice B4 m4 d4, .int .i64 sb]
  vf : Blk W gf 28 #[.slice E0 o0 p0, .slice E1 o1 p1, .slice E2 o2 p2, .slice E3 o3 p3, .slice E4 o4 p4, .int .i64 se]
  oa : OA14 W L1 X B0 B1 B2 B3 B4 m0 m1 m2 m3 m4 d0 d1 d2 d3 d4 sb
  ob : OA14 W L2 Y E0 E1 E2 E3 E4 o0 o1 o2 o3 o4 p0 p1 p2 p3 p4 se
  h1 : w.heap.size + 1 ≤ L1
  h2 : w.heap.size + 1 ≤ L2
  sp : ∀ b, (Value.slice B1 m1 d1).ownBlock = some b → (Value.slice E1 o1 p1).ownBlock ≠ some b
theorem Of17.step {w : World} {S : Sv14} {A0 A1 A2 A3 A4 : Option Addr} {n0 n1 n2 n3 n4 c0 c1 c2 c3 c4 : Nat} {sq : Int} {go gf L1 L2 : Nat} {X Y : Sv14} {B0 B1 B2 B3 B4 E0 E1 E2 E3 E4 : Option Addr} {m0 m1 m2 m3 m4 d0 d1 d2 d3 d4 o0 o1 o2 o3 o4 p0 p1 p2 p3 p4 : Nat} {sb se : Int} {W W' : World} (h : Of17 w S A0 A1 A2 A3 A4 n0 n1 n2 n3 n4 c0 c1 c2 c3 c4 sq go gf L1 L2 X Y B0 B1 B2 B3 B4 E0 E1 E2 E3 E4 m0 m1 m2 m3 m4 d0 d1 d2 d3 d4 o0 o1 o2 o3 o4 p0 p1 p2 p3 p4 sb se W) (hb : Below W.heap.size W W') : Of17 w S A0 A1 A2 A3 A4 n0 n1 n2 n3 n4 c0 c1 c2 c3 c4 sq go gf L1 L2 X Y B0 B1 B2 B3 B4 E0 E1 E2 E3 E4 m0 m1 m2 m3 m4 d0 d1 d2 d3 d4 o0 o1 o2 o3 o4 p0 p1 p2 p3 p4 sb se W' :=
  ⟨h.b.step hb, h.vo.below hb h.vo.lt, h.vf.below hb h.vf.lt, h.oa.step hb, h.ob.step hb, h.h1, h.h2, h.sp⟩
theorem Of17.so {w : World} {S : Sv14} {A0 A1 A2 A3 A4 : Option Addr} {n0 n1 n2 n3 n4 c0 c1 c2 c3 c4 : Nat} {sq : Int} {go gf L1 L2 : Nat} {X Y : Sv14} {B0 B1 B2 B3 B4 E0 E1 E2 E3 E4 : Option Addr} {m0 m1 m2 m3 m4 d0 d1 d2 d3 d4 o0 o1 o2 o3 o4 p0 p1 p2 p3 p4 : Nat} {sb se : Int} {W : World} (h : Of17 w S A0 A1 A2 A3 A4 n0 n1 n2 n3 n4 c0 c1 c2 c3 c4 sq go gf L1 L2 X Y B0 B1 B2 B3 B4 E0 E1 E2 E3 E4 m0 m1 m2 m3 m4 d0 d1 d2 d3 d4 o0 o1 o2 o3 o4 p0 p1 p2 p3 p4 sb se W) : St14 W (.agg #[.slice B0 m0 d0, .slice B1 m1 d1, .slice B2 m2 d2, .slice B3 m3 d3, .slice B4 m4 d4, .int .i64 sb]) X := h.oa.sa.to
theorem Of17.sf {w : World} {S : Sv14} {A0 A1 A2 A3 A4 : Option Addr} {n0 n1 n2 n3 n4 c0 c1 c2 c3 c4 : Nat} {sq : Int} {go gf L1 L2 : Nat} {X Y : Sv14} {B0 B1 B2 B3 B4 E0 E1 E2 E3 E4 : Option Addr} {m0 m1 m2 m3 m4 d0 d1 d2 d3 d4 o0 o1 o2 o3 o4 p0 p1 p2 p3 p4 : Nat} {sb se : Int} {W : World} (h : Of17 w S A0 A1 A2 A3 A4 n0 n1 n2 n3 n4 c0 c1 c2 c3 c4 sq go gf L1 L2 X Y B0 B1 B2 B3 B4 E0 E1 E2 E3 E4 m0 m1 m2 m3 m4 d0 d1 d2 d3 d4 o0 o1 o2 o3 o4 p0 p1 p2 p3 p4 sb se W) : St14 W (.agg #[.slice E0 o0 p0, .slice E1 o1 p1, .slice E2 o2 p2, .slice E3 o3 p3, .slice E4 o4 p4, .int .i64 se]) Y := h.ob.sa.to
theorem Of17.on {w : World} {S : Sv14} {A0 A1 A2 A3 A4 : Option Addr} {n0 n1 n2 n3 n4 c0 c1 c2 c3 c4 : Nat} {sq : Int} {go gf L1 L2 : Nat} {X Y : Sv14} {B0 B1 B2 B3 B4 E0 E1 E2 E3 E4 : Option Addr} {m0 m1 m2 m3 m4 d0 d1 d2 d3 d4 o0 o1 o2 o3 o4 p0 p1 p2 p3 p4 : Nat} {sb se : Int} {W : World} (h : Of17 w S A0 A1 A2 A3 A4 n0 n1 n2 n3 n4 c0 c1 c2 c3 c4 sq go gf L1 L2 X Y B0 B1 B2 B3 B4 E0 E1 E2 E3 E4 m0 m1 m2 m3 m4 d0 d1 d2 d3 d4 o0 o1 o2 o3 o4 p0 p1 p2 p3 p4 sb se W) {k : Nat} (hk : k < X.T.length) (o : Bool) :
    ∃ g, B1 = some ⟨g, 0, none⟩ ∧ (∃ z, W.cell? ⟨g, k * 6 + 5, none⟩ = some z) ∧ W.frozen? ⟨g, k * 6 + 5, none⟩ = false ∧ Of17 w S A0 A1 A2 A3 A4 n0 n1 n2 n3 n4 c0 c1 c2 c3 c4 sq go gf L1 L2 (set17 X k o) Y B0 B1 B2 B3 B4 E0 E1 E2 E3 E4 m0 m1 m2 m3 m4 d0 d1 d2 d3 d4 o0 o1 o2 o3 o4 p0 p1 p2 p3 p4 sb se (W.setCell ⟨g, k * 6 + 5, none⟩ (.bool o)) := by
  obtain ⟨g, cs, hA, hg, hb, hs, hoa⟩ := h.oa.on17 hk o
  have hsp := h.sp
  have h1 := h.h1
  refine ⟨g, hA, ⟨_, by rw [hb.cell]; exact Array.getElem?_eq_getElem hs⟩, hb.frozen _, h.b.low ((Below.refl _ _).setCell (by show w.heap.size + 1 ≤ g; omega) _), h.vo.far (blk_ne12 h.vo hb (by decide)) _, h.vf.far (blk_ne12 h.vf hb (by decide)) _, hoa, h.ob.aside17 (p := ⟨g, _, none⟩) hb (hsp g (by rw [hA]; rfl)) _, h.h1, h.h2, hsp⟩
theorem Of17.off {w : World} {S : Sv14} {A0 A1 A2 A3 A4 : Option Addr} {n0 n1 n2 n3 n4 c0 c1 c2 c3 c4 : Nat} {sq : Int} {go gf L1 L2 : Nat} {X Y : Sv14} {B0 B1 B2 B3 B4 E0 E1 E2 E3 E4 : Option Addr} {m0 m1 m2 m3 m4 d0 d1 d2 d3 d4 o0 o1 o2 o3 o4 p0 p1 p2 p3 p4 : Nat} {sb se : Int} {W : World} (h : Of17 w S A0 A1 A2 A3 A4 n0 n1 n2 n3 n4 c0 c1 c2 c3 c4 sq go gf L1 L2 X Y B0 B1 B2 B3 B4 E0 E1 E2 E3 E4 m0 m1 m2 m3 m4 d0 d1 d2 d3 d4 o0 o1 o2 o3 o4 p0 p1 p2 p3 p4 sb se W) {k : Nat} (hk : k < Y.T.length) (o : Bool) :
    ∃ g, E1 = some ⟨g, 0, none⟩ ∧ (∃ z, W.cell? ⟨g, k * 6 + 5, none⟩ = some z) ∧ W.frozen? ⟨g, k * 6 + 5, none⟩ = false ∧ Of17 w S A0 A1 A2 A3 A4 n0 n1 n2 n3 n4 c0 c1 c2 c3 c4 sq go gf L1 L2 X (set17 Y k o) B0 B1 B2 B3 B4 E0 E1 E2 E3 E4 m0 m1 m2 m3 m4 d0 d1 d2 d3 d4 o0 o1 o2 o3 o4 p0 p1 p2 p3 p4 sb se (W.setCell ⟨g, k * 6 + 5, none⟩ (.bool o)) := by
  obtain ⟨g, cs, hA, hg, hb, hs, hob⟩ := h.ob.on17 hk o
  have hsp := h.sp
  have h2 := h.h2
  refine ⟨g, hA, ⟨_, by rw [hb.cell]; exact Array.getElem?_eq_getElem hs⟩, hb.frozen _, h.b.low ((Below.refl _ _).setCell (by show w.heap.size + 1 ≤ g; omega) _), h.vo.far (blk_ne12 h.vo hb (by decide)) _, h.vf.far (blk_ne12 h.vf hb (by decide)) _, h.oa.aside17 (p := ⟨g, _, none⟩) hb (fun e => hsp g e (by rw [hA]; rfl)) _, hob, h.h1, h.h2, hsp⟩
/-- The operations of a region of a function's body. -/
def regionOf17o : Code → Nat → Option (Array Oper)
  | .region id ops _, n => if id = n then some ops else none
  | .seq x y, n => (regionOf17o x n).orElse fun _ => regionOf17o y n
  | .cond _ x y, n => (regionOf17o x n).orElse fun _ => regionOf17o y n
  | .block _ x, n => regionOf17o x n
  | .loop x, n => regionOf17o x n
  | _, _ => none
def ops17os : { o : Array Oper // (match Go.Func.body Try.f4 with | some c => regionOf17o c 3 | none => none) = some o } := ⟨_, rfl⟩
def ops17o : Array Oper := ops17os.1
section
variable {t0 t1 t2 t3 t4 t5 t6 t7 t8 t9 t10 t11 t12 t13 t14 t15 t16 t17 t18 t19 t20 t21 t22 t23 t24 t25 t26 t27 t28 t29 t30 t31 t32 t33 t34 t35 t36 t37 t38 t39 t40 t41 t42 t43 t44 t45 t46 t47 t48 t49 t50 t51 t52 t53 t54 t55 t56 t57 t58 t59 t60 t61 t62 t63 t64 t65 t66 t67 t68 t69 t70 t71 t72 t73 t74 t75 t76 t77 t78 t79 t80 t81 t82 t83 t84 t85 t86 t87 t88 t89 t90 t91 t92 t93 t94 t95 t96 t97 t98 t99 t100 t101 t102 t103 t104 t105 t106 t107 : Value}
variable {Q : Exit → Act → World → Prop}
set_option maxHeartbeats 16000000 in
theorem copies17 {w wc : World} {S : Sv14} {A0 A1 A2 A3 A4 : Option Addr} {n0 n1 n2 n3 n4 c0 c1 c2 c3 c4 : Nat} {sq : Int} {c : Int} (hb : By16 w S A0 A1 A2 A3 A4 n0 n1 n2 n3 n4 c0 c1 c2 c3 c4 sq wc)
    (hP : ∀ c a d v w, Q (.panic c) (Act.put a (some d) v) w → Q (.panic c) a w)
    (hQ : ∀ (x28 x29 x30 x31 : Value) (wn : World) (go gf L1 L2 : Nat) (B0 B1 B2 B3 B4 E0 E1 E2 E3 E4 : Option Addr) (m0 m1 m2 m3 m4 d0 d1 d2 d3 d4 o0 o1 o2 o3 o4 p0 p1 p2 p3 p4 : Nat) (sb se : Int), Of17 w S A0 A1 A2 A3 A4 n0 n1 n2 n3 n4 c0 c1 c2 c3 c4 sq go gf L1 L2 S S B0 B1 B2 B3 B4 E0 E1 E2 E3 E4 m0 m1 m2 m3 m4 d0 d1 d2 d3 d4 o0 o1 o2 o3 o4 p0 p1 p2 p3 p4 sb se wn → Q .normal { tmps := #[(.agg #[.slice A0 n0 c0, .slice A1 n1 c1, .slice A2 n2 c2, .slice A3 n3 c3, .slice A4 n4 c4, .int .i64 sq]), .int .i64 c, .pointer (some ⟨w.heap.size, 0, none⟩), t3, t4, .pointer (some ⟨go, 0, none⟩), .pointer (some ⟨gf, 0, none⟩), t7, t8, t9, t10, t11, t12, t13, t14, t15, t16, t17, t18, t19, t20, t21, t22, t23, t24, t25, t26, t27, x28, x29, x30, x31, t32, t33, t34, t35, t36, t37, t38, t39, t40, t41, t42, t43, t44, t45, t46, t47, t48, t49, t50, t51, t52, t53, t54, t55, t56, t57, t58, t59, t60, t61, t62, t63, t64, t65, t66, t67, t68, t69, t70, t71, t72, t73, t74, t75, t76, t77, t78, t79, t80, t81, t82, t83, t84, t85, t86, t87, t88, t89, t90, t91, t92, t93, t94, t95, t96, t97, t98, t99, t100, t101, t102, t103, t104, t105, t106, t107], defers := [] } wn) :
    (Code.region 3 ops17o true).wp Try.prog Q { tmps := #[(.agg #[.slice A0 n0 c0, .slice A1 n1 c1, .slice A2 n2 c2, .slice A3 n3 c3, .slice A4 n4 c4, .int .i64 sq]), .int .i64 c, .pointer (some ⟨w.heap.size, 0, none⟩), t3, t4, t5, t6, t7, t8, t9, t10, t11, t12, t13, t14, t15, t16, t17, t18, t19, t20, t21, t22, t23, t24, t25, t26, t27, t28, t29, t30, t31, t32, t33, t34, t35, t36, t37, t38, t39, t40, t41, t42, t43, t44, t45, t46, t47, t48, t49, t50, t51, t52, t53, t54, t55, t56, t57, t58, t59, t60, t61, t62, t63, t64, t65, t66, t67, t68, t69, t70, t71, t72, t73, t74, t75, t76, t77, t78, t79, t80, t81, t82, t83, t84, t85, t86, t87, t88, t89, t90, t91, t92, t93, t94, t95, t96, t97, t98, t99, t100, t101, t102, t103, t104, t105, t106, t107], defers := [] } wc := by
  have HXN := Lib.hid (hb.step (Below.refl _ _).drew)
  have HCP := Lib.hid (fun W (h : Bx14 w S A0 A1 A2 A3 A4 n0 n1 n2 n3 n4 c0 c1 c2 c3 c4 sq W) => rcopy14 (.agg #[.slice A0 n0 c0, .slice A1 n1 c1, .slice A2 n2 c2, .slice A3 n3 c3, .slice A4 n4 c4, .int .i64 sq]) S W h.st)
  clear hb
  refine wp_region_held_drew (S := By16 w S A0 A1 A2 A3 A4 n0 n1 n2 n3 n4 c0 c1 c2 c3 c4 sq) (by kernel_rfl) HXN.out (fun hHeld => ?_)
  change wpAnyH _ _ ops17o _ _ 8 #[false, false, false, false, false, false, false, false] _ _
  obtain ⟨wn, hwn⟩ : ∃ W, wc.drew = W := ⟨_, rfl⟩
  rw [hwn] at HXN hHeld
  rw [hwn]
  clear hwn
  have HBS := HXN
  refine tkp hP 0 (v := ?_) (fun W hS => ?_) ?_
  rotate_left
  · try dsimp only at hS
    have z0 := hS.b.x.cell 0
    have z1 := hS.b.x.cell 1
    have z2 := hS.b.x.cell 2
    have z3 := hS.b.x.cell 3
    have z4 := hS.b.x.cell 4
    have z5 := hS.b.x.cell 5
    go_simp
    try with_reducible rfl
  (try dsimp only [Act.put]); try simp only [pt1, pt2, pt3]
  refine tkp hP 2 (v := ?_) (fun W hS => ?_) ?_
  rotate_left
  · try dsimp only at hS
    have z0 := hS.b.x.cell 0
    have z1 := hS.b.x.cell 1
    have z2 := hS.b.x.cell 2
    have z3 := hS.b.x.cell 3
    have z4 := hS.b.x.cell 4
    have z5 := hS.b.x.cell 5
    go_simp
    try with_reducible rfl
  (try dsimp only [Act.put]); try simp only [pt1, pt2, pt3]
  refine wpAnyH_ready (rs := [1, 4, 5]) (by kernel_rfl) (by simp) (AllReadyH.cons (op_of rfl) (fun K hK => ?_) (AllReadyH.cons (op_of rfl) (fun K hK => ?_) (AllReadyH.cons (op_of rfl) (fun K hK => ?_) AllReadyH.nil)))
  · skip
    have HBS0 := HBS
    obtain ⟨L1, hL1⟩ : ∃ k, wn.heap.size = k := ⟨_, rfl⟩
    have HL1 : Hid (w.heap.size + 1 ≤ L1) := Lib.hid (by have := HBS0.out.b.x.lt; omega)
    obtain ⟨wo, hwo⟩ : ∃ W, W = wn := ⟨_, rfl⟩
    go_simp
    refine (HCP.out _ HBS0.out.b).mono ?_
    rintro e wn ⟨B0, B1, B2, B3, B4, m0, m1, m2, m3, m4, d0, d1, d2, d3, d4, sb, rfl, hoa, hb⟩
    have HBS := Lib.hid (HBS0.out.step hb)
    rw [hL1] at hoa
    have HA := Lib.hid hoa
    clear hoa hb HBS0 hL1 hwo
    refine hK.out _ _ HBS.out (fun hHeld => ?_)
    clear hK K
    (try dsimp only [Act.put]); try simp only [pt1, pt2, pt3]
    refine wpAnyH_ready (rs := [3, 4, 5]) (by kernel_rfl) (by simp) (AllReadyH.cons (op_of rfl) (fun K hK => ?_) (AllReadyH.cons (op_of rfl) (fun K hK => ?_) (AllReadyH.cons (op_of rfl) (fun K hK => ?_) AllReadyH.nil)))
    · skip
      have HBS0 := HBS
      obtain ⟨L2, hL2⟩ : ∃ k, wn.heap.size = k := ⟨_, rfl⟩
      have HL2 : Hid (w.heap.size + 1 ≤ L2) := Lib.hid (by have := HBS0.out.b.x.lt; omega)
      have HSP : Hid (∀ b, (Value.slice B1 m1 d1).ownBlock = some b → b < L2) := Lib.hid (fun b hb => by rw [← hL2]; exact (HA.out.o1.lt b hb).2)
      obtain ⟨wo, hwo⟩ : ∃ W, W = wn := ⟨_, rfl⟩
      go_simp
      refine (HCP.out _ HBS0.out.b).mono ?_
      rintro e wn ⟨E0, E1, E2, E3, E4, o0, o1, o2, o3, o4, p0, p1, p2, p3, p4, se, rfl, hoa, hb⟩
      have HBS := Lib.hid (HBS0.out.step hb)
      have HA := Lib.hid (HA.out.step hb)
      rw [hL2] at hoa
      have HB := Lib.hid hoa
      clear hoa hb HBS0 hL2 hwo
      refine hK.out _ _ HBS.out (fun hHeld => ?_)
      clear hK K
      (try dsimp only [Act.put]); try simp only [pt1, pt2, pt3]
      refine wpAnyH_ready (rs := [4, 5]) (by kernel_rfl) (by simp) (AllReadyH.cons (op_of rfl) (fun K hK => ?_) (AllReadyH.cons (op_of rfl) (fun K hK => ?_) AllReadyH.nil))
      · skip
        have HBS0 := HBS
        have hb := b1' wn (.cells #[.slice none 0 0, .slice none 0 0, .slice none 0 0, .slice none 0 0, .slice none 0 0, .int .i64 0] 28)
        have HBS := Lib.hid (HBS0.out.step hb)
        have HA := Lib.hid (HA.out.step hb)
        have HB := Lib.hid (HB.out.step hb)
        have HO := Lib.hid (Blk.new wn 28 #[.slice none 0 0, .slice none 0 0, .slice none 0 0, .slice none 0 0, .slice none 0 0, .int .i64 0])
        have hlb : w.heap.size + 1 ≤ wn.heap.size := by have := HBS0.out.b.x.lt; omega
        obtain ⟨go, hgo⟩ : ∃ k, wn.heap.size = k := ⟨_, rfl⟩
        obtain ⟨wm, hwm⟩ : ∃ W, wn.alloc (.cells #[.slice none 0 0, .slice none 0 0, .slice none 0 0, .slice none 0 0, .slice none 0 0, .int .i64 0] 28) = W := ⟨_, rfl⟩
        rw [hwm] at HBS HA HB HO
        rw [hgo] at HO hlb
        have HLgo := Lib.hid hlb
        clear hlb
        go_simp
        clear hgo hwm hb HBS0
        obtain ⟨wn, hwn⟩ : ∃ W, W = wm := ⟨_, rfl⟩
        subst hwn
        refine hK.out _ _ HBS.out (fun hHeld => ?_)
        clear hK K
        (try dsimp only [Act.put]); try simp only [pt1, pt2, pt3]
        refine rdy 5 (fun K hK => ?_)
        have HBS0 := HBS
        have hb := b1' wn (.cells #[.slice none 0 0, .slice none 0 0, .slice none 0 0, .slice none 0 0, .slice none 0 0, .int .i64 0] 28)
        have HBS := Lib.hid (HBS0.out.step hb)
        have hlo := HO.out.lt
        have HA := Lib.hid (HA.out.step hb)
        have HB := Lib.hid (HB.out.step hb)
        have HO := Lib.hid (HO.out.below hb HO.out.lt)
        have HF := Lib.hid (Blk.new wn 28 #[.slice none 0 0, .slice none 0 0, .slice none 0 0, .slice none 0 0, .slice none 0 0, .int .i64 0])
        have hlb : w.heap.size + 1 ≤ wn.heap.size := by have := HBS0.out.b.x.lt; omega
        obtain ⟨gf, hgf⟩ : ∃ k, wn.heap.size = k := ⟨_, rfl⟩
        obtain ⟨wm, hwm⟩ : ∃ W, wn.alloc (.cells #[.slice none 0 0, .slice none 0 0, .slice none 0 0, .slice none 0 0, .slice none 0 0, .int .i64 0] 28) = W := ⟨_, rfl⟩
        rw [hwm] at HBS HA HB HO HF
        rw [hgf] at HF hlb hlo
        have HLgf := Lib.hid hlb
        have HNE : Hid (go ≠ gf) := Lib.hid (by omega)
        clear hlo
        clear hlb
        go_simp
        clear hgf hwm hb HBS0
        obtain ⟨wn, hwn⟩ : ∃ W, W = wm := ⟨_, rfl⟩
        subst hwn
        refine hK.out _ _ HBS.out (fun hHeld => ?_)
        clear hK K
        (try dsimp only [Act.put]); try simp only [pt1, pt2, pt3]
        refine rdy 6 (fun K hK => ?_)
        have s0 := HO.out.cell 0
        have s1 := HO.out.cell 1
        have s2 := HO.out.cell 2
        have s3 := HO.out.cell 3
        have s4 := HO.out.cell 4
        have s5 := HO.out.cell 5
        have sf0 := HO.out.frozen 0
        have sf1 := HO.out.frozen 1
        have sf2 := HO.out.frozen 2
        have sf3 := HO.out.frozen 3
        have sf4 := HO.out.frozen 4
        have sf5 := HO.out.frozen 5
        have HBS0 := HBS
        go_simp
        obtain ⟨wm, hwm⟩ : ∃ W, (((((wn.setCell ⟨go, 0, none⟩ (.slice B0 m0 d0)).setCell ⟨go, 1, none⟩ (.slice B1 m1 d1)).setCell ⟨go, 2, none⟩ (.slice B2 m2 d2)).setCell ⟨go, 3, none⟩ (.slice B3 m3 d3)).setCell ⟨go, 4, none⟩ (.slice B4 m4 d4)).setCell ⟨go, 5, none⟩ (.int .i64 sb) = W := ⟨_, rfl⟩
        have hp : put6 wn go B0 B1 B2 B3 B4 m0 m1 m2 m3 m4 d0 d1 d2 d3 d4 sb = wm := hwm
        have hbl : Below (w.heap.size + 1) wn (put6 wn go B0 B1 B2 B3 B4 m0 m1 m2 m3 m4 d0 d1 d2 d3 d4 sb) := put6_below (Below.refl _ _) HLgo.out B0 B1 B2 B3 B4 m0 m1 m2 m3 m4 d0 d1 d2 d3 d4 sb
        have h1 := HO.out.put6 B0 B1 B2 B3 B4 m0 m1 m2 m3 m4 d0 d1 d2 d3 d4 sb
        have h2 := HA.out.put6_17 HO.out B0 B1 B2 B3 B4 m0 m1 m2 m3 m4 d0 d1 d2 d3 d4 sb
        have h3 := HB.out.put6_17 HO.out B0 B1 B2 B3 B4 m0 m1 m2 m3 m4 d0 d1 d2 d3 d4 sb
        have h4 := Blk.put6_far HF.out (g := go) (fun e => HNE.out e.symm) B0 B1 B2 B3 B4 m0 m1 m2 m3 m4 d0 d1 d2 d3 d4 sb
        rw [hp] at hbl h1 h2 h3 h4
        rw [hwm]
        have HBS := Lib.hid (HBS0.out.low hbl)
        have HO := Lib.hid h1
        have HA := Lib.hid h2
        have HB := Lib.hid h3
        have HF := Lib.hid h4
        clear hwm hp hbl h1 h2 h3 h4 HBS0 s0 sf0 s1 sf1 s2 sf2 s3 sf3 s4 sf4 s5 sf5
        obtain ⟨wn, hwn⟩ : ∃ W, W = wm := ⟨_, rfl⟩
        subst hwn
        refine hK.out _ _ HBS.out (fun hHeld => ?_)
        clear hK K
        (try dsimp only [Act.put]); try simp only [pt1, pt2, pt3]
        refine rdy 7 (fun K hK => ?_)
        have s0 := HF.out.cell 0
        have s1 := HF.out.cell 1
        have s2 := HF.out.cell 2
        have s3 := HF.out.cell 3
        have s4 := HF.out.cell 4
        have s5 := HF.out.cell 5
        have sf0 := HF.out.frozen 0
        have sf1 := HF.out.frozen 1
        have sf2 := HF.out.frozen 2
        have sf3 := HF.out.frozen 3
        have sf4 := HF.out.frozen 4
        have sf5 := HF.out.frozen 5
        have HBS0 := HBS
        go_simp
        obtain ⟨wm, hwm⟩ : ∃ W, (((((wn.setCell ⟨gf, 0, none⟩ (.slice E0 o0 p0)).setCell ⟨gf, 1, none⟩ (.slice E1 o1 p1)).setCell ⟨gf, 2, none⟩ (.slice E2 o2 p2)).setCell ⟨gf, 3, none⟩ (.slice E3 o3 p3)).setCell ⟨gf, 4, none⟩ (.slice E4 o4 p4)).setCell ⟨gf, 5, none⟩ (.int .i64 se) = W := ⟨_, rfl⟩
        have hp : put6 wn gf E0 E1 E2 E3 E4 o0 o1 o2 o3 o4 p0 p1 p2 p3 p4 se = wm := hwm
        have hbl : Below (w.heap.size + 1) wn (put6 wn gf E0 E1 E2 E3 E4 o0 o1 o2 o3 o4 p0 p1 p2 p3 p4 se) := put6_below (Below.refl _ _) HLgf.out E0 E1 E2 E3 E4 o0 o1 o2 o3 o4 p0 p1 p2 p3 p4 se
        have h1 := HF.out.put6 E0 E1 E2 E3 E4 o0 o1 o2 o3 o4 p0 p1 p2 p3 p4 se
        have h2 := HA.out.put6_17 HF.out E0 E1 E2 E3 E4 o0 o1 o2 o3 o4 p0 p1 p2 p3 p4 se
        have h3 := HB.out.put6_17 HF.out E0 E1 E2 E3 E4 o0 o1 o2 o3 o4 p0 p1 p2 p3 p4 se
        have h4 := Blk.put6_far HO.out (g := gf) (HNE.out) E0 E1 E2 E3 E4 o0 o1 o2 o3 o4 p0 p1 p2 p3 p4 se
        rw [hp] at hbl h1 h2 h3 h4
        rw [hwm]
        have HBS := Lib.hid (HBS0.out.low hbl)
        have HF := Lib.hid h1
        have HA := Lib.hid h2
        have HB := Lib.hid h3
        have HO := Lib.hid h4
        clear hwm hp hbl h1 h2 h3 h4 HBS0 s0 sf0 s1 sf1 s2 sf2 s3 sf3 s4 sf4 s5 sf5
        obtain ⟨wn, hwn⟩ : ∃ W, W = wm := ⟨_, rfl⟩
        subst hwn
        refine hK.out _ _ HBS.out (fun hHeld => ?_)
        clear hK K
        (try dsimp only [Act.put]); try simp only [pt1, pt2, pt3]
        refine wpAnyH_done (by kernel_rfl) ?_ _
        clear hHeld
        exact hQ _ _ _ _ _ go gf L1 L2 B0 B1 B2 B3 B4 E0 E1 E2 E3 E4 m0 m1 m2 m3 m4 d0 d1 d2 d3 d4 o0 o1 o2 o3 o4 p0 p1 p2 p3 p4 sb se ⟨HBS.out, HO.out, HF.out, HA.out, HB.out, HL1.out, HL2.out, fun b h1 h2 => by have h3 := HSP.out b h1; have h4 := (HB.out.o1.lt b h2).1; omega⟩
      · skip
        have HBS0 := HBS
        have hb := b1' wn (.cells #[.slice none 0 0, .slice none 0 0, .slice none 0 0, .slice none 0 0, .slice none 0 0, .int .i64 0] 28)
        have HBS := Lib.hid (HBS0.out.step hb)
        have HA := Lib.hid (HA.out.step hb)
        have HB := Lib.hid (HB.out.step hb)
        have HF := Lib.hid (Blk.new wn 28 #[.slice none 0 0, .slice none 0 0, .slice none 0 0, .slice none 0 0, .slice none 0 0, .int .i64 0])
        have hlb : w.heap.size + 1 ≤ wn.heap.size := by have := HBS0.out.b.x.lt; omega
        obtain ⟨gf, hgf⟩ : ∃ k, wn.heap.size = k := ⟨_, rfl⟩
        obtain ⟨wm, hwm⟩ : ∃ W, wn.alloc (.cells #[.slice none 0 0, .slice none 0 0, .slice none 0 0, .slice none 0 0, .slice none 0 0, .int .i64 0] 28) = W := ⟨_, rfl⟩
        rw [hwm] at HBS HA HB HF
        rw [hgf] at HF hlb
        have HLgf := Lib.hid hlb
        clear hlb
        go_simp
        clear hgf hwm hb HBS0
        obtain ⟨wn, hwn⟩ : ∃ W, W = wm := ⟨_, rfl⟩
        subst hwn
        refine hK.out _ _ HBS.out (fun hHeld => ?_)
        clear hK K
        (try dsimp only [Act.put]); try simp only [pt1, pt2, pt3]
        refine rdy 4 (fun K hK => ?_)
        have HBS0 := HBS
        have hb := b1' wn (.cells #[.slice none 0 0, .slice none 0 0, .slice none 0 0, .slice none 0 0, .slice none 0 0, .int .i64 0] 28)
        have HBS := Lib.hid (HBS0.out.step hb)
        have hlo := HF.out.lt
        have HA := Lib.hid (HA.out.step hb)
        have HB := Lib.hid (HB.out.step hb)
        have HF := Lib.hid (HF.out.below hb HF.out.lt)
        have HO := Lib.hid (Blk.new wn 28 #[.slice none 0 0, .slice none 0 0, .slice none 0 0, .slice none 0 0, .slice none 0 0, .int .i64 0])
        have hlb : w.heap.size + 1 ≤ wn.heap.size := by have := HBS0.out.b.x.lt; omega
        obtain ⟨go, hgo⟩ : ∃ k, wn.heap.size = k := ⟨_, rfl⟩
        obtain ⟨wm, hwm⟩ : ∃ W, wn.alloc (.cells #[.slice none 0 0, .slice none 0 0, .slice none 0 0, .slice none 0 0, .slice none 0 0, .int .i64 0] 28) = W := ⟨_, rfl⟩
        rw [hwm] at HBS HA HB HF HO
        rw [hgo] at HO hlb hlo
        have HLgo := Lib.hid hlb
        have HNE : Hid (go ≠ gf) := Lib.hid (by omega)
        clear hlo
        clear hlb
        go_simp
        clear hgo hwm hb HBS0
        obtain ⟨wn, hwn⟩ : ∃ W, W = wm := ⟨_, rfl⟩
        subst hwn
        refine hK.out _ _ HBS.out (fun hHeld => ?_)
        clear hK K
        (try dsimp only [Act.put]); try simp only [pt1, pt2, pt3]
        refine rdy 6 (fun K hK => ?_)
        have s0 := HO.out.cell 0
        have s1 := HO.out.cell 1
        have s2 := HO.out.cell 2
        have s3 := HO.out.cell 3
        have s4 := HO.out.cell 4
        have s5 := HO.out.cell 5
        have sf0 := HO.out.frozen 0
        have sf1 := HO.out.frozen 1
        have sf2 := HO.out.frozen 2
        have sf3 := HO.out.frozen 3
        have sf4 := HO.out.frozen 4
        have sf5 := HO.out.frozen 5
        have HBS0 := HBS
        go_simp
        obtain ⟨wm, hwm⟩ : ∃ W, (((((wn.setCell ⟨go, 0, none⟩ (.slice B0 m0 d0)).setCell ⟨go, 1, none⟩ (.slice B1 m1 d1)).setCell ⟨go, 2, none⟩ (.slice B2 m2 d2)).setCell ⟨go, 3, none⟩ (.slice B3 m3 d3)).setCell ⟨go, 4, none⟩ (.slice B4 m4 d4)).setCell ⟨go, 5, none⟩ (.int .i64 sb) = W := ⟨_, rfl⟩
        have hp : put6 wn go B0 B1 B2 B3 B4 m0 m1 m2 m3 m4 d0 d1 d2 d3 d4 sb = wm := hwm
        have hbl : Below (w.heap.size + 1) wn (put6 wn go B0 B1 B2 B3 B4 m0 m1 m2 m3 m4 d0 d1 d2 d3 d4 sb) := put6_below (Below.refl _ _) HLgo.out B0 B1 B2 B3 B4 m0 m1 m2 m3 m4 d0 d1 d2 d3 d4 sb
        have h1 := HO.out.put6 B0 B1 B2 B3 B4 m0 m1 m2 m3 m4 d0 d1 d2 d3 d4 sb
        have h2 := HA.out.put6_17 HO.out B0 B1 B2 B3 B4 m0 m1 m2 m3 m4 d0 d1 d2 d3 d4 sb
        have h3 := HB.out.put6_17 HO.out B0 B1 B2 B3 B4 m0 m1 m2 m3 m4 d0 d1 d2 d3 d4 sb
        have h4 := Blk.put6_far HF.out (g := go) (fun e => HNE.out e.symm) B0 B1 B2 B3 B4 m0 m1 m2 m3 m4 d0 d1 d2 d3 d4 sb
        rw [hp] at hbl h1 h2 h3 h4
        rw [hwm]
        have HBS := Lib.hid (HBS0.out.low hbl)
        have HO := Lib.hid h1
        have HA := Lib.hid h2
        have HB := Lib.hid h3
        have HF := Lib.hid h4
        clear hwm hp hbl h1 h2 h3 h4 HBS0 s0 sf0 s1 sf1 s2 sf2 s3 sf3 s4 sf4 s5 sf5
        obtain ⟨wn, hwn⟩ : ∃ W, W = wm := ⟨_, rfl⟩
        subst hwn
        refine hK.out _ _ HBS.out (fun hHeld => ?_)
        clear hK K
        (try dsimp only [Act.put]); try simp only [pt1, pt2, pt3]
        refine rdy 7 (fun K hK => ?_)
        have s0 := HF.out.cell 0
        have s1 := HF.out.cell 1
        have s2 := HF.out.cell 2
        have s3 := HF.out.cell 3
        have s4 := HF.out.cell 4
        have s5 := HF.out.cell 5
        have sf0 := HF.out.frozen 0
        have sf1 := HF.out.frozen 1
        have sf2 := HF.out.frozen 2
        have sf3 := HF.out.frozen 3
        have sf4 := HF.out.frozen 4
        have sf5 := HF.out.frozen 5
        have HBS0 := HBS
        go_simp
        obtain ⟨wm, hwm⟩ : ∃ W, (((((wn.setCell ⟨gf, 0, none⟩ (.slice E0 o0 p0)).setCell ⟨gf, 1, none⟩ (.slice E1 o1 p1)).setCell ⟨gf, 2, none⟩ (.slice E2 o2 p2)).setCell ⟨gf, 3, none⟩ (.slice E3 o3 p3)).setCell ⟨gf, 4, none⟩ (.slice E4 o4 p4)).setCell ⟨gf, 5, none⟩ (.int .i64 se) = W := ⟨_, rfl⟩
        have hp : put6 wn gf E0 E1 E2 E3 E4 o0 o1 o2 o3 o4 p0 p1 p2 p3 p4 se = wm := hwm
        have hbl : Below (w.heap.size + 1) wn (put6 wn gf E0 E1 E2 E3 E4 o0 o1 o2 o3 o4 p0 p1 p2 p3 p4 se) := put6_below (Below.refl _ _) HLgf.out E0 E1 E2 E3 E4 o0 o1 o2 o3 o4 p0 p1 p2 p3 p4 se
        have h1 := HF.out.put6 E0 E1 E2 E3 E4 o0 o1 o2 o3 o4 p0 p1 p2 p3 p4 se
        have h2 := HA.out.put6_17 HF.out E0 E1 E2 E3 E4 o0 o1 o2 o3 o4 p0 p1 p2 p3 p4 se
        have h3 := HB.out.put6_17 HF.out E0 E1 E2 E3 E4 o0 o1 o2 o3 o4 p0 p1 p2 p3 p4 se
        have h4 := Blk.put6_far HO.out (g := gf) (HNE.out) E0 E1 E2 E3 E4 o0 o1 o2 o3 o4 p0 p1 p2 p3 p4 se
        rw [hp] at hbl h1 h2 h3 h4
        rw [hwm]
        have HBS := Lib.hid (HBS0.out.low hbl)
        have HF := Lib.hid h1
        have HA := Lib.hid h2
        have HB := Lib.hid h3
        have HO := Lib.hid h4
        clear hwm hp hbl h1 h2 h3 h4 HBS0 s0 sf0 s1 sf1 s2 sf2 s3 sf3 s4 sf4 s5 sf5
        obtain ⟨wn, hwn⟩ : ∃ W, W = wm := ⟨_, rfl⟩
        subst hwn
        refine hK.out _ _ HBS.out (fun hHeld => ?_)
        clear hK K
        (try dsimp only [Act.put]); try simp only [pt1, pt2, pt3]
        refine wpAnyH_done (by kernel_rfl) ?_ _
        clear hHeld
        exact hQ _ _ _ _ _ go gf L1 L2 B0 B1 B2 B3 B4 E0 E1 E2 E3 E4 m0 m1 m2 m3 m4 d0 d1 d2 d3 d4 o0 o1 o2 o3 o4 p0 p1 p2 p3 p4 sb se ⟨HBS.out, HO.out, HF.out, HA.out, HB.out, HL1.out, HL2.out, fun b h1 h2 => by have h3 := HSP.out b h1; have h4 := (HB.out.o1.lt b h2).1; omega⟩
    · skip
      have HBS0 := HBS
      have hb := b1' wn (.cells #[.slice none 0 0, .slice none 0 0, .slice none 0 0, .slice none 0 0, .slice none 0 0, .int .i64 0] 28)
      have HBS := Lib.hid (HBS0.out.step hb)
      have HA := Lib.hid (HA.out.step hb)
      have HO := Lib.hid (Blk.new wn 28 #[.slice none 0 0, .slice none 0 0, .slice none 0 0, .slice none 0 0, .slice none 0 0, .int .i64 0])
      have hlb : w.heap.size + 1 ≤ wn.heap.size := by have := HBS0.out.b.x.lt; omega
      obtain ⟨go, hgo⟩ : ∃ k, wn.heap.size = k := ⟨_, rfl⟩
      obtain ⟨wm, hwm⟩ : ∃ W, wn.alloc (.cells #[.slice none 0 0, .slice none 0 0, .slice none 0 0, .slice none 0 0, .slice none 0 0, .int .i64 0] 28) = W := ⟨_, rfl⟩
      rw [hwm] at HBS HA HO
      rw [hgo] at HO hlb
      have HLgo := Lib.hid hlb
      clear hlb
      go_simp
      clear hgo hwm hb HBS0
      obtain ⟨wn, hwn⟩ : ∃ W, W = wm := ⟨_, rfl⟩
      subst hwn
      refine hK.out _ _ HBS.out (fun hHeld => ?_)
      clear hK K
      (try dsimp only [Act.put]); try simp only [pt1, pt2, pt3]
      refine wpAnyH_ready (rs := [3, 5]) (by kernel_rfl) (by simp) (AllReadyH.cons (op_of rfl) (fun K hK => ?_) (AllReadyH.cons (op_of rfl) (fun K hK => ?_) AllReadyH.nil))
      · skip
        have HBS0 := HBS
        obtain ⟨L2, hL2⟩ : ∃ k, wn.heap.size = k := ⟨_, rfl⟩
        have HL2 : Hid (w.heap.size + 1 ≤ L2) := Lib.hid (by have := HBS0.out.b.x.lt; omega)
        have HSP : Hid (∀ b, (Value.slice B1 m1 d1).ownBlock = some b → b < L2) := Lib.hid (fun b hb => by rw [← hL2]; exact (HA.out.o1.lt b hb).2)
        obtain ⟨wo, hwo⟩ : ∃ W, W = wn := ⟨_, rfl⟩
        go_simp
        refine (HCP.out _ HBS0.out.b).mono ?_
        rintro e wn ⟨E0, E1, E2, E3, E4, o0, o1, o2, o3, o4, p0, p1, p2, p3, p4, se, rfl, hoa, hb⟩
        have HBS := Lib.hid (HBS0.out.step hb)
        have HA := Lib.hid (HA.out.step hb)
        have HO := Lib.hid (HO.out.below hb HO.out.lt)
        rw [hL2] at hoa
        have HB := Lib.hid hoa
        clear hoa hb HBS0 hL2 hwo
        refine hK.out _ _ HBS.out (fun hHeld => ?_)
        clear hK K
        (try dsimp only [Act.put]); try simp only [pt1, pt2, pt3]
        refine rdy 5 (fun K hK => ?_)
        have HBS0 := HBS
        have hb := b1' wn (.cells #[.slice none 0 0, .slice none 0 0, .slice none 0 0, .slice none 0 0, .slice none 0 0, .int .i64 0] 28)
        have HBS := Lib.hid (HBS0.out.step hb)
        have hlo := HO.out.lt
        have HA := Lib.hid (HA.out.step hb)
        have HB := Lib.hid (HB.out.step hb)
        have HO := Lib.hid (HO.out.below hb HO.out.lt)
        have HF := Lib.hid (Blk.new wn 28 #[.slice none 0 0, .slice none 0 0, .slice none 0 0, .slice none 0 0, .slice none 0 0, .int .i64 0])
        have hlb : w.heap.size + 1 ≤ wn.heap.size := by have := HBS0.out.b.x.lt; omega
        obtain ⟨gf, hgf⟩ : ∃ k, wn.heap.size = k := ⟨_, rfl⟩
        obtain ⟨wm, hwm⟩ : ∃ W, wn.alloc (.cells #[.slice none 0 0, .slice none 0 0, .slice none 0 0, .slice none 0 0, .slice none 0 0, .int .i64 0] 28) = W := ⟨_, rfl⟩
        rw [hwm] at HBS HA HB HO HF
        rw [hgf] at HF hlb hlo
        have HLgf := Lib.hid hlb
        have HNE : Hid (go ≠ gf) := Lib.hid (by omega)
        clear hlo
        clear hlb
        go_simp
        clear hgf hwm hb HBS0
        obtain ⟨wn, hwn⟩ : ∃ W, W = wm := ⟨_, rfl⟩
        subst hwn
        refine hK.out _ _ HBS.out (fun hHeld => ?_)
        clear hK K
        (try dsimp only [Act.put]); try simp only [pt1, pt2, pt3]
        refine rdy 6 (fun K hK => ?_)
        have s0 := HO.out.cell 0
        have s1 := HO.out.cell 1
        have s2 := HO.out.cell 2
        have s3 := HO.out.cell 3
        have s4 := HO.out.cell 4
        have s5 := HO.out.cell 5
        have sf0 := HO.out.frozen 0
        have sf1 := HO.out.frozen 1
        have sf2 := HO.out.frozen 2
        have sf3 := HO.out.frozen 3
        have sf4 := HO.out.frozen 4
        have sf5 := HO.out.frozen 5
        have HBS0 := HBS
        go_simp
        obtain ⟨wm, hwm⟩ : ∃ W, (((((wn.setCell ⟨go, 0, none⟩ (.slice B0 m0 d0)).setCell ⟨go, 1, none⟩ (.slice B1 m1 d1)).setCell ⟨go, 2, none⟩ (.slice B2 m2 d2)).setCell ⟨go, 3, none⟩ (.slice B3 m3 d3)).setCell ⟨go, 4, none⟩ (.slice B4 m4 d4)).setCell ⟨go, 5, none⟩ (.int .i64 sb) = W := ⟨_, rfl⟩
        have hp : put6 wn go B0 B1 B2 B3 B4 m0 m1 m2 m3 m4 d0 d1 d2 d3 d4 sb = wm := hwm
        have hbl : Below (w.heap.size + 1) wn (put6 wn go B0 B1 B2 B3 B4 m0 m1 m2 m3 m4 d0 d1 d2 d3 d4 sb) := put6_below (Below.refl _ _) HLgo.out B0 B1 B2 B3 B4 m0 m1 m2 m3 m4 d0 d1 d2 d3 d4 sb
        have h1 := HO.out.put6 B0 B1 B2 B3 B4 m0 m1 m2 m3 m4 d0 d1 d2 d3 d4 sb
        have h2 := HA.out.put6_17 HO.out B0 B1 B2 B3 B4 m0 m1 m2 m3 m4 d0 d1 d2 d3 d4 sb
        have h3 := HB.out.put6_17 HO.out B0 B1 B2 B3 B4 m0 m1 m2 m3 m4 d0 d1 d2 d3 d4 sb
        have h4 := Blk.put6_far HF.out (g := go) (fun e => HNE.out e.symm) B0 B1 B2 B3 B4 m0 m1 m2 m3 m4 d0 d1 d2 d3 d4 sb
        rw [hp] at hbl h1 h2 h3 h4
        rw [hwm]
        have HBS := Lib.hid (HBS0.out.low hbl)
        have HO := Lib.hid h1
        have HA := Lib.hid h2
        have HB := Lib.hid h3
        have HF := Lib.hid h4
        clear hwm hp hbl h1 h2 h3 h4 HBS0 s0 sf0 s1 sf1 s2 sf2 s3 sf3 s4 sf4 s5 sf5
        obtain ⟨wn, hwn⟩ : ∃ W, W = wm := ⟨_, rfl⟩
        subst hwn
        refine hK.out _ _ HBS.out (fun hHeld => ?_)
        clear hK K
        (try dsimp only [Act.put]); try simp only [pt1, pt2, pt3]
        refine rdy 7 (fun K hK => ?_)
        have s0 := HF.out.cell 0
        have s1 := HF.out.cell 1
        have s2 := HF.out.cell 2
        have s3 := HF.out.cell 3
        have s4 := HF.out.cell 4
        have s5 := HF.out.cell 5
        have sf0 := HF.out.frozen 0
        have sf1 := HF.out.frozen 1
        have sf2 := HF.out.frozen 2
        have sf3 := HF.out.frozen 3
        have sf4 := HF.out.frozen 4
        have sf5 := HF.out.frozen 5
        have HBS0 := HBS
        go_simp
        obtain ⟨wm, hwm⟩ : ∃ W, (((((wn.setCell ⟨gf, 0, none⟩ (.slice E0 o0 p0)).setCell ⟨gf, 1, none⟩ (.slice E1 o1 p1)).setCell ⟨gf, 2, none⟩ (.slice E2 o2 p2)).setCell ⟨gf, 3, none⟩ (.slice E3 o3 p3)).setCell ⟨gf, 4, none⟩ (.slice E4 o4 p4)).setCell ⟨gf, 5, none⟩ (.int .i64 se) = W := ⟨_, rfl⟩
        have hp : put6 wn gf E0 E1 E2 E3 E4 o0 o1 o2 o3 o4 p0 p1 p2 p3 p4 se = wm := hwm
        have hbl : Below (w.heap.size + 1) wn (put6 wn gf E0 E1 E2 E3 E4 o0 o1 o2 o3 o4 p0 p1 p2 p3 p4 se) := put6_below (Below.refl _ _) HLgf.out E0 E1 E2 E3 E4 o0 o1 o2 o3 o4 p0 p1 p2 p3 p4 se
        have h1 := HF.out.put6 E0 E1 E2 E3 E4 o0 o1 o2 o3 o4 p0 p1 p2 p3 p4 se
        have h2 := HA.out.put6_17 HF.out E0 E1 E2 E3 E4 o0 o1 o2 o3 o4 p0 p1 p2 p3 p4 se
        have h3 := HB.out.put6_17 HF.out E0 E1 E2 E3 E4 o0 o1 o2 o3 o4 p0 p1 p2 p3 p4 se
        have h4 := Blk.put6_far HO.out (g := gf) (HNE.out) E0 E1 E2 E3 E4 o0 o1 o2 o3 o4 p0 p1 p2 p3 p4 se
        rw [hp] at hbl h1 h2 h3 h4
        rw [hwm]
        have HBS := Lib.hid (HBS0.out.low hbl)
        have HF := Lib.hid h1
        have HA := Lib.hid h2
        have HB := Lib.hid h3
        have HO := Lib.hid h4
        clear hwm hp hbl h1 h2 h3 h4 HBS0 s0 sf0 s1 sf1 s2 sf2 s3 sf3 s4 sf4 s5 sf5
        obtain ⟨wn, hwn⟩ : ∃ W, W = wm := ⟨_, rfl⟩
        subst hwn
        refine hK.out _ _ HBS.out (fun hHeld => ?_)
        clear hK K
        (try dsimp only [Act.put]); try simp only [pt1, pt2, pt3]
        refine wpAnyH_done (by kernel_rfl) ?_ _
        clear hHeld
        exact hQ _ _ _ _ _ go gf L1 L2 B0 B1 B2 B3 B4 E0 E1 E2 E3 E4 m0 m1 m2 m3 m4 d0 d1 d2 d3 d4 o0 o1 o2 o3 o4 p0 p1 p2 p3 p4 sb se ⟨HBS.out, HO.out, HF.out, HA.out, HB.out, HL1.out, HL2.out, fun b h1 h2 => by have h3 := HSP.out b h1; have h4 := (HB.out.o1.lt b h2).1; omega⟩
      · skip
        have HBS0 := HBS
        have hb := b1' wn (.cells #[.slice none 0 0, .slice none 0 0, .slice none 0 0, .slice none 0 0, .slice none 0 0, .int .i64 0] 28)
        have HBS := Lib.hid (HBS0.out.step hb)
        have hlo := HO.out.lt
        have HA := Lib.hid (HA.out.step hb)
        have HO := Lib.hid (HO.out.below hb HO.out.lt)
        have HF := Lib.hid (Blk.new wn 28 #[.slice none 0 0, .slice none 0 0, .slice none 0 0, .slice none 0 0, .slice none 0 0, .int .i64 0])
        have hlb : w.heap.size + 1 ≤ wn.heap.size := by have := HBS0.out.b.x.lt; omega
        obtain ⟨gf, hgf⟩ : ∃ k, wn.heap.size = k := ⟨_, rfl⟩
        obtain ⟨wm, hwm⟩ : ∃ W, wn.alloc (.cells #[.slice none 0 0, .slice none 0 0, .slice none 0 0, .slice none 0 0, .slice none 0 0, .int .i64 0] 28) = W := ⟨_, rfl⟩
        rw [hwm] at HBS HA HO HF
        rw [hgf] at HF hlb hlo
        have HLgf := Lib.hid hlb
        have HNE : Hid (go ≠ gf) := Lib.hid (by omega)
        clear hlo
        clear hlb
        go_simp
        clear hgf hwm hb HBS0
        obtain ⟨wn, hwn⟩ : ∃ W, W = wm := ⟨_, rfl⟩
        subst hwn
        refine hK.out _ _ HBS.out (fun hHeld => ?_)
        clear hK K
        (try dsimp only [Act.put]); try simp only [pt1, pt2, pt3]
        refine rdy 3 (fun K hK => ?_)
        have HBS0 := HBS
        obtain ⟨L2, hL2⟩ : ∃ k, wn.heap.size = k := ⟨_, rfl⟩
        have HL2 : Hid (w.heap.size + 1 ≤ L2) := Lib.hid (by have := HBS0.out.b.x.lt; omega)
        have HSP : Hid (∀ b, (Value.slice B1 m1 d1).ownBlock = some b → b < L2) := Lib.hid (fun b hb => by rw [← hL2]; exact (HA.out.o1.lt b hb).2)
        obtain ⟨wo, hwo⟩ : ∃ W, W = wn := ⟨_, rfl⟩
        go_simp
        refine (HCP.out _ HBS0.out.b).mono ?_
        rintro e wn ⟨E0, E1, E2, E3, E4, o0, o1, o2, o3, o4, p0, p1, p2, p3, p4, se, rfl, hoa, hb⟩
        have HBS := Lib.hid (HBS0.out.step hb)
        have HA := Lib.hid (HA.out.step hb)
        have HO := Lib.hid (HO.out.below hb HO.out.lt)
        have HF := Lib.hid (HF.out.below hb HF.out.lt)
        rw [hL2] at hoa
        have HB := Lib.hid hoa
        clear hoa hb HBS0 hL2 hwo
        refine hK.out _ _ HBS.out (fun hHeld => ?_)
        clear hK K
        (try dsimp only [Act.put]); try simp only [pt1, pt2, pt3]
        refine rdy 6 (fun K hK => ?_)
        have s0 := HO.out.cell 0
        have s1 := HO.out.cell 1
        have s2 := HO.out.cell 2
        have s3 := HO.out.cell 3
        have s4 := HO.out.cell 4
        have s5 := HO.out.cell 5
        have sf0 := HO.out.frozen 0
        have sf1 := HO.out.frozen 1
        have sf2 := HO.out.frozen 2
        have sf3 := HO.out.frozen 3
        have sf4 := HO.out.frozen 4
        have sf5 := HO.out.frozen 5
        have HBS0 := HBS
        go_simp
        obtain ⟨wm, hwm⟩ : ∃ W, (((((wn.setCell ⟨go, 0, none⟩ (.slice B0 m0 d0)).setCell ⟨go, 1, none⟩ (.slice B1 m1 d1)).setCell ⟨go, 2, none⟩ (.slice B2 m2 d2)).setCell ⟨go, 3, none⟩ (.slice B3 m3 d3)).setCell ⟨go, 4, none⟩ (.slice B4 m4 d4)).setCell ⟨go, 5, none⟩ (.int .i64 sb) = W := ⟨_, rfl⟩
        have hp : put6 wn go B0 B1 B2 B3 B4 m0 m1 m2 m3 m4 d0 d1 d2 d3 d4 sb = wm := hwm
        have hbl : Below (w.heap.size + 1) wn (put6 wn go B0 B1 B2 B3 B4 m0 m1 m2 m3 m4 d0 d1 d2 d3 d4 sb) := put6_below (Below.refl _ _) HLgo.out B0 B1 B2 B3 B4 m0 m1 m2 m3 m4 d0 d1 d2 d3 d4 sb
        have h1 := HO.out.put6 B0 B1 B2 B3 B4 m0 m1 m2 m3 m4 d0 d1 d2 d3 d4 sb
        have h2 := HA.out.put6_17 HO.out B0 B1 B2 B3 B4 m0 m1 m2 m3 m4 d0 d1 d2 d3 d4 sb
        have h3 := HB.out.put6_17 HO.out B0 B1 B2 B3 B4 m0 m1 m2 m3 m4 d0 d1 d2 d3 d4 sb
        have h4 := Blk.put6_far HF.out (g := go) (fun e => HNE.out e.symm) B0 B1 B2 B3 B4 m0 m1 m2 m3 m4 d0 d1 d2 d3 d4 sb
        rw [hp] at hbl h1 h2 h3 h4
        rw [hwm]
        have HBS := Lib.hid (HBS0.out.low hbl)
        have HO := Lib.hid h1
        have HA := Lib.hid h2
        have HB := Lib.hid h3
        have HF := Lib.hid h4
        clear hwm hp hbl h1 h2 h3 h4 HBS0 s0 sf0 s1 sf1 s2 sf2 s3 sf3 s4 sf4 s5 sf5
        obtain ⟨wn, hwn⟩ : ∃ W, W = wm := ⟨_, rfl⟩
        subst hwn
        refine hK.out _ _ HBS.out (fun hHeld => ?_)
        clear hK K
        (try dsimp only [Act.put]); try simp only [pt1, pt2, pt3]
        refine rdy 7 (fun K hK => ?_)
        have s0 := HF.out.cell 0
        have s1 := HF.out.cell 1
        have s2 := HF.out.cell 2
        have s3 := HF.out.cell 3
        have s4 := HF.out.cell 4
        have s5 := HF.out.cell 5
        have sf0 := HF.out.frozen 0
        have sf1 := HF.out.frozen 1
        have sf2 := HF.out.frozen 2
        have sf3 := HF.out.frozen 3
        have sf4 := HF.out.frozen 4
        have sf5 := HF.out.frozen 5
        have HBS0 := HBS
        go_simp
        obtain ⟨wm, hwm⟩ : ∃ W, (((((wn.setCell ⟨gf, 0, none⟩ (.slice E0 o0 p0)).setCell ⟨gf, 1, none⟩ (.slice E1 o1 p1)).setCell ⟨gf, 2, none⟩ (.slice E2 o2 p2)).setCell ⟨gf, 3, none⟩ (.slice E3 o3 p3)).setCell ⟨gf, 4, none⟩ (.slice E4 o4 p4)).setCell ⟨gf, 5, none⟩ (.int .i64 se) = W := ⟨_, rfl⟩
        have hp : put6 wn gf E0 E1 E2 E3 E4 o0 o1 o2 o3 o4 p0 p1 p2 p3 p4 se = wm := hwm
        have hbl : Below (w.heap.size + 1) wn (put6 wn gf E0 E1 E2 E3 E4 o0 o1 o2 o3 o4 p0 p1 p2 p3 p4 se) := put6_below (Below.refl _ _) HLgf.out E0 E1 E2 E3 E4 o0 o1 o2 o3 o4 p0 p1 p2 p3 p4 se
        have h1 := HF.out.put6 E0 E1 E2 E3 E4 o0 o1 o2 o3 o4 p0 p1 p2 p3 p4 se
        have h2 := HA.out.put6_17 HF.out E0 E1 E2 E3 E4 o0 o1 o2 o3 o4 p0 p1 p2 p3 p4 se
        have h3 := HB.out.put6_17 HF.out E0 E1 E2 E3 E4 o0 o1 o2 o3 o4 p0 p1 p2 p3 p4 se
        have h4 := Blk.put6_far HO.out (g := gf) (HNE.out) E0 E1 E2 E3 E4 o0 o1 o2 o3 o4 p0 p1 p2 p3 p4 se
        rw [hp] at hbl h1 h2 h3 h4
        rw [hwm]
        have HBS := Lib.hid (HBS0.out.low hbl)
        have HF := Lib.hid h1
        have HA := Lib.hid h2
        have HB := Lib.hid h3
        have HO := Lib.hid h4
        clear hwm hp hbl h1 h2 h3 h4 HBS0 s0 sf0 s1 sf1 s2 sf2 s3 sf3 s4 sf4 s5 sf5
        obtain ⟨wn, hwn⟩ : ∃ W, W = wm := ⟨_, rfl⟩
        subst hwn
        refine hK.out _ _ HBS.out (fun hHeld => ?_)
        clear hK K
        (try dsimp only [Act.put]); try simp only [pt1, pt2, pt3]
        refine wpAnyH_done (by kernel_rfl) ?_ _
        clear hHeld
        exact hQ _ _ _ _ _ go gf L1 L2 B0 B1 B2 B3 B4 E0 E1 E2 E3 E4 m0 m1 m2 m3 m4 d0 d1 d2 d3 d4 o0 o1 o2 o3 o4 p0 p1 p2 p3 p4 sb se ⟨HBS.out, HO.out, HF.out, HA.out, HB.out, HL1.out, HL2.out, fun b h1 h2 => by have h3 := HSP.out b h1; have h4 := (HB.out.o1.lt b h2).1; omega⟩
    · skip
      have HBS0 := HBS
      have hb := b1' wn (.cells #[.slice none 0 0, .slice none 0 0, .slice none 0 0, .slice none 0 0, .slice none 0 0, .int .i64 0] 28)
      have HBS := Lib.hid (HBS0.out.step hb)
      have HA := Lib.hid (HA.out.step hb)
      have HF := Lib.hid (Blk.new wn 28 #[.slice none 0 0, .slice none 0 0, .slice none 0 0, .slice none 0 0, .slice none 0 0, .int .i64 0])
      have hlb : w.heap.size + 1 ≤ wn.heap.size := by have := HBS0.out.b.x.lt; omega
      obtain ⟨gf, hgf⟩ : ∃ k, wn.heap.size = k := ⟨_, rfl⟩
      obtain ⟨wm, hwm⟩ : ∃ W, wn.alloc (.cells #[.slice none 0 0, .slice none 0 0, .slice none 0 0, .slice none 0 0, .slice none 0 0, .int .i64 0] 28) = W := ⟨_, rfl⟩
      rw [hwm] at HBS HA HF
      rw [hgf] at HF hlb
      have HLgf := Lib.hid hlb
      clear hlb
      go_simp
      clear hgf hwm hb HBS0
      obtain ⟨wn, hwn⟩ : ∃ W, W = wm := ⟨_, rfl⟩
      subst hwn
      refine hK.out _ _ HBS.out (fun hHeld => ?_)
      clear hK K
      (try dsimp only [Act.put]); try simp only [pt1, pt2, pt3]
      refine wpAnyH_ready (rs := [3, 4]) (by kernel_rfl) (by simp) (AllReadyH.cons (op_of rfl) (fun K hK => ?_) (AllReadyH.cons (op_of rfl) (fun K hK => ?_) AllReadyH.nil))
      · skip
        have HBS0 := HBS
        obtain ⟨L2, hL2⟩ : ∃ k, wn.heap.size = k := ⟨_, rfl⟩
        have HL2 : Hid (w.heap.size + 1 ≤ L2) := Lib.hid (by have := HBS0.out.b.x.lt; omega)
        have HSP : Hid (∀ b, (Value.slice B1 m1 d1).ownBlock = some b → b < L2) := Lib.hid (fun b hb => by rw [← hL2]; exact (HA.out.o1.lt b hb).2)
        obtain ⟨wo, hwo⟩ : ∃ W, W = wn := ⟨_, rfl⟩
        go_simp
        refine (HCP.out _ HBS0.out.b).mono ?_
        rintro e wn ⟨E0, E1, E2, E3, E4, o0, o1, o2, o3, o4, p0, p1, p2, p3, p4, se, rfl, hoa, hb⟩
        have HBS := Lib.hid (HBS0.out.step hb)
        have HA := Lib.hid (HA.out.step hb)
        have HF := Lib.hid (HF.out.below hb HF.out.lt)
        rw [hL2] at hoa
        have HB := Lib.hid hoa
        clear hoa hb HBS0 hL2 hwo
        refine hK.out _ _ HBS.out (fun hHeld => ?_)
        clear hK K
        (try dsimp only [Act.put]); try simp only [pt1, pt2, pt3]
        refine rdy 4 (fun K hK => ?_)
        have HBS0 := HBS
        have hb := b1' wn (.cells #[.slice none 0 0, .slice none 0 0, .slice none 0 0, .slice none 0 0, .slice none 0 0, .int .i64 0] 28)
        have HBS := Lib.hid (HBS0.out.step hb)
        have hlo := HF.out.lt
        have HA := Lib.hid (HA.out.step hb)
        have HB := Lib.hid (HB.out.step hb)
        have HF := Lib.hid (HF.out.below hb HF.out.lt)
        have HO := Lib.hid (Blk.new wn 28 #[.slice none 0 0, .slice none 0 0, .slice none 0 0, .slice none 0 0, .slice none 0 0, .int .i64 0])
        have hlb : w.heap.size + 1 ≤ wn.heap.size := by have := HBS0.out.b.x.lt; omega
        obtain ⟨go, hgo⟩ : ∃ k, wn.heap.size = k := ⟨_, rfl⟩
        obtain ⟨wm, hwm⟩ : ∃ W, wn.alloc (.cells #[.slice none 0 0, .slice none 0 0, .slice none 0 0, .slice none 0 0, .slice none 0 0, .int .i64 0] 28) = W := ⟨_, rfl⟩
        rw [hwm] at HBS HA HB HF HO
        rw [hgo] at HO hlb hlo
        have HLgo := Lib.hid hlb
        have HNE : Hid (go ≠ gf) := Lib.hid (by omega)
        clear hlo
        clear hlb
        go_simp
        clear hgo hwm hb HBS0
        obtain ⟨wn, hwn⟩ : ∃ W, W = wm := ⟨_, rfl⟩
        subst hwn
        refine hK.out _ _ HBS.out (fun hHeld => ?_)
        clear hK K
        (try dsimp only [Act.put]); try simp only [pt1, pt2, pt3]
        refine rdy 6 (fun K hK => ?_)
        have s0 := HO.out.cell 0
        have s1 := HO.out.cell 1
        have s2 := HO.out.cell 2
        have s3 := HO.out.cell 3
        have s4 := HO.out.cell 4
        have s5 := HO.out.cell 5
        have sf0 := HO.out.frozen 0
        have sf1 := HO.out.frozen 1
        have sf2 := HO.out.frozen 2
        have sf3 := HO.out.frozen 3
        have sf4 := HO.out.frozen 4
        have sf5 := HO.out.frozen 5
        have HBS0 := HBS
        go_simp
        obtain ⟨wm, hwm⟩ : ∃ W, (((((wn.setCell ⟨go, 0, none⟩ (.slice B0 m0 d0)).setCell ⟨go, 1, none⟩ (.slice B1 m1 d1)).setCell ⟨go, 2, none⟩ (.slice B2 m2 d2)).setCell ⟨go, 3, none⟩ (.slice B3 m3 d3)).setCell ⟨go, 4, none⟩ (.slice B4 m4 d4)).setCell ⟨go, 5, none⟩ (.int .i64 sb) = W := ⟨_, rfl⟩
        have hp : put6 wn go B0 B1 B2 B3 B4 m0 m1 m2 m3 m4 d0 d1 d2 d3 d4 sb = wm := hwm
        have hbl : Below (w.heap.size + 1) wn (put6 wn go B0 B1 B2 B3 B4 m0 m1 m2 m3 m4 d0 d1 d2 d3 d4 sb) := put6_below (Below.refl _ _) HLgo.out B0 B1 B2 B3 B4 m0 m1 m2 m3 m4 d0 d1 d2 d3 d4 sb
        have h1 := HO.out.put6 B0 B1 B2 B3 B4 m0 m1 m2 m3 m4 d0 d1 d2 d3 d4 sb
        have h2 := HA.out.put6_17 HO.out B0 B1 B2 B3 B4 m0 m1 m2 m3 m4 d0 d1 d2 d3 d4 sb
        have h3 := HB.out.put6_17 HO.out B0 B1 B2 B3 B4 m0 m1 m2 m3 m4 d0 d1 d2 d3 d4 sb
        have h4 := Blk.put6_far HF.out (g := go) (fun e => HNE.out e.symm) B0 B1 B2 B3 B4 m0 m1 m2 m3 m4 d0 d1 d2 d3 d4 sb
        rw [hp] at hbl h1 h2 h3 h4
        rw [hwm]
        have HBS := Lib.hid (HBS0.out.low hbl)
        have HO := Lib.hid h1
        have HA := Lib.hid h2
        have HB := Lib.hid h3
        have HF := Lib.hid h4
        clear hwm hp hbl h1 h2 h3 h4 HBS0 s0 sf0 s1 sf1 s2 sf2 s3 sf3 s4 sf4 s5 sf5
        obtain ⟨wn, hwn⟩ : ∃ W, W = wm := ⟨_, rfl⟩
        subst hwn
        refine hK.out _ _ HBS.out (fun hHeld => ?_)
        clear hK K
        (try dsimp only [Act.put]); try simp only [pt1, pt2, pt3]
        refine rdy 7 (fun K hK => ?_)
        have s0 := HF.out.cell 0
        have s1 := HF.out.cell 1
        have s2 := HF.out.cell 2
        have s3 := HF.out.cell 3
        have s4 := HF.out.cell 4
        have s5 := HF.out.cell 5
        have sf0 := HF.out.frozen 0
        have sf1 := HF.out.frozen 1
        have sf2 := HF.out.frozen 2
        have sf3 := HF.out.frozen 3
        have sf4 := HF.out.frozen 4
        have sf5 := HF.out.frozen 5
        have HBS0 := HBS
        go_simp
        obtain ⟨wm, hwm⟩ : ∃ W, (((((wn.setCell ⟨gf, 0, none⟩ (.slice E0 o0 p0)).setCell ⟨gf, 1, none⟩ (.slice E1 o1 p1)).setCell ⟨gf, 2, none⟩ (.slice E2 o2 p2)).setCell ⟨gf, 3, none⟩ (.slice E3 o3 p3)).setCell ⟨gf, 4, none⟩ (.slice E4 o4 p4)).setCell ⟨gf, 5, none⟩ (.int .i64 se) = W := ⟨_, rfl⟩
        have hp : put6 wn gf E0 E1 E2 E3 E4 o0 o1 o2 o3 o4 p0 p1 p2 p3 p4 se = wm := hwm
        have hbl : Below (w.heap.size + 1) wn (put6 wn gf E0 E1 E2 E3 E4 o0 o1 o2 o3 o4 p0 p1 p2 p3 p4 se) := put6_below (Below.refl _ _) HLgf.out E0 E1 E2 E3 E4 o0 o1 o2 o3 o4 p0 p1 p2 p3 p4 se
        have h1 := HF.out.put6 E0 E1 E2 E3 E4 o0 o1 o2 o3 o4 p0 p1 p2 p3 p4 se
        have h2 := HA.out.put6_17 HF.out E0 E1 E2 E3 E4 o0 o1 o2 o3 o4 p0 p1 p2 p3 p4 se
        have h3 := HB.out.put6_17 HF.out E0 E1 E2 E3 E4 o0 o1 o2 o3 o4 p0 p1 p2 p3 p4 se
        have h4 := Blk.put6_far HO.out (g := gf) (HNE.out) E0 E1 E2 E3 E4 o0 o1 o2 o3 o4 p0 p1 p2 p3 p4 se
        rw [hp] at hbl h1 h2 h3 h4
        rw [hwm]
        have HBS := Lib.hid (HBS0.out.low hbl)
        have HF := Lib.hid h1
        have HA := Lib.hid h2
        have HB := Lib.hid h3
        have HO := Lib.hid h4
        clear hwm hp hbl h1 h2 h3 h4 HBS0 s0 sf0 s1 sf1 s2 sf2 s3 sf3 s4 sf4 s5 sf5
        obtain ⟨wn, hwn⟩ : ∃ W, W = wm := ⟨_, rfl⟩
        subst hwn
        refine hK.out _ _ HBS.out (fun hHeld => ?_)
        clear hK K
        (try dsimp only [Act.put]); try simp only [pt1, pt2, pt3]
        refine wpAnyH_done (by kernel_rfl) ?_ _
        clear hHeld
        exact hQ _ _ _ _ _ go gf L1 L2 B0 B1 B2 B3 B4 E0 E1 E2 E3 E4 m0 m1 m2 m3 m4 d0 d1 d2 d3 d4 o0 o1 o2 o3 o4 p0 p1 p2 p3 p4 sb se ⟨HBS.out, HO.out, HF.out, HA.out, HB.out, HL1.out, HL2.out, fun b h1 h2 => by have h3 := HSP.out b h1; have h4 := (HB.out.o1.lt b h2).1; omega⟩
      · skip
        have HBS0 := HBS
        have hb := b1' wn (.cells #[.slice none 0 0, .slice none 0 0, .slice none 0 0, .slice none 0 0, .slice none 0 0, .int .i64 0] 28)
        have HBS := Lib.hid (HBS0.out.step hb)
        have hlo := HF.out.lt
        have HA := Lib.hid (HA.out.step hb)
        have HF := Lib.hid (HF.out.below hb HF.out.lt)
        have HO := Lib.hid (Blk.new wn 28 #[.slice none 0 0, .slice none 0 0, .slice none 0 0, .slice none 0 0, .slice none 0 0, .int .i64 0])
        have hlb : w.heap.size + 1 ≤ wn.heap.size := by have := HBS0.out.b.x.lt; omega
        obtain ⟨go, hgo⟩ : ∃ k, wn.heap.size = k := ⟨_, rfl⟩
        obtain ⟨wm, hwm⟩ : ∃ W, wn.alloc (.cells #[.slice none 0 0, .slice none 0 0, .slice none 0 0, .slice none 0 0, .slice none 0 0, .int .i64 0] 28) = W := ⟨_, rfl⟩
        rw [hwm] at HBS HA HF HO
        rw [hgo] at HO hlb hlo
        have HLgo := Lib.hid hlb
        have HNE : Hid (go ≠ gf) := Lib.hid (by omega)
        clear hlo
        clear hlb
        go_simp
        clear hgo hwm hb HBS0
        obtain ⟨wn, hwn⟩ : ∃ W, W = wm := ⟨_, rfl⟩
        subst hwn
        refine hK.out _ _ HBS.out (fun hHeld => ?_)
        clear hK K
        (try dsimp only [Act.put]); try simp only [pt1, pt2, pt3]
        refine rdy 3 (fun K hK => ?_)
        have HBS0 := HBS
        obtain ⟨L2, hL2⟩ : ∃ k, wn.heap.size = k := ⟨_, rfl⟩
        have HL2 : Hid (w.heap.size + 1 ≤ L2) := Lib.hid (by have := HBS0.out.b.x.lt; omega)
        have HSP : Hid (∀ b, (Value.slice B1 m1 d1).ownBlock = some b → b < L2) := Lib.hid (fun b hb => by rw [← hL2]; exact (HA.out.o1.lt b hb).2)
        obtain ⟨wo, hwo⟩ : ∃ W, W = wn := ⟨_, rfl⟩
        go_simp
        refine (HCP.out _ HBS0.out.b).mono ?_
        rintro e wn ⟨E0, E1, E2, E3, E4, o0, o1, o2, o3, o4, p0, p1, p2, p3, p4, se, rfl, hoa, hb⟩
        have HBS := Lib.hid (HBS0.out.step hb)
        have HA := Lib.hid (HA.out.step hb)
        have HO := Lib.hid (HO.out.below hb HO.out.lt)
        have HF := Lib.hid (HF.out.below hb HF.out.lt)
        rw [hL2] at hoa
        have HB := Lib.hid hoa
        clear hoa hb HBS0 hL2 hwo
        refine hK.out _ _ HBS.out (fun hHeld => ?_)
        clear hK K
        (try dsimp only [Act.put]); try simp only [pt1, pt2, pt3]
        refine rdy 6 (fun K hK => ?_)
        have s0 := HO.out.cell 0
        have s1 := HO.out.cell 1
        have s2 := HO.out.cell 2
        have s3 := HO.out.cell 3
        have s4 := HO.out.cell 4
        have s5 := HO.out.cell 5
        have sf0 := HO.out.frozen 0
        have sf1 := HO.out.frozen 1
        have sf2 := HO.out.frozen 2
        have sf3 := HO.out.frozen 3
        have sf4 := HO.out.frozen 4
        have sf5 := HO.out.frozen 5
        have HBS0 := HBS
        go_simp
        obtain ⟨wm, hwm⟩ : ∃ W, (((((wn.setCell ⟨go, 0, none⟩ (.slice B0 m0 d0)).setCell ⟨go, 1, none⟩ (.slice B1 m1 d1)).setCell ⟨go, 2, none⟩ (.slice B2 m2 d2)).setCell ⟨go, 3, none⟩ (.slice B3 m3 d3)).setCell ⟨go, 4, none⟩ (.slice B4 m4 d4)).setCell ⟨go, 5, none⟩ (.int .i64 sb) = W := ⟨_, rfl⟩
        have hp : put6 wn go B0 B1 B2 B3 B4 m0 m1 m2 m3 m4 d0 d1 d2 d3 d4 sb = wm := hwm
        have hbl : Below (w.heap.size + 1) wn (put6 wn go B0 B1 B2 B3 B4 m0 m1 m2 m3 m4 d0 d1 d2 d3 d4 sb) := put6_below (Below.refl _ _) HLgo.out B0 B1 B2 B3 B4 m0 m1 m2 m3 m4 d0 d1 d2 d3 d4 sb
        have h1 := HO.out.put6 B0 B1 B2 B3 B4 m0 m1 m2 m3 m4 d0 d1 d2 d3 d4 sb
        have h2 := HA.out.put6_17 HO.out B0 B1 B2 B3 B4 m0 m1 m2 m3 m4 d0 d1 d2 d3 d4 sb
        have h3 := HB.out.put6_17 HO.out B0 B1 B2 B3 B4 m0 m1 m2 m3 m4 d0 d1 d2 d3 d4 sb
        have h4 := Blk.put6_far HF.out (g := go) (fun e => HNE.out e.symm) B0 B1 B2 B3 B4 m0 m1 m2 m3 m4 d0 d1 d2 d3 d4 sb
        rw [hp] at hbl h1 h2 h3 h4
        rw [hwm]
        have HBS := Lib.hid (HBS0.out.low hbl)
        have HO := Lib.hid h1
        have HA := Lib.hid h2
        have HB := Lib.hid h3
        have HF := Lib.hid h4
        clear hwm hp hbl h1 h2 h3 h4 HBS0 s0 sf0 s1 sf1 s2 sf2 s3 sf3 s4 sf4 s5 sf5
        obtain ⟨wn, hwn⟩ : ∃ W, W = wm := ⟨_, rfl⟩
        subst hwn
        refine hK.out _ _ HBS.out (fun hHeld => ?_)
        clear hK K
        (try dsimp only [Act.put]); try simp only [pt1, pt2, pt3]
        refine rdy 7 (fun K hK => ?_)
        have s0 := HF.out.cell 0
        have s1 := HF.out.cell 1
        have s2 := HF.out.cell 2
        have s3 := HF.out.cell 3
        have s4 := HF.out.cell 4
        have s5 := HF.out.cell 5
        have sf0 := HF.out.frozen 0
        have sf1 := HF.out.frozen 1
        have sf2 := HF.out.frozen 2
        have sf3 := HF.out.frozen 3
        have sf4 := HF.out.frozen 4
        have sf5 := HF.out.frozen 5
        have HBS0 := HBS
        go_simp
        obtain ⟨wm, hwm⟩ : ∃ W, (((((wn.setCell ⟨gf, 0, none⟩ (.slice E0 o0 p0)).setCell ⟨gf, 1, none⟩ (.slice E1 o1 p1)).setCell ⟨gf, 2, none⟩ (.slice E2 o2 p2)).setCell ⟨gf, 3, none⟩ (.slice E3 o3 p3)).setCell ⟨gf, 4, none⟩ (.slice E4 o4 p4)).setCell ⟨gf, 5, none⟩ (.int .i64 se) = W := ⟨_, rfl⟩
        have hp : put6 wn gf E0 E1 E2 E3 E4 o0 o1 o2 o3 o4 p0 p1 p2 p3 p4 se = wm := hwm
        have hbl : Below (w.heap.size + 1) wn (put6 wn gf E0 E1 E2 E3 E4 o0 o1 o2 o3 o4 p0 p1 p2 p3 p4 se) := put6_below (Below.refl _ _) HLgf.out E0 E1 E2 E3 E4 o0 o1 o2 o3 o4 p0 p1 p2 p3 p4 se
        have h1 := HF.out.put6 E0 E1 E2 E3 E4 o0 o1 o2 o3 o4 p0 p1 p2 p3 p4 se
        have h2 := HA.out.put6_17 HF.out E0 E1 E2 E3 E4 o0 o1 o2 o3 o4 p0 p1 p2 p3 p4 se
        have h3 := HB.out.put6_17 HF.out E0 E1 E2 E3 E4 o0 o1 o2 o3 o4 p0 p1 p2 p3 p4 se
        have h4 := Blk.put6_far HO.out (g := gf) (HNE.out) E0 E1 E2 E3 E4 o0 o1 o2 o3 o4 p0 p1 p2 p3 p4 se
        rw [hp] at hbl h1 h2 h3 h4
        rw [hwm]
        have HBS := Lib.hid (HBS0.out.low hbl)
        have HF := Lib.hid h1
        have HA := Lib.hid h2
        have HB := Lib.hid h3
        have HO := Lib.hid h4
        clear hwm hp hbl h1 h2 h3 h4 HBS0 s0 sf0 s1 sf1 s2 sf2 s3 sf3 s4 sf4 s5 sf5
        obtain ⟨wn, hwn⟩ : ∃ W, W = wm := ⟨_, rfl⟩
        subst hwn
        refine hK.out _ _ HBS.out (fun hHeld => ?_)
        clear hK K
        (try dsimp only [Act.put]); try simp only [pt1, pt2, pt3]
        refine wpAnyH_done (by kernel_rfl) ?_ _
        clear hHeld
        exact hQ _ _ _ _ _ go gf L1 L2 B0 B1 B2 B3 B4 E0 E1 E2 E3 E4 m0 m1 m2 m3 m4 d0 d1 d2 d3 d4 o0 o1 o2 o3 o4 p0 p1 p2 p3 p4 sb se ⟨HBS.out, HO.out, HF.out, HA.out, HB.out, HL1.out, HL2.out, fun b h1 h2 => by have h3 := HSP.out b h1; have h4 := (HB.out.o1.lt b h2).1; omega⟩
  · skip
    have HBS0 := HBS
    have hb := b1' wn (.cells #[.slice none 0 0, .slice none 0 0, .slice none 0 0, .slice none 0 0, .slice none 0 0, .int .i64 0] 28)
    have HBS := Lib.hid (HBS0.out.step hb)
    have HO := Lib.hid (Blk.new wn 28 #[.slice none 0 0, .slice none 0 0, .slice none 0 0, .slice none 0 0, .slice none 0 0, .int .i64 0])
    have hlb : w.heap.size + 1 ≤ wn.heap.size := by have := HBS0.out.b.x.lt; omega
    obtain ⟨go, hgo⟩ : ∃ k, wn.heap.size = k := ⟨_, rfl⟩
    obtain ⟨wm, hwm⟩ : ∃ W, wn.alloc (.cells #[.slice none 0 0, .slice none 0 0, .slice none 0 0, .slice none 0 0, .slice none 0 0, .int .i64 0] 28) = W := ⟨_, rfl⟩
    rw [hwm] at HBS HO
    rw [hgo] at HO hlb
    have HLgo := Lib.hid hlb
    clear hlb
    go_simp
    clear hgo hwm hb HBS0
    obtain ⟨wn, hwn⟩ : ∃ W, W = wm := ⟨_, rfl⟩
    subst hwn
    refine hK.out _ _ HBS.out (fun hHeld => ?_)
    clear hK K
    (try dsimp only [Act.put]); try simp only [pt1, pt2, pt3]
    refine wpAnyH_ready (rs := [1, 5]) (by kernel_rfl) (by simp) (AllReadyH.cons (op_of rfl) (fun K hK => ?_) (AllReadyH.cons (op_of rfl) (fun K hK => ?_) AllReadyH.nil))
    · skip
      have HBS0 := HBS
      obtain ⟨L1, hL1⟩ : ∃ k, wn.heap.size = k := ⟨_, rfl⟩
      have HL1 : Hid (w.heap.size + 1 ≤ L1) := Lib.hid (by have := HBS0.out.b.x.lt; omega)
      obtain ⟨wo, hwo⟩ : ∃ W, W = wn := ⟨_, rfl⟩
      go_simp
      refine (HCP.out _ HBS0.out.b).mono ?_
      rintro e wn ⟨B0, B1, B2, B3, B4, m0, m1, m2, m3, m4, d0, d1, d2, d3, d4, sb, rfl, hoa, hb⟩
      have HBS := Lib.hid (HBS0.out.step hb)
      have HO := Lib.hid (HO.out.below hb HO.out.lt)
      rw [hL1] at hoa
      have HA := Lib.hid hoa
      clear hoa hb HBS0 hL1 hwo
      refine hK.out _ _ HBS.out (fun hHeld => ?_)
      clear hK K
      (try dsimp only [Act.put]); try simp only [pt1, pt2, pt3]
      refine wpAnyH_ready (rs := [3, 5]) (by kernel_rfl) (by simp) (AllReadyH.cons (op_of rfl) (fun K hK => ?_) (AllReadyH.cons (op_of rfl) (fun K hK => ?_) AllReadyH.nil))
      · skip
        have HBS0 := HBS
        obtain ⟨L2, hL2⟩ : ∃ k, wn.heap.size = k := ⟨_, rfl⟩
        have HL2 : Hid (w.heap.size + 1 ≤ L2) := Lib.hid (by have := HBS0.out.b.x.lt; omega)
        have HSP : Hid (∀ b, (Value.slice B1 m1 d1).ownBlock = some b → b < L2) := Lib.hid (fun b hb => by rw [← hL2]; exact (HA.out.o1.lt b hb).2)
        obtain ⟨wo, hwo⟩ : ∃ W, W = wn := ⟨_, rfl⟩
        go_simp
        refine (HCP.out _ HBS0.out.b).mono ?_
        rintro e wn ⟨E0, E1, E2, E3, E4, o0, o1, o2, o3, o4, p0, p1, p2, p3, p4, se, rfl, hoa, hb⟩
        have HBS := Lib.hid (HBS0.out.step hb)
        have HA := Lib.hid (HA.out.step hb)
        have HO := Lib.hid (HO.out.below hb HO.out.lt)
        rw [hL2] at hoa
        have HB := Lib.hid hoa
        clear hoa hb HBS0 hL2 hwo
        refine hK.out _ _ HBS.out (fun hHeld => ?_)
        clear hK K
        (try dsimp only [Act.put]); try simp only [pt1, pt2, pt3]
        refine rdy 5 (fun K hK => ?_)
        have HBS0 := HBS
        have hb := b1' wn (.cells #[.slice none 0 0, .slice none 0 0, .slice none 0 0, .slice none 0 0, .slice none 0 0, .int .i64 0] 28)
        have HBS := Lib.hid (HBS0.out.step hb)
        have hlo := HO.out.lt
        have HA := Lib.hid (HA.out.step hb)
        have HB := Lib.hid (HB.out.step hb)
        have HO := Lib.hid (HO.out.below hb HO.out.lt)
        have HF := Lib.hid (Blk.new wn 28 #[.slice none 0 0, .slice none 0 0, .slice none 0 0, .slice none 0 0, .slice none 0 0, .int .i64 0])
        have hlb : w.heap.size + 1 ≤ wn.heap.size := by have := HBS0.out.b.x.lt; omega
        obtain ⟨gf, hgf⟩ : ∃ k, wn.heap.size = k := ⟨_, rfl⟩
        obtain ⟨wm, hwm⟩ : ∃ W, wn.alloc (.cells #[.slice none 0 0, .slice none 0 0, .slice none 0 0, .slice none 0 0, .slice none 0 0, .int .i64 0] 28) = W := ⟨_, rfl⟩
        rw [hwm] at HBS HA HB HO HF
        rw [hgf] at HF hlb hlo
        have HLgf := Lib.hid hlb
        have HNE : Hid (go ≠ gf) := Lib.hid (by omega)
        clear hlo
        clear hlb
        go_simp
        clear hgf hwm hb HBS0
        obtain ⟨wn, hwn⟩ : ∃ W, W = wm := ⟨_, rfl⟩
        subst hwn
        refine hK.out _ _ HBS.out (fun hHeld => ?_)
        clear hK K
        (try dsimp only [Act.put]); try simp only [pt1, pt2, pt3]
        refine rdy 6 (fun K hK => ?_)
        have s0 := HO.out.cell 0
        have s1 := HO.out.cell 1
        have s2 := HO.out.cell 2
        have s3 := HO.out.cell 3
        have s4 := HO.out.cell 4
        have s5 := HO.out.cell 5
        have sf0 := HO.out.frozen 0
        have sf1 := HO.out.frozen 1
        have sf2 := HO.out.frozen 2
        have sf3 := HO.out.frozen 3
        have sf4 := HO.out.frozen 4
        have sf5 := HO.out.frozen 5
        have HBS0 := HBS
        go_simp
        obtain ⟨wm, hwm⟩ : ∃ W, (((((wn.setCell ⟨go, 0, none⟩ (.slice B0 m0 d0)).setCell ⟨go, 1, none⟩ (.slice B1 m1 d1)).setCell ⟨go, 2, none⟩ (.slice B2 m2 d2)).setCell ⟨go, 3, none⟩ (.slice B3 m3 d3)).setCell ⟨go, 4, none⟩ (.slice B4 m4 d4)).setCell ⟨go, 5, none⟩ (.int .i64 sb) = W := ⟨_, rfl⟩
        have hp : put6 wn go B0 B1 B2 B3 B4 m0 m1 m2 m3 m4 d0 d1 d2 d3 d4 sb = wm := hwm
        have hbl : Below (w.heap.size + 1) wn (put6 wn go B0 B1 B2 B3 B4 m0 m1 m2 m3 m4 d0 d1 d2 d3 d4 sb) := put6_below (Below.refl _ _) HLgo.out B0 B1 B2 B3 B4 m0 m1 m2 m3 m4 d0 d1 d2 d3 d4 sb
        have h1 := HO.out.put6 B0 B1 B2 B3 B4 m0 m1 m2 m3 m4 d0 d1 d2 d3 d4 sb
        have h2 := HA.out.put6_17 HO.out B0 B1 B2 B3 B4 m0 m1 m2 m3 m4 d0 d1 d2 d3 d4 sb
        have h3 := HB.out.put6_17 HO.out B0 B1 B2 B3 B4 m0 m1 m2 m3 m4 d0 d1 d2 d3 d4 sb
        have h4 := Blk.put6_far HF.out (g := go) (fun e => HNE.out e.symm) B0 B1 B2 B3 B4 m0 m1 m2 m3 m4 d0 d1 d2 d3 d4 sb
        rw [hp] at hbl h1 h2 h3 h4
        rw [hwm]
        have HBS := Lib.hid (HBS0.out.low hbl)
        have HO := Lib.hid h1
        have HA := Lib.hid h2
        have HB := Lib.hid h3
        have HF := Lib.hid h4
        clear hwm hp hbl h1 h2 h3 h4 HBS0 s0 sf0 s1 sf1 s2 sf2 s3 sf3 s4 sf4 s5 sf5
        obtain ⟨wn, hwn⟩ : ∃ W, W = wm := ⟨_, rfl⟩
        subst hwn
        refine hK.out _ _ HBS.out (fun hHeld => ?_)
        clear hK K
        (try dsimp only [Act.put]); try simp only [pt1, pt2, pt3]
        refine rdy 7 (fun K hK => ?_)
        have s0 := HF.out.cell 0
        have s1 := HF.out.cell 1
        have s2 := HF.out.cell 2
        have s3 := HF.out.cell 3
        have s4 := HF.out.cell 4
        have s5 := HF.out.cell 5
        have sf0 := HF.out.frozen 0
        have sf1 := HF.out.frozen 1
        have sf2 := HF.out.frozen 2
        have sf3 := HF.out.frozen 3
        have sf4 := HF.out.frozen 4
        have sf5 := HF.out.frozen 5
        have HBS0 := HBS
        go_simp
        obtain ⟨wm, hwm⟩ : ∃ W, (((((wn.setCell ⟨gf, 0, none⟩ (.slice E0 o0 p0)).setCell ⟨gf, 1, none⟩ (.slice E1 o1 p1)).setCell ⟨gf, 2, none⟩ (.slice E2 o2 p2)).setCell ⟨gf, 3, none⟩ (.slice E3 o3 p3)).setCell ⟨gf, 4, none⟩ (.slice E4 o4 p4)).setCell ⟨gf, 5, none⟩ (.int .i64 se) = W := ⟨_, rfl⟩
        have hp : put6 wn gf E0 E1 E2 E3 E4 o0 o1 o2 o3 o4 p0 p1 p2 p3 p4 se = wm := hwm
        have hbl : Below (w.heap.size + 1) wn (put6 wn gf E0 E1 E2 E3 E4 o0 o1 o2 o3 o4 p0 p1 p2 p3 p4 se) := put6_below (Below.refl _ _) HLgf.out E0 E1 E2 E3 E4 o0 o1 o2 o3 o4 p0 p1 p2 p3 p4 se
        have h1 := HF.out.put6 E0 E1 E2 E3 E4 o0 o1 o2 o3 o4 p0 p1 p2 p3 p4 se
        have h2 := HA.out.put6_17 HF.out E0 E1 E2 E3 E4 o0 o1 o2 o3 o4 p0 p1 p2 p3 p4 se
        have h3 := HB.out.put6_17 HF.out E0 E1 E2 E3 E4 o0 o1 o2 o3 o4 p0 p1 p2 p3 p4 se
        have h4 := Blk.put6_far HO.out (g := gf) (HNE.out) E0 E1 E2 E3 E4 o0 o1 o2 o3 o4 p0 p1 p2 p3 p4 se
        rw [hp] at hbl h1 h2 h3 h4
        rw [hwm]
        have HBS := Lib.hid (HBS0.out.low hbl)
        have HF := Lib.hid h1
        have HA := Lib.hid h2
        have HB := Lib.hid h3
        have HO := Lib.hid h4
        clear hwm hp hbl h1 h2 h3 h4 HBS0 s0 sf0 s1 sf1 s2 sf2 s3 sf3 s4 sf4 s5 sf5
        obtain ⟨wn, hwn⟩ : ∃ W, W = wm := ⟨_, rfl⟩
        subst hwn
        refine hK.out _ _ HBS.out (fun hHeld => ?_)
        clear hK K
        (try dsimp only [Act.put]); try simp only [pt1, pt2, pt3]
        refine wpAnyH_done (by kernel_rfl) ?_ _
        clear hHeld
        exact hQ _ _ _ _ _ go gf L1 L2 B0 B1 B2 B3 B4 E0 E1 E2 E3 E4 m0 m1 m2 m3 m4 d0 d1 d2 d3 d4 o0 o1 o2 o3 o4 p0 p1 p2 p3 p4 sb se ⟨HBS.out, HO.out, HF.out, HA.out, HB.out, HL1.out, HL2.out, fun b h1 h2 => by have h3 := HSP.out b h1; have h4 := (HB.out.o1.lt b h2).1; omega⟩
      · skip
        have HBS0 := HBS
        have hb := b1' wn (.cells #[.slice none 0 0, .slice none 0 0, .slice none 0 0, .slice none 0 0, .slice none 0 0, .int .i64 0] 28)
        have HBS := Lib.hid (HBS0.out.step hb)
        have hlo := HO.out.lt
        have HA := Lib.hid (HA.out.step hb)
        have HO := Lib.hid (HO.out.below hb HO.out.lt)
        have HF := Lib.hid (Blk.new wn 28 #[.slice none 0 0, .slice none 0 0, .slice none 0 0, .slice none 0 0, .slice none 0 0, .int .i64 0])
        have hlb : w.heap.size + 1 ≤ wn.heap.size := by have := HBS0.out.b.x.lt; omega
        obtain ⟨gf, hgf⟩ : ∃ k, wn.heap.size = k := ⟨_, rfl⟩
        obtain ⟨wm, hwm⟩ : ∃ W, wn.alloc (.cells #[.slice none 0 0, .slice none 0 0, .slice none 0 0, .slice none 0 0, .slice none 0 0, .int .i64 0] 28) = W := ⟨_, rfl⟩
        rw [hwm] at HBS HA HO HF
        rw [hgf] at HF hlb hlo
        have HLgf := Lib.hid hlb
        have HNE : Hid (go ≠ gf) := Lib.hid (by omega)
        clear hlo
        clear hlb
        go_simp
        clear hgf hwm hb HBS0
        obtain ⟨wn, hwn⟩ : ∃ W, W = wm := ⟨_, rfl⟩
        subst hwn
        refine hK.out _ _ HBS.out (fun hHeld => ?_)
        clear hK K
        (try dsimp only [Act.put]); try simp only [pt1, pt2, pt3]
        refine rdy 3 (fun K hK => ?_)
        have HBS0 := HBS
        obtain ⟨L2, hL2⟩ : ∃ k, wn.heap.size = k := ⟨_, rfl⟩
        have HL2 : Hid (w.heap.size + 1 ≤ L2) := Lib.hid (by have := HBS0.out.b.x.lt; omega)
        have HSP : Hid (∀ b, (Value.slice B1 m1 d1).ownBlock = some b → b < L2) := Lib.hid (fun b hb => by rw [← hL2]; exact (HA.out.o1.lt b hb).2)
        obtain ⟨wo, hwo⟩ : ∃ W, W = wn := ⟨_, rfl⟩
        go_simp
        refine (HCP.out _ HBS0.out.b).mono ?_
        rintro e wn ⟨E0, E1, E2, E3, E4, o0, o1, o2, o3, o4, p0, p1, p2, p3, p4, se, rfl, hoa, hb⟩
        have HBS := Lib.hid (HBS0.out.step hb)
        have HA := Lib.hid (HA.out.step hb)
        have HO := Lib.hid (HO.out.below hb HO.out.lt)
        have HF := Lib.hid (HF.out.below hb HF.out.lt)
        rw [hL2] at hoa
        have HB := Lib.hid hoa
        clear hoa hb HBS0 hL2 hwo
        refine hK.out _ _ HBS.out (fun hHeld => ?_)
        clear hK K
        (try dsimp only [Act.put]); try simp only [pt1, pt2, pt3]
        refine rdy 6 (fun K hK => ?_)
        have s0 := HO.out.cell 0
        have s1 := HO.out.cell 1
        have s2 := HO.out.cell 2
        have s3 := HO.out.cell 3
        have s4 := HO.out.cell 4
        have s5 := HO.out.cell 5
        have sf0 := HO.out.frozen 0
        have sf1 := HO.out.frozen 1
        have sf2 := HO.out.frozen 2
        have sf3 := HO.out.frozen 3
        have sf4 := HO.out.frozen 4
        have sf5 := HO.out.frozen 5
        have HBS0 := HBS
        go_simp
        obtain ⟨wm, hwm⟩ : ∃ W, (((((wn.setCell ⟨go, 0, none⟩ (.slice B0 m0 d0)).setCell ⟨go, 1, none⟩ (.slice B1 m1 d1)).setCell ⟨go, 2, none⟩ (.slice B2 m2 d2)).setCell ⟨go, 3, none⟩ (.slice B3 m3 d3)).setCell ⟨go, 4, none⟩ (.slice B4 m4 d4)).setCell ⟨go, 5, none⟩ (.int .i64 sb) = W := ⟨_, rfl⟩
        have hp : put6 wn go B0 B1 B2 B3 B4 m0 m1 m2 m3 m4 d0 d1 d2 d3 d4 sb = wm := hwm
        have hbl : Below (w.heap.size + 1) wn (put6 wn go B0 B1 B2 B3 B4 m0 m1 m2 m3 m4 d0 d1 d2 d3 d4 sb) := put6_below (Below.refl _ _) HLgo.out B0 B1 B2 B3 B4 m0 m1 m2 m3 m4 d0 d1 d2 d3 d4 sb
        have h1 := HO.out.put6 B0 B1 B2 B3 B4 m0 m1 m2 m3 m4 d0 d1 d2 d3 d4 sb
        have h2 := HA.out.put6_17 HO.out B0 B1 B2 B3 B4 m0 m1 m2 m3 m4 d0 d1 d2 d3 d4 sb
        have h3 := HB.out.put6_17 HO.out B0 B1 B2 B3 B4 m0 m1 m2 m3 m4 d0 d1 d2 d3 d4 sb
        have h4 := Blk.put6_far HF.out (g := go) (fun e => HNE.out e.symm) B0 B1 B2 B3 B4 m0 m1 m2 m3 m4 d0 d1 d2 d3 d4 sb
        rw [hp] at hbl h1 h2 h3 h4
        rw [hwm]
        have HBS := Lib.hid (HBS0.out.low hbl)
        have HO := Lib.hid h1
        have HA := Lib.hid h2
        have HB := Lib.hid h3
        have HF := Lib.hid h4
        clear hwm hp hbl h1 h2 h3 h4 HBS0 s0 sf0 s1 sf1 s2 sf2 s3 sf3 s4 sf4 s5 sf5
        obtain ⟨wn, hwn⟩ : ∃ W, W = wm := ⟨_, rfl⟩
        subst hwn
        refine hK.out _ _ HBS.out (fun hHeld => ?_)
        clear hK K
        (try dsimp only [Act.put]); try simp only [pt1, pt2, pt3]
        refine rdy 7 (fun K hK => ?_)
        have s0 := HF.out.cell 0
        have s1 := HF.out.cell 1
        have s2 := HF.out.cell 2
        have s3 := HF.out.cell 3
        have s4 := HF.out.cell 4
        have s5 := HF.out.cell 5
        have sf0 := HF.out.frozen 0
        have sf1 := HF.out.frozen 1
        have sf2 := HF.out.frozen 2
        have sf3 := HF.out.frozen 3
        have sf4 := HF.out.frozen 4
        have sf5 := HF.out.frozen 5
        have HBS0 := HBS
        go_simp
        obtain ⟨wm, hwm⟩ : ∃ W, (((((wn.setCell ⟨gf, 0, none⟩ (.slice E0 o0 p0)).setCell ⟨gf, 1, none⟩ (.slice E1 o1 p1)).setCell ⟨gf, 2, none⟩ (.slice E2 o2 p2)).setCell ⟨gf, 3, none⟩ (.slice E3 o3 p3)).setCell ⟨gf, 4, none⟩ (.slice E4 o4 p4)).setCell ⟨gf, 5, none⟩ (.int .i64 se) = W := ⟨_, rfl⟩
        have hp : put6 wn gf E0 E1 E2 E3 E4 o0 o1 o2 o3 o4 p0 p1 p2 p3 p4 se = wm := hwm
        have hbl : Below (w.heap.size + 1) wn (put6 wn gf E0 E1 E2 E3 E4 o0 o1 o2 o3 o4 p0 p1 p2 p3 p4 se) := put6_below (Below.refl _ _) HLgf.out E0 E1 E2 E3 E4 o0 o1 o2 o3 o4 p0 p1 p2 p3 p4 se
        have h1 := HF.out.put6 E0 E1 E2 E3 E4 o0 o1 o2 o3 o4 p0 p1 p2 p3 p4 se
        have h2 := HA.out.put6_17 HF.out E0 E1 E2 E3 E4 o0 o1 o2 o3 o4 p0 p1 p2 p3 p4 se
        have h3 := HB.out.put6_17 HF.out E0 E1 E2 E3 E4 o0 o1 o2 o3 o4 p0 p1 p2 p3 p4 se
        have h4 := Blk.put6_far HO.out (g := gf) (HNE.out) E0 E1 E2 E3 E4 o0 o1 o2 o3 o4 p0 p1 p2 p3 p4 se
        rw [hp] at hbl h1 h2 h3 h4
        rw [hwm]
        have HBS := Lib.hid (HBS0.out.low hbl)
        have HF := Lib.hid h1
        have HA := Lib.hid h2
        have HB := Lib.hid h3
        have HO := Lib.hid h4
        clear hwm hp hbl h1 h2 h3 h4 HBS0 s0 sf0 s1 sf1 s2 sf2 s3 sf3 s4 sf4 s5 sf5
        obtain ⟨wn, hwn⟩ : ∃ W, W = wm := ⟨_, rfl⟩
        subst hwn
        refine hK.out _ _ HBS.out (fun hHeld => ?_)
        clear hK K
        (try dsimp only [Act.put]); try simp only [pt1, pt2, pt3]
        refine wpAnyH_done (by kernel_rfl) ?_ _
        clear hHeld
        exact hQ _ _ _ _ _ go gf L1 L2 B0 B1 B2 B3 B4 E0 E1 E2 E3 E4 m0 m1 m2 m3 m4 d0 d1 d2 d3 d4 o0 o1 o2 o3 o4 p0 p1 p2 p3 p4 sb se ⟨HBS.out, HO.out, HF.out, HA.out, HB.out, HL1.out, HL2.out, fun b h1 h2 => by have h3 := HSP.out b h1; have h4 := (HB.out.o1.lt b h2).1; omega⟩
    · skip
      have HBS0 := HBS
      have hb := b1' wn (.cells #[.slice none 0 0, .slice none 0 0, .slice none 0 0, .slice none 0 0, .slice none 0 0, .int .i64 0] 28)
      have HBS := Lib.hid (HBS0.out.step hb)
      have hlo := HO.out.lt
      have HO := Lib.hid (HO.out.below hb HO.out.lt)
      have HF := Lib.hid (Blk.new wn 28 #[.slice none 0 0, .slice none 0 0, .slice none 0 0, .slice none 0 0, .slice none 0 0, .int .i64 0])
      have hlb : w.heap.size + 1 ≤ wn.heap.size := by have := HBS0.out.b.x.lt; omega
      obtain ⟨gf, hgf⟩ : ∃ k, wn.heap.size = k := ⟨_, rfl⟩
      obtain ⟨wm, hwm⟩ : ∃ W, wn.alloc (.cells #[.slice none 0 0, .slice none 0 0, .slice none 0 0, .slice none 0 0, .slice none 0 0, .int .i64 0] 28) = W := ⟨_, rfl⟩
      rw [hwm] at HBS HO HF
      rw [hgf] at HF hlb hlo
      have HLgf := Lib.hid hlb
      have HNE : Hid (go ≠ gf) := Lib.hid (by omega)
      clear hlo
      clear hlb
      go_simp
      clear hgf hwm hb HBS0
      obtain ⟨wn, hwn⟩ : ∃ W, W = wm := ⟨_, rfl⟩
      subst hwn
      refine hK.out _ _ HBS.out (fun hHeld => ?_)
      clear hK K
      (try dsimp only [Act.put]); try simp only [pt1, pt2, pt3]
      refine rdy 1 (fun K hK => ?_)
      have HBS0 := HBS
      obtain ⟨L1, hL1⟩ : ∃ k, wn.heap.size = k := ⟨_, rfl⟩
      have HL1 : Hid (w.heap.size + 1 ≤ L1) := Lib.hid (by have := HBS0.out.b.x.lt; omega)
      obtain ⟨wo, hwo⟩ : ∃ W, W = wn := ⟨_, rfl⟩
      go_simp
      refine (HCP.out _ HBS0.out.b).mono ?_
      rintro e wn ⟨B0, B1, B2, B3, B4, m0, m1, m2, m3, m4, d0, d1, d2, d3, d4, sb, rfl, hoa, hb⟩
      have HBS := Lib.hid (HBS0.out.step hb)
      have HO := Lib.hid (HO.out.below hb HO.out.lt)
      have HF := Lib.hid (HF.out.below hb HF.out.lt)
      rw [hL1] at hoa
      have HA := Lib.hid hoa
      clear hoa hb HBS0 hL1 hwo
      refine hK.out _ _ HBS.out (fun hHeld => ?_)
      clear hK K
      (try dsimp only [Act.put]); try simp only [pt1, pt2, pt3]
      refine rdy 3 (fun K hK => ?_)
      have HBS0 := HBS
      obtain ⟨L2, hL2⟩ : ∃ k, wn.heap.size = k := ⟨_, rfl⟩
      have HL2 : Hid (w.heap.size + 1 ≤ L2) := Lib.hid (by have := HBS0.out.b.x.lt; omega)
      have HSP : Hid (∀ b, (Value.slice B1 m1 d1).ownBlock = some b → b < L2) := Lib.hid (fun b hb => by rw [← hL2]; exact (HA.out.o1.lt b hb).2)
      obtain ⟨wo, hwo⟩ : ∃ W, W = wn := ⟨_, rfl⟩
      go_simp
      refine (HCP.out _ HBS0.out.b).mono ?_
      rintro e wn ⟨E0, E1, E2, E3, E4, o0, o1, o2, o3, o4, p0, p1, p2, p3, p4, se, rfl, hoa, hb⟩
      have HBS := Lib.hid (HBS0.out.step hb)
      have HA := Lib.hid (HA.out.step hb)
      have HO := Lib.hid (HO.out.below hb HO.out.lt)
      have HF := Lib.hid (HF.out.below hb HF.out.lt)
      rw [hL2] at hoa
      have HB := Lib.hid hoa
      clear hoa hb HBS0 hL2 hwo
      refine hK.out _ _ HBS.out (fun hHeld => ?_)
      clear hK K
      (try dsimp only [Act.put]); try simp only [pt1, pt2, pt3]
      refine rdy 6 (fun K hK => ?_)
      have s0 := HO.out.cell 0
      have s1 := HO.out.cell 1
      have s2 := HO.out.cell 2
      have s3 := HO.out.cell 3
      have s4 := HO.out.cell 4
      have s5 := HO.out.cell 5
      have sf0 := HO.out.frozen 0
      have sf1 := HO.out.frozen 1
      have sf2 := HO.out.frozen 2
      have sf3 := HO.out.frozen 3
      have sf4 := HO.out.frozen 4
      have sf5 := HO.out.frozen 5
      have HBS0 := HBS
      go_simp
      obtain ⟨wm, hwm⟩ : ∃ W, (((((wn.setCell ⟨go, 0, none⟩ (.slice B0 m0 d0)).setCell ⟨go, 1, none⟩ (.slice B1 m1 d1)).setCell ⟨go, 2, none⟩ (.slice B2 m2 d2)).setCell ⟨go, 3, none⟩ (.slice B3 m3 d3)).setCell ⟨go, 4, none⟩ (.slice B4 m4 d4)).setCell ⟨go, 5, none⟩ (.int .i64 sb) = W := ⟨_, rfl⟩
      have hp : put6 wn go B0 B1 B2 B3 B4 m0 m1 m2 m3 m4 d0 d1 d2 d3 d4 sb = wm := hwm
      have hbl : Below (w.heap.size + 1) wn (put6 wn go B0 B1 B2 B3 B4 m0 m1 m2 m3 m4 d0 d1 d2 d3 d4 sb) := put6_below (Below.refl _ _) HLgo.out B0 B1 B2 B3 B4 m0 m1 m2 m3 m4 d0 d1 d2 d3 d4 sb
      have h1 := HO.out.put6 B0 B1 B2 B3 B4 m0 m1 m2 m3 m4 d0 d1 d2 d3 d4 sb
      have h2 := HA.out.put6_17 HO.out B0 B1 B2 B3 B4 m0 m1 m2 m3 m4 d0 d1 d2 d3 d4 sb
      have h3 := HB.out.put6_17 HO.out B0 B1 B2 B3 B4 m0 m1 m2 m3 m4 d0 d1 d2 d3 d4 sb
      have h4 := Blk.put6_far HF.out (g := go) (fun e => HNE.out e.symm) B0 B1 B2 B3 B4 m0 m1 m2 m3 m4 d0 d1 d2 d3 d4 sb
      rw [hp] at hbl h1 h2 h3 h4
      rw [hwm]
      have HBS := Lib.hid (HBS0.out.low hbl)
      have HO := Lib.hid h1
      have HA := Lib.hid h2
      have HB := Lib.hid h3
      have HF := Lib.hid h4
      clear hwm hp hbl h1 h2 h3 h4 HBS0 s0 sf0 s1 sf1 s2 sf2 s3 sf3 s4 sf4 s5 sf5
      obtain ⟨wn, hwn⟩ : ∃ W, W = wm := ⟨_, rfl⟩
      subst hwn
      refine hK.out _ _ HBS.out (fun hHeld => ?_)
      clear hK K
      (try dsimp only [Act.put]); try simp only [pt1, pt2, pt3]
      refine rdy 7 (fun K hK => ?_)
      have s0 := HF.out.cell 0
      have s1 := HF.out.cell 1
      have s2 := HF.out.cell 2
      have s3 := HF.out.cell 3
      have s4 := HF.out.cell 4
      have s5 := HF.out.cell 5
      have sf0 := HF.out.frozen 0
      have sf1 := HF.out.frozen 1
      have sf2 := HF.out.frozen 2
      have sf3 := HF.out.frozen 3
      have sf4 := HF.out.frozen 4
      have sf5 := HF.out.frozen 5
      have HBS0 := HBS
      go_simp
      obtain ⟨wm, hwm⟩ : ∃ W, (((((wn.setCell ⟨gf, 0, none⟩ (.slice E0 o0 p0)).setCell ⟨gf, 1, none⟩ (.slice E1 o1 p1)).setCell ⟨gf, 2, none⟩ (.slice E2 o2 p2)).setCell ⟨gf, 3, none⟩ (.slice E3 o3 p3)).setCell ⟨gf, 4, none⟩ (.slice E4 o4 p4)).setCell ⟨gf, 5, none⟩ (.int .i64 se) = W := ⟨_, rfl⟩
      have hp : put6 wn gf E0 E1 E2 E3 E4 o0 o1 o2 o3 o4 p0 p1 p2 p3 p4 se = wm := hwm
      have hbl : Below (w.heap.size + 1) wn (put6 wn gf E0 E1 E2 E3 E4 o0 o1 o2 o3 o4 p0 p1 p2 p3 p4 se) := put6_below (Below.refl _ _) HLgf.out E0 E1 E2 E3 E4 o0 o1 o2 o3 o4 p0 p1 p2 p3 p4 se
      have h1 := HF.out.put6 E0 E1 E2 E3 E4 o0 o1 o2 o3 o4 p0 p1 p2 p3 p4 se
      have h2 := HA.out.put6_17 HF.out E0 E1 E2 E3 E4 o0 o1 o2 o3 o4 p0 p1 p2 p3 p4 se
      have h3 := HB.out.put6_17 HF.out E0 E1 E2 E3 E4 o0 o1 o2 o3 o4 p0 p1 p2 p3 p4 se
      have h4 := Blk.put6_far HO.out (g := gf) (HNE.out) E0 E1 E2 E3 E4 o0 o1 o2 o3 o4 p0 p1 p2 p3 p4 se
      rw [hp] at hbl h1 h2 h3 h4
      rw [hwm]
      have HBS := Lib.hid (HBS0.out.low hbl)
      have HF := Lib.hid h1
      have HA := Lib.hid h2
      have HB := Lib.hid h3
      have HO := Lib.hid h4
      clear hwm hp hbl h1 h2 h3 h4 HBS0 s0 sf0 s1 sf1 s2 sf2 s3 sf3 s4 sf4 s5 sf5
      obtain ⟨wn, hwn⟩ : ∃ W, W = wm := ⟨_, rfl⟩
      subst hwn
      refine hK.out _ _ HBS.out (fun hHeld => ?_)
      clear hK K
      (try dsimp only [Act.put]); try simp only [pt1, pt2, pt3]
      refine wpAnyH_done (by kernel_rfl) ?_ _
      clear hHeld
      exact hQ _ _ _ _ _ go gf L1 L2 B0 B1 B2 B3 B4 E0 E1 E2 E3 E4 m0 m1 m2 m3 m4 d0 d1 d2 d3 d4 o0 o1 o2 o3 o4 p0 p1 p2 p3 p4 sb se ⟨HBS.out, HO.out, HF.out, HA.out, HB.out, HL1.out, HL2.out, fun b h1 h2 => by have h3 := HSP.out b h1; have h4 := (HB.out.o1.lt b h2).1; omega⟩
  · skip
    have HBS0 := HBS
    have hb := b1' wn (.cells #[.slice none 0 0, .slice none 0 0, .slice none 0 0, .slice none 0 0, .slice none 0 0, .int .i64 0] 28)
    have HBS := Lib.hid (HBS0.out.step hb)
    have HF := Lib.hid (Blk.new wn 28 #[.slice none 0 0, .slice none 0 0, .slice none 0 0, .slice none 0 0, .slice none 0 0, .int .i64 0])
    have hlb : w.heap.size + 1 ≤ wn.heap.size := by have := HBS0.out.b.x.lt; omega
    obtain ⟨gf, hgf⟩ : ∃ k, wn.heap.size = k := ⟨_, rfl⟩
    obtain ⟨wm, hwm⟩ : ∃ W, wn.alloc (.cells #[.slice none 0 0, .slice none 0 0, .slice none 0 0, .slice none 0 0, .slice none 0 0, .int .i64 0] 28) = W := ⟨_, rfl⟩
    rw [hwm] at HBS HF
    rw [hgf] at HF hlb
    have HLgf := Lib.hid hlb
    clear hlb
    go_simp
    clear hgf hwm hb HBS0
    obtain ⟨wn, hwn⟩ : ∃ W, W = wm := ⟨_, rfl⟩
    subst hwn
    refine hK.out _ _ HBS.out (fun hHeld => ?_)
    clear hK K
    (try dsimp only [Act.put]); try simp only [pt1, pt2, pt3]
    refine wpAnyH_ready (rs := [1, 4]) (by kernel_rfl) (by simp) (AllReadyH.cons (op_of rfl) (fun K hK => ?_) (AllReadyH.cons (op_of rfl) (fun K hK => ?_) AllReadyH.nil))
    · skip
      have HBS0 := HBS
      obtain ⟨L1, hL1⟩ : ∃ k, wn.heap.size = k := ⟨_, rfl⟩
      have HL1 : Hid (w.heap.size + 1 ≤ L1) := Lib.hid (by have := HBS0.out.b.x.lt; omega)
      obtain ⟨wo, hwo⟩ : ∃ W, W = wn := ⟨_, rfl⟩
      go_simp
      refine (HCP.out _ HBS0.out.b).mono ?_
      rintro e wn ⟨B0, B1, B2, B3, B4, m0, m1, m2, m3, m4, d0, d1, d2, d3, d4, sb, rfl, hoa, hb⟩
      have HBS := Lib.hid (HBS0.out.step hb)
      have HF := Lib.hid (HF.out.below hb HF.out.lt)
      rw [hL1] at hoa
      have HA := Lib.hid hoa
      clear hoa hb HBS0 hL1 hwo
      refine hK.out _ _ HBS.out (fun hHeld => ?_)
      clear hK K
      (try dsimp only [Act.put]); try simp only [pt1, pt2, pt3]
      refine wpAnyH_ready (rs := [3, 4]) (by kernel_rfl) (by simp) (AllReadyH.cons (op_of rfl) (fun K hK => ?_) (AllReadyH.cons (op_of rfl) (fun K hK => ?_) AllReadyH.nil))
      · skip
        have HBS0 := HBS
        obtain ⟨L2, hL2⟩ : ∃ k, wn.heap.size = k := ⟨_, rfl⟩
        have HL2 : Hid (w.heap.size + 1 ≤ L2) := Lib.hid (by have := HBS0.out.b.x.lt; omega)
        have HSP : Hid (∀ b, (Value.slice B1 m1 d1).ownBlock = some b → b < L2) := Lib.hid (fun b hb => by rw [← hL2]; exact (HA.out.o1.lt b hb).2)
        obtain ⟨wo, hwo⟩ : ∃ W, W = wn := ⟨_, rfl⟩
        go_simp
        refine (HCP.out _ HBS0.out.b).mono ?_
        rintro e wn ⟨E0, E1, E2, E3, E4, o0, o1, o2, o3, o4, p0, p1, p2, p3, p4, se, rfl, hoa, hb⟩
        have HBS := Lib.hid (HBS0.out.step hb)
        have HA := Lib.hid (HA.out.step hb)
        have HF := Lib.hid (HF.out.below hb HF.out.lt)
        rw [hL2] at hoa
        have HB := Lib.hid hoa
        clear hoa hb HBS0 hL2 hwo
        refine hK.out _ _ HBS.out (fun hHeld => ?_)
        clear hK K
        (try dsimp only [Act.put]); try simp only [pt1, pt2, pt3]
        refine rdy 4 (fun K hK => ?_)
        have HBS0 := HBS
        have hb := b1' wn (.cells #[.slice none 0 0, .slice none 0 0, .slice none 0 0, .slice none 0 0, .slice none 0 0, .int .i64 0] 28)
        have HBS := Lib.hid (HBS0.out.step hb)
        have hlo := HF.out.lt
        have HA := Lib.hid (HA.out.step hb)
        have HB := Lib.hid (HB.out.step hb)
        have HF := Lib.hid (HF.out.below hb HF.out.lt)
        have HO := Lib.hid (Blk.new wn 28 #[.slice none 0 0, .slice none 0 0, .slice none 0 0, .slice none 0 0, .slice none 0 0, .int .i64 0])
        have hlb : w.heap.size + 1 ≤ wn.heap.size := by have := HBS0.out.b.x.lt; omega
        obtain ⟨go, hgo⟩ : ∃ k, wn.heap.size = k := ⟨_, rfl⟩
        obtain ⟨wm, hwm⟩ : ∃ W, wn.alloc (.cells #[.slice none 0 0, .slice none 0 0, .slice none 0 0, .slice none 0 0, .slice none 0 0, .int .i64 0] 28) = W := ⟨_, rfl⟩
        rw [hwm] at HBS HA HB HF HO
        rw [hgo] at HO hlb hlo
        have HLgo := Lib.hid hlb
        have HNE : Hid (go ≠ gf) := Lib.hid (by omega)
        clear hlo
        clear hlb
        go_simp
        clear hgo hwm hb HBS0
        obtain ⟨wn, hwn⟩ : ∃ W, W = wm := ⟨_, rfl⟩
        subst hwn
        refine hK.out _ _ HBS.out (fun hHeld => ?_)
        clear hK K
        (try dsimp only [Act.put]); try simp only [pt1, pt2, pt3]
        refine rdy 6 (fun K hK => ?_)
        have s0 := HO.out.cell 0
        have s1 := HO.out.cell 1
        have s2 := HO.out.cell 2
        have s3 := HO.out.cell 3
        have s4 := HO.out.cell 4
        have s5 := HO.out.cell 5
        have sf0 := HO.out.frozen 0
        have sf1 := HO.out.frozen 1
        have sf2 := HO.out.frozen 2
        have sf3 := HO.out.frozen 3
        have sf4 := HO.out.frozen 4
        have sf5 := HO.out.frozen 5
        have HBS0 := HBS
        go_simp
        obtain ⟨wm, hwm⟩ : ∃ W, (((((wn.setCell ⟨go, 0, none⟩ (.slice B0 m0 d0)).setCell ⟨go, 1, none⟩ (.slice B1 m1 d1)).setCell ⟨go, 2, none⟩ (.slice B2 m2 d2)).setCell ⟨go, 3, none⟩ (.slice B3 m3 d3)).setCell ⟨go, 4, none⟩ (.slice B4 m4 d4)).setCell ⟨go, 5, none⟩ (.int .i64 sb) = W := ⟨_, rfl⟩
        have hp : put6 wn go B0 B1 B2 B3 B4 m0 m1 m2 m3 m4 d0 d1 d2 d3 d4 sb = wm := hwm
        have hbl : Below (w.heap.size + 1) wn (put6 wn go B0 B1 B2 B3 B4 m0 m1 m2 m3 m4 d0 d1 d2 d3 d4 sb) := put6_below (Below.refl _ _) HLgo.out B0 B1 B2 B3 B4 m0 m1 m2 m3 m4 d0 d1 d2 d3 d4 sb
        have h1 := HO.out.put6 B0 B1 B2 B3 B4 m0 m1 m2 m3 m4 d0 d1 d2 d3 d4 sb
        have h2 := HA.out.put6_17 HO.out B0 B1 B2 B3 B4 m0 m1 m2 m3 m4 d0 d1 d2 d3 d4 sb
        have h3 := HB.out.put6_17 HO.out B0 B1 B2 B3 B4 m0 m1 m2 m3 m4 d0 d1 d2 d3 d4 sb
        have h4 := Blk.put6_far HF.out (g := go) (fun e => HNE.out e.symm) B0 B1 B2 B3 B4 m0 m1 m2 m3 m4 d0 d1 d2 d3 d4 sb
        rw [hp] at hbl h1 h2 h3 h4
        rw [hwm]
        have HBS := Lib.hid (HBS0.out.low hbl)
        have HO := Lib.hid h1
        have HA := Lib.hid h2
        have HB := Lib.hid h3
        have HF := Lib.hid h4
        clear hwm hp hbl h1 h2 h3 h4 HBS0 s0 sf0 s1 sf1 s2 sf2 s3 sf3 s4 sf4 s5 sf5
        obtain ⟨wn, hwn⟩ : ∃ W, W = wm := ⟨_, rfl⟩
        subst hwn
        refine hK.out _ _ HBS.out (fun hHeld => ?_)
        clear hK K
        (try dsimp only [Act.put]); try simp only [pt1, pt2, pt3]
        refine rdy 7 (fun K hK => ?_)
        have s0 := HF.out.cell 0
        have s1 := HF.out.cell 1
        have s2 := HF.out.cell 2
        have s3 := HF.out.cell 3
        have s4 := HF.out.cell 4
        have s5 := HF.out.cell 5
        have sf0 := HF.out.frozen 0
        have sf1 := HF.out.frozen 1
        have sf2 := HF.out.frozen 2
        have sf3 := HF.out.frozen 3
        have sf4 := HF.out.frozen 4
        have sf5 := HF.out.frozen 5
        have HBS0 := HBS
        go_simp
        obtain ⟨wm, hwm⟩ : ∃ W, (((((wn.setCell ⟨gf, 0, none⟩ (.slice E0 o0 p0)).setCell ⟨gf, 1, none⟩ (.slice E1 o1 p1)).setCell ⟨gf, 2, none⟩ (.slice E2 o2 p2)).setCell ⟨gf, 3, none⟩ (.slice E3 o3 p3)).setCell ⟨gf, 4, none⟩ (.slice E4 o4 p4)).setCell ⟨gf, 5, none⟩ (.int .i64 se) = W := ⟨_, rfl⟩
        have hp : put6 wn gf E0 E1 E2 E3 E4 o0 o1 o2 o3 o4 p0 p1 p2 p3 p4 se = wm := hwm
        have hbl : Below (w.heap.size + 1) wn (put6 wn gf E0 E1 E2 E3 E4 o0 o1 o2 o3 o4 p0 p1 p2 p3 p4 se) := put6_below (Below.refl _ _) HLgf.out E0 E1 E2 E3 E4 o0 o1 o2 o3 o4 p0 p1 p2 p3 p4 se
        have h1 := HF.out.put6 E0 E1 E2 E3 E4 o0 o1 o2 o3 o4 p0 p1 p2 p3 p4 se
        have h2 := HA.out.put6_17 HF.out E0 E1 E2 E3 E4 o0 o1 o2 o3 o4 p0 p1 p2 p3 p4 se
        have h3 := HB.out.put6_17 HF.out E0 E1 E2 E3 E4 o0 o1 o2 o3 o4 p0 p1 p2 p3 p4 se
        have h4 := Blk.put6_far HO.out (g := gf) (HNE.out) E0 E1 E2 E3 E4 o0 o1 o2 o3 o4 p0 p1 p2 p3 p4 se
        rw [hp] at hbl h1 h2 h3 h4
        rw [hwm]
        have HBS := Lib.hid (HBS0.out.low hbl)
        have HF := Lib.hid h1
        have HA := Lib.hid h2
        have HB := Lib.hid h3
        have HO := Lib.hid h4
        clear hwm hp hbl h1 h2 h3 h4 HBS0 s0 sf0 s1 sf1 s2 sf2 s3 sf3 s4 sf4 s5 sf5
        obtain ⟨wn, hwn⟩ : ∃ W, W = wm := ⟨_, rfl⟩
        subst hwn
        refine hK.out _ _ HBS.out (fun hHeld => ?_)
        clear hK K
        (try dsimp only [Act.put]); try simp only [pt1, pt2, pt3]
        refine wpAnyH_done (by kernel_rfl) ?_ _
        clear hHeld
        exact hQ _ _ _ _ _ go gf L1 L2 B0 B1 B2 B3 B4 E0 E1 E2 E3 E4 m0 m1 m2 m3 m4 d0 d1 d2 d3 d4 o0 o1 o2 o3 o4 p0 p1 p2 p3 p4 sb se ⟨HBS.out, HO.out, HF.out, HA.out, HB.out, HL1.out, HL2.out, fun b h1 h2 => by have h3 := HSP.out b h1; have h4 := (HB.out.o1.lt b h2).1; omega⟩
      · skip
        have HBS0 := HBS
        have hb := b1' wn (.cells #[.slice none 0 0, .slice none 0 0, .slice none 0 0, .slice none 0 0, .slice none 0 0, .int .i64 0] 28)
        have HBS := Lib.hid (HBS0.out.step hb)
        have hlo := HF.out.lt
        have HA := Lib.hid (HA.out.step hb)
        have HF := Lib.hid (HF.out.below hb HF.out.lt)
        have HO := Lib.hid (Blk.new wn 28 #[.slice none 0 0, .slice none 0 0, .slice none 0 0, .slice none 0 0, .slice none 0 0, .int .i64 0])
        have hlb : w.heap.size + 1 ≤ wn.heap.size := by have := HBS0.out.b.x.lt; omega
        obtain ⟨go, hgo⟩ : ∃ k, wn.heap.size = k := ⟨_, rfl⟩
        obtain ⟨wm, hwm⟩ : ∃ W, wn.alloc (.cells #[.slice none 0 0, .slice none 0 0, .slice none 0 0, .slice none 0 0, .slice none 0 0, .int .i64 0] 28) = W := ⟨_, rfl⟩
        rw [hwm] at HBS HA HF HO
        rw [hgo] at HO hlb hlo
        have HLgo := Lib.hid hlb
        have HNE : Hid (go ≠ gf) := Lib.hid (by omega)
        clear hlo
        clear hlb
        go_simp
        clear hgo hwm hb HBS0
        obtain ⟨wn, hwn⟩ : ∃ W, W = wm := ⟨_, rfl⟩
        subst hwn
        refine hK.out _ _ HBS.out (fun hHeld => ?_)
        clear hK K
        (try dsimp only [Act.put]); try simp only [pt1, pt2, pt3]
        refine rdy 3 (fun K hK => ?_)
        have HBS0 := HBS
        obtain ⟨L2, hL2⟩ : ∃ k, wn.heap.size = k := ⟨_, rfl⟩
        have HL2 : Hid (w.heap.size + 1 ≤ L2) := Lib.hid (by have := HBS0.out.b.x.lt; omega)
        have HSP : Hid (∀ b, (Value.slice B1 m1 d1).ownBlock = some b → b < L2) := Lib.hid (fun b hb => by rw [← hL2]; exact (HA.out.o1.lt b hb).2)
        obtain ⟨wo, hwo⟩ : ∃ W, W = wn := ⟨_, rfl⟩
        go_simp
        refine (HCP.out _ HBS0.out.b).mono ?_
        rintro e wn ⟨E0, E1, E2, E3, E4, o0, o1, o2, o3, o4, p0, p1, p2, p3, p4, se, rfl, hoa, hb⟩
        have HBS := Lib.hid (HBS0.out.step hb)
        have HA := Lib.hid (HA.out.step hb)
        have HO := Lib.hid (HO.out.below hb HO.out.lt)
        have HF := Lib.hid (HF.out.below hb HF.out.lt)
        rw [hL2] at hoa
        have HB := Lib.hid hoa
        clear hoa hb HBS0 hL2 hwo
        refine hK.out _ _ HBS.out (fun hHeld => ?_)
        clear hK K
        (try dsimp only [Act.put]); try simp only [pt1, pt2, pt3]
        refine rdy 6 (fun K hK => ?_)
        have s0 := HO.out.cell 0
        have s1 := HO.out.cell 1
        have s2 := HO.out.cell 2
        have s3 := HO.out.cell 3
        have s4 := HO.out.cell 4
        have s5 := HO.out.cell 5
        have sf0 := HO.out.frozen 0
        have sf1 := HO.out.frozen 1
        have sf2 := HO.out.frozen 2
        have sf3 := HO.out.frozen 3
        have sf4 := HO.out.frozen 4
        have sf5 := HO.out.frozen 5
        have HBS0 := HBS
        go_simp
        obtain ⟨wm, hwm⟩ : ∃ W, (((((wn.setCell ⟨go, 0, none⟩ (.slice B0 m0 d0)).setCell ⟨go, 1, none⟩ (.slice B1 m1 d1)).setCell ⟨go, 2, none⟩ (.slice B2 m2 d2)).setCell ⟨go, 3, none⟩ (.slice B3 m3 d3)).setCell ⟨go, 4, none⟩ (.slice B4 m4 d4)).setCell ⟨go, 5, none⟩ (.int .i64 sb) = W := ⟨_, rfl⟩
        have hp : put6 wn go B0 B1 B2 B3 B4 m0 m1 m2 m3 m4 d0 d1 d2 d3 d4 sb = wm := hwm
        have hbl : Below (w.heap.size + 1) wn (put6 wn go B0 B1 B2 B3 B4 m0 m1 m2 m3 m4 d0 d1 d2 d3 d4 sb) := put6_below (Below.refl _ _) HLgo.out B0 B1 B2 B3 B4 m0 m1 m2 m3 m4 d0 d1 d2 d3 d4 sb
        have h1 := HO.out.put6 B0 B1 B2 B3 B4 m0 m1 m2 m3 m4 d0 d1 d2 d3 d4 sb
        have h2 := HA.out.put6_17 HO.out B0 B1 B2 B3 B4 m0 m1 m2 m3 m4 d0 d1 d2 d3 d4 sb
        have h3 := HB.out.put6_17 HO.out B0 B1 B2 B3 B4 m0 m1 m2 m3 m4 d0 d1 d2 d3 d4 sb
        have h4 := Blk.put6_far HF.out (g := go) (fun e => HNE.out e.symm) B0 B1 B2 B3 B4 m0 m1 m2 m3 m4 d0 d1 d2 d3 d4 sb
        rw [hp] at hbl h1 h2 h3 h4
        rw [hwm]
        have HBS := Lib.hid (HBS0.out.low hbl)
        have HO := Lib.hid h1
        have HA := Lib.hid h2
        have HB := Lib.hid h3
        have HF := Lib.hid h4
        clear hwm hp hbl h1 h2 h3 h4 HBS0 s0 sf0 s1 sf1 s2 sf2 s3 sf3 s4 sf4 s5 sf5
        obtain ⟨wn, hwn⟩ : ∃ W, W = wm := ⟨_, rfl⟩
        subst hwn
        refine hK.out _ _ HBS.out (fun hHeld => ?_)
        clear hK K
        (try dsimp only [Act.put]); try simp only [pt1, pt2, pt3]
        refine rdy 7 (fun K hK => ?_)
        have s0 := HF.out.cell 0
        have s1 := HF.out.cell 1
        have s2 := HF.out.cell 2
        have s3 := HF.out.cell 3
        have s4 := HF.out.cell 4
        have s5 := HF.out.cell 5
        have sf0 := HF.out.frozen 0
        have sf1 := HF.out.frozen 1
        have sf2 := HF.out.frozen 2
        have sf3 := HF.out.frozen 3
        have sf4 := HF.out.frozen 4
        have sf5 := HF.out.frozen 5
        have HBS0 := HBS
        go_simp
        obtain ⟨wm, hwm⟩ : ∃ W, (((((wn.setCell ⟨gf, 0, none⟩ (.slice E0 o0 p0)).setCell ⟨gf, 1, none⟩ (.slice E1 o1 p1)).setCell ⟨gf, 2, none⟩ (.slice E2 o2 p2)).setCell ⟨gf, 3, none⟩ (.slice E3 o3 p3)).setCell ⟨gf, 4, none⟩ (.slice E4 o4 p4)).setCell ⟨gf, 5, none⟩ (.int .i64 se) = W := ⟨_, rfl⟩
        have hp : put6 wn gf E0 E1 E2 E3 E4 o0 o1 o2 o3 o4 p0 p1 p2 p3 p4 se = wm := hwm
        have hbl : Below (w.heap.size + 1) wn (put6 wn gf E0 E1 E2 E3 E4 o0 o1 o2 o3 o4 p0 p1 p2 p3 p4 se) := put6_below (Below.refl _ _) HLgf.out E0 E1 E2 E3 E4 o0 o1 o2 o3 o4 p0 p1 p2 p3 p4 se
        have h1 := HF.out.put6 E0 E1 E2 E3 E4 o0 o1 o2 o3 o4 p0 p1 p2 p3 p4 se
        have h2 := HA.out.put6_17 HF.out E0 E1 E2 E3 E4 o0 o1 o2 o3 o4 p0 p1 p2 p3 p4 se
        have h3 := HB.out.put6_17 HF.out E0 E1 E2 E3 E4 o0 o1 o2 o3 o4 p0 p1 p2 p3 p4 se
        have h4 := Blk.put6_far HO.out (g := gf) (HNE.out) E0 E1 E2 E3 E4 o0 o1 o2 o3 o4 p0 p1 p2 p3 p4 se
        rw [hp] at hbl h1 h2 h3 h4
        rw [hwm]
        have HBS := Lib.hid (HBS0.out.low hbl)
        have HF := Lib.hid h1
        have HA := Lib.hid h2
        have HB := Lib.hid h3
        have HO := Lib.hid h4
        clear hwm hp hbl h1 h2 h3 h4 HBS0 s0 sf0 s1 sf1 s2 sf2 s3 sf3 s4 sf4 s5 sf5
        obtain ⟨wn, hwn⟩ : ∃ W, W = wm := ⟨_, rfl⟩
        subst hwn
        refine hK.out _ _ HBS.out (fun hHeld => ?_)
        clear hK K
        (try dsimp only [Act.put]); try simp only [pt1, pt2, pt3]
        refine wpAnyH_done (by kernel_rfl) ?_ _
        clear hHeld
        exact hQ _ _ _ _ _ go gf L1 L2 B0 B1 B2 B3 B4 E0 E1 E2 E3 E4 m0 m1 m2 m3 m4 d0 d1 d2 d3 d4 o0 o1 o2 o3 o4 p0 p1 p2 p3 p4 sb se ⟨HBS.out, HO.out, HF.out, HA.out, HB.out, HL1.out, HL2.out, fun b h1 h2 => by have h3 := HSP.out b h1; have h4 := (HB.out.o1.lt b h2).1; omega⟩
    · skip
      have HBS0 := HBS
      have hb := b1' wn (.cells #[.slice none 0 0, .slice none 0 0, .slice none 0 0, .slice none 0 0, .slice none 0 0, .int .i64 0] 28)
      have HBS := Lib.hid (HBS0.out.step hb)
      have hlo := HF.out.lt
      have HF := Lib.hid (HF.out.below hb HF.out.lt)
      have HO := Lib.hid (Blk.new wn 28 #[.slice none 0 0, .slice none 0 0, .slice none 0 0, .slice none 0 0, .slice none 0 0, .int .i64 0])
      have hlb : w.heap.size + 1 ≤ wn.heap.size := by have := HBS0.out.b.x.lt; omega
      obtain ⟨go, hgo⟩ : ∃ k, wn.heap.size = k := ⟨_, rfl⟩
      obtain ⟨wm, hwm⟩ : ∃ W, wn.alloc (.cells #[.slice none 0 0, .slice none 0 0, .slice none 0 0, .slice none 0 0, .slice none 0 0, .int .i64 0] 28) = W := ⟨_, rfl⟩
      rw [hwm] at HBS HF HO
      rw [hgo] at HO hlb hlo
      have HLgo := Lib.hid hlb
      have HNE : Hid (go ≠ gf) := Lib.hid (by omega)
      clear hlo
      clear hlb
      go_simp
      clear hgo hwm hb HBS0
      obtain ⟨wn, hwn⟩ : ∃ W, W = wm := ⟨_, rfl⟩
      subst hwn
      refine hK.out _ _ HBS.out (fun hHeld => ?_)
      clear hK K
      (try dsimp only [Act.put]); try simp only [pt1, pt2, pt3]
      refine rdy 1 (fun K hK => ?_)
      have HBS0 := HBS
      obtain ⟨L1, hL1⟩ : ∃ k, wn.heap.size = k := ⟨_, rfl⟩
      have HL1 : Hid (w.heap.size + 1 ≤ L1) := Lib.hid (by have := HBS0.out.b.x.lt; omega)
      obtain ⟨wo, hwo⟩ : ∃ W, W = wn := ⟨_, rfl⟩
      go_simp
      refine (HCP.out _ HBS0.out.b).mono ?_
      rintro e wn ⟨B0, B1, B2, B3, B4, m0, m1, m2, m3, m4, d0, d1, d2, d3, d4, sb, rfl, hoa, hb⟩
      have HBS := Lib.hid (HBS0.out.step hb)
      have HO := Lib.hid (HO.out.below hb HO.out.lt)
      have HF := Lib.hid (HF.out.below hb HF.out.lt)
      rw [hL1] at hoa
      have HA := Lib.hid hoa
      clear hoa hb HBS0 hL1 hwo
      refine hK.out _ _ HBS.out (fun hHeld => ?_)
      clear hK K
      (try dsimp only [Act.put]); try simp only [pt1, pt2, pt3]
      refine rdy 3 (fun K hK => ?_)
      have HBS0 := HBS
      obtain ⟨L2, hL2⟩ : ∃ k, wn.heap.size = k := ⟨_, rfl⟩
      have HL2 : Hid (w.heap.size + 1 ≤ L2) := Lib.hid (by have := HBS0.out.b.x.lt; omega)
      have HSP : Hid (∀ b, (Value.slice B1 m1 d1).ownBlock = some b → b < L2) := Lib.hid (fun b hb => by rw [← hL2]; exact (HA.out.o1.lt b hb).2)
      obtain ⟨wo, hwo⟩ : ∃ W, W = wn := ⟨_, rfl⟩
      go_simp
      refine (HCP.out _ HBS0.out.b).mono ?_
      rintro e wn ⟨E0, E1, E2, E3, E4, o0, o1, o2, o3, o4, p0, p1, p2, p3, p4, se, rfl, hoa, hb⟩
      have HBS := Lib.hid (HBS0.out.step hb)
      have HA := Lib.hid (HA.out.step hb)
      have HO := Lib.hid (HO.out.below hb HO.out.lt)
      have HF := Lib.hid (HF.out.below hb HF.out.lt)
      rw [hL2] at hoa
      have HB := Lib.hid hoa
      clear hoa hb HBS0 hL2 hwo
      refine hK.out _ _ HBS.out (fun hHeld => ?_)
      clear hK K
      (try dsimp only [Act.put]); try simp only [pt1, pt2, pt3]
      refine rdy 6 (fun K hK => ?_)
      have s0 := HO.out.cell 0
      have s1 := HO.out.cell 1
      have s2 := HO.out.cell 2
      have s3 := HO.out.cell 3
      have s4 := HO.out.cell 4
      have s5 := HO.out.cell 5
      have sf0 := HO.out.frozen 0
      have sf1 := HO.out.frozen 1
      have sf2 := HO.out.frozen 2
      have sf3 := HO.out.frozen 3
      have sf4 := HO.out.frozen 4
      have sf5 := HO.out.frozen 5
      have HBS0 := HBS
      go_simp
      obtain ⟨wm, hwm⟩ : ∃ W, (((((wn.setCell ⟨go, 0, none⟩ (.slice B0 m0 d0)).setCell ⟨go, 1, none⟩ (.slice B1 m1 d1)).setCell ⟨go, 2, none⟩ (.slice B2 m2 d2)).setCell ⟨go, 3, none⟩ (.slice B3 m3 d3)).setCell ⟨go, 4, none⟩ (.slice B4 m4 d4)).setCell ⟨go, 5, none⟩ (.int .i64 sb) = W := ⟨_, rfl⟩
      have hp : put6 wn go B0 B1 B2 B3 B4 m0 m1 m2 m3 m4 d0 d1 d2 d3 d4 sb = wm := hwm
      have hbl : Below (w.heap.size + 1) wn (put6 wn go B0 B1 B2 B3 B4 m0 m1 m2 m3 m4 d0 d1 d2 d3 d4 sb) := put6_below (Below.refl _ _) HLgo.out B0 B1 B2 B3 B4 m0 m1 m2 m3 m4 d0 d1 d2 d3 d4 sb
      have h1 := HO.out.put6 B0 B1 B2 B3 B4 m0 m1 m2 m3 m4 d0 d1 d2 d3 d4 sb
      have h2 := HA.out.put6_17 HO.out B0 B1 B2 B3 B4 m0 m1 m2 m3 m4 d0 d1 d2 d3 d4 sb
      have h3 := HB.out.put6_17 HO.out B0 B1 B2 B3 B4 m0 m1 m2 m3 m4 d0 d1 d2 d3 d4 sb
      have h4 := Blk.put6_far HF.out (g := go) (fun e => HNE.out e.symm) B0 B1 B2 B3 B4 m0 m1 m2 m3 m4 d0 d1 d2 d3 d4 sb
      rw [hp] at hbl h1 h2 h3 h4
      rw [hwm]
      have HBS := Lib.hid (HBS0.out.low hbl)
      have HO := Lib.hid h1
      have HA := Lib.hid h2
      have HB := Lib.hid h3
      have HF := Lib.hid h4
      clear hwm hp hbl h1 h2 h3 h4 HBS0 s0 sf0 s1 sf1 s2 sf2 s3 sf3 s4 sf4 s5 sf5
      obtain ⟨wn, hwn⟩ : ∃ W, W = wm := ⟨_, rfl⟩
      subst hwn
      refine hK.out _ _ HBS.out (fun hHeld => ?_)
      clear hK K
      (try dsimp only [Act.put]); try simp only [pt1, pt2, pt3]
      refine rdy 7 (fun K hK => ?_)
      have s0 := HF.out.cell 0
      have s1 := HF.out.cell 1
      have s2 := HF.out.cell 2
      have s3 := HF.out.cell 3
      have s4 := HF.out.cell 4
      have s5 := HF.out.cell 5
      have sf0 := HF.out.frozen 0
      have sf1 := HF.out.frozen 1
      have sf2 := HF.out.frozen 2
      have sf3 := HF.out.frozen 3
      have sf4 := HF.out.frozen 4
      have sf5 := HF.out.frozen 5
      have HBS0 := HBS
      go_simp
      obtain ⟨wm, hwm⟩ : ∃ W, (((((wn.setCell ⟨gf, 0, none⟩ (.slice E0 o0 p0)).setCell ⟨gf, 1, none⟩ (.slice E1 o1 p1)).setCell ⟨gf, 2, none⟩ (.slice E2 o2 p2)).setCell ⟨gf, 3, none⟩ (.slice E3 o3 p3)).setCell ⟨gf, 4, none⟩ (.slice E4 o4 p4)).setCell ⟨gf, 5, none⟩ (.int .i64 se) = W := ⟨_, rfl⟩
      have hp : put6 wn gf E0 E1 E2 E3 E4 o0 o1 o2 o3 o4 p0 p1 p2 p3 p4 se = wm := hwm
      have hbl : Below (w.heap.size + 1) wn (put6 wn gf E0 E1 E2 E3 E4 o0 o1 o2 o3 o4 p0 p1 p2 p3 p4 se) := put6_below (Below.refl _ _) HLgf.out E0 E1 E2 E3 E4 o0 o1 o2 o3 o4 p0 p1 p2 p3 p4 se
      have h1 := HF.out.put6 E0 E1 E2 E3 E4 o0 o1 o2 o3 o4 p0 p1 p2 p3 p4 se
      have h2 := HA.out.put6_17 HF.out E0 E1 E2 E3 E4 o0 o1 o2 o3 o4 p0 p1 p2 p3 p4 se
      have h3 := HB.out.put6_17 HF.out E0 E1 E2 E3 E4 o0 o1 o2 o3 o4 p0 p1 p2 p3 p4 se
      have h4 := Blk.put6_far HO.out (g := gf) (HNE.out) E0 E1 E2 E3 E4 o0 o1 o2 o3 o4 p0 p1 p2 p3 p4 se
      rw [hp] at hbl h1 h2 h3 h4
      rw [hwm]
      have HBS := Lib.hid (HBS0.out.low hbl)
      have HF := Lib.hid h1
      have HA := Lib.hid h2
      have HB := Lib.hid h3
      have HO := Lib.hid h4
      clear hwm hp hbl h1 h2 h3 h4 HBS0 s0 sf0 s1 sf1 s2 sf2 s3 sf3 s4 sf4 s5 sf5
      obtain ⟨wn, hwn⟩ : ∃ W, W = wm := ⟨_, rfl⟩
      subst hwn
      refine hK.out _ _ HBS.out (fun hHeld => ?_)
      clear hK K
      (try dsimp only [Act.put]); try simp only [pt1, pt2, pt3]
      refine wpAnyH_done (by kernel_rfl) ?_ _
      clear hHeld
      exact hQ _ _ _ _ _ go gf L1 L2 B0 B1 B2 B3 B4 E0 E1 E2 E3 E4 m0 m1 m2 m3 m4 d0 d1 d2 d3 d4 o0 o1 o2 o3 o4 p0 p1 p2 p3 p4 sb se ⟨HBS.out, HO.out, HF.out, HA.out, HB.out, HL1.out, HL2.out, fun b h1 h2 => by have h3 := HSP.out b h1; have h4 := (HB.out.o1.lt b h2).1; omega⟩
end
/-- And two lists of amounts. -/
structure Oi17 (w : World) (S : Sv14) (A0 A1 A2 A3 A4 : Option Addr) (n0 n1 n2 n3 n4 c0 c1 c2 c3 c4 : Nat) (sq : Int) (go gf L1 L2 : Nat) (X Y : Sv14) (B0 B1 B2 B3 B4 E0 E1 E2 E3 E4 : Option Addr) (m0 m1 m2 m3 m4 d0 d1 d2 d3 d4 o0 o1 o2 o3 o4 p0 p1 p2 p3 p4 : Nat) (sb se : Int) (g3 g4 : Nat) (W : World) : Prop where
  o : Of17 w S A0 A1 A2 A3 A4 n0 n1 n2 n3 n4 c0 c1 c2 c3 c4 sq go gf L1 L2 X Y B0 B1 B2 B3 B4 E0 E1 E2 E3 E4 m0 m1 m2 m3 m4 d0 d1 d2 d3 d4 o0 o1 o2 o3 o4 p0 p1 p2 p3 p4 sb se W
  r1 : Ib13 W g3 n0 (fun x => amn17 X ((x : Nat) : Int))
  r2 : Ib13 W g4 n0 (fun x => amn17 Y ((x : Nat) : Int))
theorem Oi17.step {w : World} {S : Sv14} {A0 A1 A2 A3 A4 : Option Addr} {n0 n1 n2 n3 n4 c0 c1 c2 c3 c4 : Nat} {sq : Int} {go gf L1 L2 : Nat} {X Y : Sv14} {B0 B1 B2 B3 B4 E0 E1 E2 E3 E4 : Option Addr} {m0 m1 m2 m3 m4 d0 d1 d2 d3 d4 o0 o1 o2 o3 o4 p0 p1 p2 p3 p4 : Nat} {sb se : Int} {g3 g4 : Nat} {W W' : World} (h : Oi17 w S A0 A1 A2 A3 A4 n0 n1 n2 n3 n4 c0 c1 c2 c3 c4 sq go gf L1 L2 X Y B0 B1 B2 B3 B4 E0 E1 E2 E3 E4 m0 m1 m2 m3 m4 d0 d1 d2 d3 d4 o0 o1 o2 o3 o4 p0 p1 p2 p3 p4 sb se g3 g4 W) (hb : Below W.heap.size W W') : Oi17 w S A0 A1 A2 A3 A4 n0 n1 n2 n3 n4 c0 c1 c2 c3 c4 sq go gf L1 L2 X Y B0 B1 B2 B3 B4 E0 E1 E2 E3 E4 m0 m1 m2 m3 m4 d0 d1 d2 d3 d4 o0 o1 o2 o3 o4 p0 p1 p2 p3 p4 sb se g3 g4 W' := ⟨h.o.step hb, h.r1.below hb h.r1.lt, h.r2.below hb h.r2.lt⟩
theorem ust17_lt {S : Sv14} {i : Int} (h : us14 usT S.T i = true) : 0 ≤ i ∧ i < (S.T.length : Int) := Classical.byContradiction (fun hn => by rw [us14_off def14T hn] at h; cases h)
set_option maxHeartbeats 16000000 in
theorem loff17_yes (A0 A1 A2 A3 A4 : Option Addr) (n0 n1 n2 n3 n4 c0 c1 c2 c3 c4 : Nat) (sq c : Int) (S : Sv14) (w : World) (hs : SA14 w S A0 A1 A2 A3 A4 n0 n1 n2 n3 n4 c0 c1 c2 c3 c4 sq) (hn : Small14 n0 n1 n2 n3 n4) (hf : Fine14 S) (hu : us14 usT S.T c = true) :
    Calls Try.prog 4 #[(.agg #[.slice A0 n0 c0, .slice A1 n1 c1, .slice A2 n2 c2, .slice A3 n3 c3, .slice A4 n4 c4, .int .i64 sq]), .int .i64 c] w fun e w' => e = .returned (.bool true) ∧ Below w.heap.size w w' := by
  have hci := ust17_lt hu
  obtain ⟨k, rfl⟩ : ∃ k : Nat, c = (k : Int) := ⟨c.toNat, by omega⟩
  have hk : k < S.T.length := by omega
  have hku : (gt14 S.T k).u = true := by rw [us14_nat] at hu; exact hu
  have hx0 := Bx14.new hs
  have hxn := hx0.step (Below.refl _ _).drew
  obtain ⟨W1, hW1⟩ : ∃ W, w.alloc (.cells #[.slice A0 n0 c0, .slice A1 n1 c1, .slice A2 n2 c2, .slice A3 n3 c3, .slice A4 n4 c4, .int .i64 sq] 28) = W := ⟨_, rfl⟩
  rw [hW1] at hx0 hxn
  have HX0 := Lib.hid hx0
  have y0 := hx0.x.cell 0
  have y1 := hx0.x.cell 1
  have y2 := hx0.x.cell 2
  have y3 := hx0.x.cell 3
  have y4 := hx0.x.cell 4
  have y5 := hx0.x.cell 5
  have hT := hf.2.2.2.2.1
  have hfX := fine17_set hf hk hku true
  have hfY := fine17_set hf hk hku false
  have HC := Lib.hid (fun W => small14 A0 A1 A2 A3 A4 n0 n1 n2 n3 n4 c0 c1 c2 c3 c4 sq true W (by simp [hn]))
  have HD := Lib.hid (fun W (h : Bx14 w S A0 A1 A2 A3 A4 n0 n1 n2 n3 n4 c0 c1 c2 c3 c4 sq W) => rfine14 (.agg #[.slice A0 n0 c0, .slice A1 n1 c1, .slice A2 n2 c2, .slice A3 n3 c3, .slice A4 n4 c4, .int .i64 sq]) S true W h.st (by simp [hf]))
  have HE := Lib.hid (fun W (h : Bx14 w S A0 A1 A2 A3 A4 n0 n1 n2 n3 n4 c0 c1 c2 c3 c4 sq W) => rTicket14 (.agg #[.slice A0 n0 c0, .slice A1 n1 c1, .slice A2 n2 c2, .slice A3 n3 c3, .slice A4 n4 c4, .int .i64 sq]) S (k : Int) true W h.st hu)
  have HTX := Lib.hid (fun W v (h : St14 W v (set17 S k true)) => tickets17 v _ W h hfX)
  have HTY := Lib.hid (fun W v (h : St14 W v (set17 S k false)) => tickets17 v _ W h hfY)
  have HAX := Lib.hid (fun W v (h : St14 W v (set17 S k true)) => amounts17 v _ W h hfX)
  have HAY := Lib.hid (fun W v (h : St14 W v (set17 S k false)) => amounts17 v _ W h hfY)
  have HLX : Hid ((set17 S k true).T.length = n1) := Lib.hid (by rw [set17_len]; exact hs.l1)
  have HLY : Hid ((set17 S k false).T.length = n1) := Lib.hid (by rw [set17_len]; exact hs.l1)
  have HCX : Hid ((set17 S k true).C.length = n0) := Lib.hid hs.l0
  have HCY : Hid ((set17 S k false).C.length = n0) := Lib.hid hs.l0
  have HOF : Hid (cntb17 (set17 S k false) k = false) := Lib.hid (cntb17_no.2 (cnt17_off hk))
  have HMO : Hid (∀ i, cntb17 (set17 S k false) i = true → cntb17 (set17 S k true) i = true) := Lib.hid (fun i h => cntb17_yes.2 (cnt17_mono hk (cntb17_yes.1 h)))
  have HAM : Hid (∀ x : Int, amn17 (set17 S k false) x ≤ amn17 (set17 S k true) x) := Lib.hid (fun x => by
    have h1 := amt17_mono hk hT x S.T.length
    unfold amn17
    rw [set17_len, set17_len]
    omega)
  have HKS := Lib.hid hk
  have hkn : k < n1 := by have := hs.l1; omega
  have hnb0 := hs.m0
  have hnb1 := hs.m1
  have HSS := Lib.hid hs
  clear hs hx0 hxn hn hf hT hu hci hk hku hfX hfY
  go_enter Try.func4, Try.ntmps4
  go_wp2_with fail
  refine (HC.out _).mono ?_
  rintro e u1 ⟨rfl, hb1⟩
  have HX1 := Lib.hid (HX0.out.step hb1)
  have q0 := HX1.out.x.cell 0
  have q1 := HX1.out.x.cell 1
  have q2 := HX1.out.x.cell 2
  have q3 := HX1.out.x.cell 3
  have q4 := HX1.out.x.cell 4
  have q5 := HX1.out.x.cell 5
  clear hb1 HC hW1 HX0 y0 y1 y2 y3 y4 y5
  go_wp2_with fail
  refine (HD.out _ HX1.out).mono ?_
  rintro e u2 ⟨rfl, hb2⟩
  have HX2 := Lib.hid (HX1.out.step hb2)
  have r0 := HX2.out.x.cell 0
  have r1 := HX2.out.x.cell 1
  have r2 := HX2.out.x.cell 2
  have r3 := HX2.out.x.cell 3
  have r4 := HX2.out.x.cell 4
  have r5 := HX2.out.x.cell 5
  clear hb2 HD HX1 q0 q1 q2 q3 q4 q5
  go_wp2_with fail
  refine (HE.out _ HX2.out).mono ?_
  rintro e u3 ⟨rfl, hb3⟩
  have HX3 : Hid (By16 w S A0 A1 A2 A3 A4 n0 n1 n2 n3 n4 c0 c1 c2 c3 c4 sq u3) := Lib.hid ⟨HX2.out.step hb3, HSS.out⟩
  clear hb3 HE HX2 r0 r1 r2 r3 r4 r5
  go_upto_region 3 with (fail)
  refine copies17 HX3.out (fun _ _ _ _ _ h => h) (fun x28 x29 x30 x31 wn go gf L1 L2 B0 B1 B2 B3 B4 E0 E1 E2 E3 E4 m0 m1 m2 m3 m4 d0 d1 d2 d3 d4 o0 o1 o2 o3 o4 p0 p1 p2 p3 p4 sb se hof => ?_)
  have i0 : (0 : Int) ≤ (k : Int) := by omega
  have i1 : (k : Int) < (n1 : Int) := by omega
  have im : (k : Int) < (m1 : Int) := by have := hof.oa.l1; have := HKS.out; omega
  have io : (k : Int) < (o1 : Int) := by have := hof.ob.l1; have := HKS.out; omega
  obtain ⟨ga, hB, ⟨z4, hz4⟩, hf4, hof4⟩ := hof.on HKS.out true
  have t4 : wn.cell? ⟨go, 1, none⟩ = some (.slice (some ⟨ga, 0, none⟩) m1 d1) := by rw [← hB]; exact hof.vo.cell 1
  obtain ⟨W4, hW4⟩ : ∃ W, wn.setCell ⟨ga, k * 6 + 5, none⟩ (.bool true) = W := ⟨_, rfl⟩
  rw [hW4] at hof4
  obtain ⟨gb, hE, ⟨z5, hz5⟩, hf5, hof5⟩ := hof4.off HKS.out false
  have t5 : W4.cell? ⟨gf, 1, none⟩ = some (.slice (some ⟨gb, 0, none⟩) o1 p1) := by rw [← hE]; exact hof4.vf.cell 1
  obtain ⟨W5, hW5⟩ : ∃ W, W4.setCell ⟨gb, k * 6 + 5, none⟩ (.bool false) = W := ⟨_, rfl⟩
  rw [hW5] at hof5
  have HQ5 := Lib.hid hof5
  clear hof hof4 hof5 hB hE HX3 HSS
  go_upto_region 6 with (fail)
  clear t4 t5 hz4 hz5 hf4 hf5 hW4 hW5
  have HXN : Hid (Of17 w S A0 A1 A2 A3 A4 n0 n1 n2 n3 n4 c0 c1 c2 c3 c4 sq go gf L1 L2 (set17 S k true) (set17 S k false) B0 B1 B2 B3 B4 E0 E1 E2 E3 E4 m0 m1 m2 m3 m4 d0 d1 d2 d3 d4 o0 o1 o2 o3 o4 p0 p1 p2 p3 p4 sb se W5.drew) := Lib.hid (HQ5.out.step (Below.refl _ _).drew)
  clear HQ5
  obtain ⟨wn, hwn⟩ : ∃ W, W5.drew = W := ⟨_, rfl⟩
  rw [hwn] at HXN
  go_wp2_with fail
  refine wp_region_held_drew (S := Of17 w S A0 A1 A2 A3 A4 n0 n1 n2 n3 n4 c0 c1 c2 c3 c4 sq go gf L1 L2 (set17 S k true) (set17 S k false) B0 B1 B2 B3 B4 E0 E1 E2 E3 E4 m0 m1 m2 m3 m4 d0 d1 d2 d3 d4 o0 o1 o2 o3 o4 p0 p1 p2 p3 p4 sb se) (by kernel_rfl) (by rw [hwn]; exact HXN.out) (fun hHeld => ?_)
  rw [hwn] at hHeld ⊢
  clear hwn
  have HBS := HXN
  refine tk 0 (v := ?_) (fun W hS => ?_) ?_
  rotate_left
  · try dsimp only at hS
    have z0 := hS.vo.cell 0
    have z1 := hS.vo.cell 1
    have z2 := hS.vo.cell 2
    have z3 := hS.vo.cell 3
    have z4 := hS.vo.cell 4
    have z5 := hS.vo.cell 5
    go_simp
    try with_reducible rfl
  (try dsimp only [Act.put]); try simp only [pt1, pt2, pt3]
  refine tk 2 (v := ?_) (fun W hS => ?_) ?_
  rotate_left
  · try dsimp only at hS
    have z0 := hS.vf.cell 0
    have z1 := hS.vf.cell 1
    have z2 := hS.vf.cell 2
    have z3 := hS.vf.cell 3
    have z4 := hS.vf.cell 4
    have z5 := hS.vf.cell 5
    go_simp
    try with_reducible rfl
  (try dsimp only [Act.put]); try simp only [pt1, pt2, pt3]
  refine rdy 1 (fun K hK => ?_)
  have HBS0 := HBS
  go_simp
  refine (HTX.out _ _ HBS0.out.so).mono ?_
  rintro e wn ⟨g1, rfl, _, hr, hb⟩
  have HBS := Lib.hid (HBS0.out.step hb)
  rw [HLX.out] at hr ⊢
  have HR1 := Lib.hid hr
  clear hr
  clear hb HBS0
  refine hK.out _ _ HBS.out (fun hHeld => ?_)
  clear hK K
  (try dsimp only [Act.put]); try simp only [pt1, pt2, pt3]
  refine rdy 3 (fun K hK => ?_)
  have HBS0 := HBS
  go_simp
  refine (HTY.out _ _ HBS0.out.sf).mono ?_
  rintro e wn ⟨g2, rfl, _, hr, hb⟩
  have HBS := Lib.hid (HBS0.out.step hb)
  rw [HLY.out] at hr ⊢
  have HR1 := Lib.hid (HR1.out.step hb)
  have HR2 := Lib.hid hr
  clear hr
  clear hb HBS0
  refine hK.out _ _ HBS.out (fun hHeld => ?_)
  clear hK K
  (try dsimp only [Act.put]); try simp only [pt1, pt2, pt3]
  refine rdy 4 (fun K hK => ?_)
  go_simp
  refine hK.out _ _ HBS.out (fun hHeld => ?_)
  clear hK K
  (try dsimp only [Act.put]); try simp only [pt1, pt2, pt3]
  refine rdy 5 (fun K hK => ?_)
  go_simp
  refine hK.out _ _ HBS.out (fun hHeld => ?_)
  clear hK K
  (try dsimp only [Act.put]); try simp only [pt1, pt2, pt3]
  refine wpAnyH_done (by kernel_rfl) ?_ _
  clear hHeld
  clear HXN HTX HTY
  have hself : ∀ i : Int, (i != i) = false := fun i => by simp
  have z1 := HBS.out.b.b.x.cell 1
  have s0 := (HR2.out.cells hkn).1
  rw [HOF.out] at s0
  have HQ := HBS
  clear HBS HOF HLX HLY
  go_wp2_with fail
  clear z1 s0
  go_loopw [9] (fun i wr => ∃ j : Nat, i = .int .i64 (j : Int) ∧ j ≤ n1 ∧ Hid (Bb13 wr g1 n1 (cntb17 (set17 S k true))) ∧ Hid (Bb13 wr g2 n1 (cntb17 (set17 S k false))) ∧ Hid (Of17 w S A0 A1 A2 A3 A4 n0 n1 n2 n3 n4 c0 c1 c2 c3 c4 sq go gf L1 L2 (set17 S k true) (set17 S k false) B0 B1 B2 B3 B4 E0 E1 E2 E3 E4 m0 m1 m2 m3 m4 d0 d1 d2 d3 d4 o0 o1 o2 o3 o4 p0 p1 p2 p3 p4 sb se wr)) (fun i _ => n1 - (intOf i).toNat)
  case atStart => exact ⟨0, rfl, by omega, HR1, HR2, HQ⟩
  case round =>
    clear HR1 HR2 HQ i0 i1
    obtain ⟨j, rfl, hj, HR1, HR2, HQ⟩ := hrel
    by_cases hjn : j < n1
    · have i0 : (0 : Int) ≤ (j : Int) := by omega
      have i1 : (j : Int) < (n1 : Int) := by omega
      have s1 := (HR1.out.cells hjn).1
      have s2 := (HR2.out.cells hjn).1
      have hmo := HMO.out j
      obtain ⟨xb, hxb⟩ : ∃ b, cntb17 (set17 S k true) j = b := ⟨_, rfl⟩
      obtain ⟨yb, hyb⟩ : ∃ b, cntb17 (set17 S k false) j = b := ⟨_, rfl⟩
      rw [hxb] at s1 hmo
      rw [hyb] at s2 hmo
      clear hxb hyb
      cases yb with
      | false =>
        clear hmo
        go_wp2_with fail
        go_roundw
        case rel => exact ⟨j + 1, by go_num, by omega, HR1, HR2, HQ⟩
        case measure => simp [intOf]; omega
      | true =>
        obtain rfl : xb = true := hmo rfl
        clear hmo
        go_wp2_with fail
        go_roundw
        case rel => exact ⟨j + 1, by go_num, by omega, HR1, HR2, HQ⟩
        case measure => simp [intOf]; omega
    · obtain rfl : n1 = j := by omega
      have i1 : ¬ (n1 : Int) < (n1 : Int) := by omega
      clear HR1 HR2 HMO
      go_upto_region 14 with (fail)
      have HXN : Hid (Of17 w S A0 A1 A2 A3 A4 n0 n1 n2 n3 n4 c0 c1 c2 c3 c4 sq go gf L1 L2 (set17 S k true) (set17 S k false) B0 B1 B2 B3 B4 E0 E1 E2 E3 E4 m0 m1 m2 m3 m4 d0 d1 d2 d3 d4 o0 o1 o2 o3 o4 p0 p1 p2 p3 p4 sb se wr.drew) := Lib.hid (HQ.out.step (Below.refl _ _).drew)
      clear HQ
      obtain ⟨wn, hwn⟩ : ∃ W, wr.drew = W := ⟨_, rfl⟩
      rw [hwn] at HXN
      go_wp2_with fail
      refine wp_region_held_drew (S := Of17 w S A0 A1 A2 A3 A4 n0 n1 n2 n3 n4 c0 c1 c2 c3 c4 sq go gf L1 L2 (set17 S k true) (set17 S k false) B0 B1 B2 B3 B4 E0 E1 E2 E3 E4 m0 m1 m2 m3 m4 d0 d1 d2 d3 d4 o0 o1 o2 o3 o4 p0 p1 p2 p3 p4 sb se) (by kernel_rfl) (by rw [hwn]; exact HXN.out) (fun hHeld => ?_)
      rw [hwn] at hHeld ⊢
      clear hwn
      have HBS := HXN
      refine tk 0 (v := ?_) (fun W hS => ?_) ?_
      rotate_left
      · try dsimp only at hS
        have z0 := hS.vo.cell 0
        have z1 := hS.vo.cell 1
        have z2 := hS.vo.cell 2
        have z3 := hS.vo.cell 3
        have z4 := hS.vo.cell 4
        have z5 := hS.vo.cell 5
        go_simp
        try with_reducible rfl
      (try dsimp only [Act.put]); try simp only [pt1, pt2, pt3]
      refine tk 2 (v := ?_) (fun W hS => ?_) ?_
      rotate_left
      · try dsimp only at hS
        have z0 := hS.vf.cell 0
        have z1 := hS.vf.cell 1
        have z2 := hS.vf.cell 2
        have z3 := hS.vf.cell 3
        have z4 := hS.vf.cell 4
        have z5 := hS.vf.cell 5
        go_simp
        try with_reducible rfl
      (try dsimp only [Act.put]); try simp only [pt1, pt2, pt3]
      refine rdy 1 (fun K hK => ?_)
      have HBS0 := HBS
      go_simp
      refine (HAX.out _ _ HBS0.out.so).mono ?_
      rintro e wn ⟨g3, rfl, _, hr, hb⟩
      have HBS := Lib.hid (HBS0.out.step hb)
      rw [HCX.out] at hr ⊢
      have HR1 := Lib.hid hr
      clear hr
      clear hb HBS0
      refine hK.out _ _ HBS.out (fun hHeld => ?_)
      clear hK K
      (try dsimp only [Act.put]); try simp only [pt1, pt2, pt3]
      refine rdy 3 (fun K hK => ?_)
      have HBS0 := HBS
      go_simp
      refine (HAY.out _ _ HBS0.out.sf).mono ?_
      rintro e wn ⟨g4, rfl, _, hr, hb⟩
      have HBS := Lib.hid (HBS0.out.step hb)
      rw [HCY.out] at hr ⊢
      have HR1 := Lib.hid (HR1.out.below hb HR1.out.lt)
      have HR2 := Lib.hid hr
      clear hr
      clear hb HBS0
      refine hK.out _ _ HBS.out (fun hHeld => ?_)
      clear hK K
      (try dsimp only [Act.put]); try simp only [pt1, pt2, pt3]
      refine rdy 4 (fun K hK => ?_)
      go_simp
      refine hK.out _ _ HBS.out (fun hHeld => ?_)
      clear hK K
      (try dsimp only [Act.put]); try simp only [pt1, pt2, pt3]
      refine rdy 5 (fun K hK => ?_)
      go_simp
      refine hK.out _ _ HBS.out (fun hHeld => ?_)
      clear hK K
      (try dsimp only [Act.put]); try simp only [pt1, pt2, pt3]
      refine wpAnyH_done (by kernel_rfl) ?_ _
      clear hHeld
      clear HXN HAX HAY
      have HI : Hid (Oi17 w S A0 A1 A2 A3 A4 n0 n1 n2 n3 n4 c0 c1 c2 c3 c4 sq go gf L1 L2 (set17 S k true) (set17 S k false) B0 B1 B2 B3 B4 E0 E1 E2 E3 E4 m0 m1 m2 m3 m4 d0 d1 d2 d3 d4 o0 o1 o2 o3 o4 p0 p1 p2 p3 p4 sb se g3 g4 wn) := Lib.hid ⟨HBS.out, HR1.out, HR2.out⟩
      clear HBS HR1 HR2 HCX HCY i1
      go_wp2_with fail
      go_loopw [12] (fun i wx => ∃ j : Nat, i = .int .i64 (j : Int) ∧ j ≤ n0 ∧ Hid (Oi17 w S A0 A1 A2 A3 A4 n0 n1 n2 n3 n4 c0 c1 c2 c3 c4 sq go gf L1 L2 (set17 S k true) (set17 S k false) B0 B1 B2 B3 B4 E0 E1 E2 E3 E4 m0 m1 m2 m3 m4 d0 d1 d2 d3 d4 o0 o1 o2 o3 o4 p0 p1 p2 p3 p4 sb se g3 g4 wx)) (fun i _ => n0 - (intOf i).toNat)
      case atStart => exact ⟨0, rfl, by omega, HI⟩
      case round =>
        clear HI
        obtain ⟨j, rfl, hj, HI⟩ := hrel
        by_cases hjn : j < n0
        · have i0 : (0 : Int) ≤ (j : Int) := by omega
          have i1 : (j : Int) < (n0 : Int) := by omega
          have hd0 : decide ((n0 : Int) ≤ (j : Int)) = false := by simp; omega
          have hd1 : decide (n0 ≤ j) = false := by simp; omega
          have HJN := Lib.hid hjn
          have ham := HAM.out (j : Int)
          obtain ⟨zx, hzx⟩ : ∃ z, amn17 (set17 S k true) (j : Int) = z := ⟨_, rfl⟩
          obtain ⟨zy, hzy⟩ : ∃ z, amn17 (set17 S k false) (j : Int) = z := ⟨_, rfl⟩
          rw [hzx, hzy] at ham
          have hd2 : decide ((zx : Int) < (zy : Int)) = false := by simp; omega
          have hd3 : decide (zx < zy) = false := by simp; omega
          have HZX := Lib.hid hzx
          have HZY := Lib.hid hzy
          clear hzx hzy ham
          have HXN : Hid (Oi17 w S A0 A1 A2 A3 A4 n0 n1 n2 n3 n4 c0 c1 c2 c3 c4 sq go gf L1 L2 (set17 S k true) (set17 S k false) B0 B1 B2 B3 B4 E0 E1 E2 E3 E4 m0 m1 m2 m3 m4 d0 d1 d2 d3 d4 o0 o1 o2 o3 o4 p0 p1 p2 p3 p4 sb se g3 g4 wr.drew) := Lib.hid (HI.out.step (Below.refl _ _).drew)
          clear HI
          obtain ⟨wn, hwn⟩ : ∃ W, wr.drew = W := ⟨_, rfl⟩
          rw [hwn] at HXN
          go_wp2_with fail
          refine wp_region_held_drew (S := Oi17 w S A0 A1 A2 A3 A4 n0 n1 n2 n3 n4 c0 c1 c2 c3 c4 sq go gf L1 L2 (set17 S k true) (set17 S k false) B0 B1 B2 B3 B4 E0 E1 E2 E3 E4 m0 m1 m2 m3 m4 d0 d1 d2 d3 d4 o0 o1 o2 o3 o4 p0 p1 p2 p3 p4 sb se g3 g4) (by kernel_rfl) (by rw [hwn]; exact HXN.out) (fun hHeld => ?_)
          rw [hwn] at hHeld ⊢
          clear hwn
          have HBS := HXN
          refine tk 0 (v := ?_) (fun W hS => ?_) ?_
          rotate_left
          · (go_simp; try with_reducible rfl)
          (try dsimp only [Act.put]); try simp only [pt1, pt2, pt3]
          refine tk 1 (v := ?_) (fun W hS => ?_) ?_
          rotate_left
          · (go_simp; try with_reducible rfl)
          (try dsimp only [Act.put]); try simp only [pt1, pt2, pt3]
          refine tk 2 (v := ?_) (fun W hS => ?_) ?_
          rotate_left
          · (go_simp; try with_reducible rfl)
          (try dsimp only [Act.put]); try simp only [pt1, pt2, pt3]
          refine tk 3 (v := ?_) (fun W hS => ?_) ?_
          rotate_left
          · (go_simp; try with_reducible rfl)
          (try dsimp only [Act.put]); try simp only [pt1, pt2, pt3]
          refine tk 4 (v := ?_) (fun W hS => ?_) ?_
          rotate_left
          · (go_simp; try with_reducible rfl)
          (try dsimp only [Act.put]); try simp only [pt1, pt2, pt3]
          refine tk 5 (v := ?_) (fun W hS => ?_) ?_
          rotate_left
          · (go_simp; try with_reducible rfl)
          (try dsimp only [Act.put]); try simp only [pt1, pt2, pt3]
          refine tk 6 (v := ?_) (fun W hS => ?_) ?_
          rotate_left
          · (go_simp; try with_reducible rfl)
          (try dsimp only [Act.put]); try simp only [pt1, pt2, pt3]
          refine tk 7 (v := ?_) (fun W hS => ?_) ?_
          rotate_left
          · (go_simp; try with_reducible rfl)
          (try dsimp only [Act.put]); try simp only [pt1, pt2, pt3]
          refine tk 8 (v := ?_) (fun W hS => ?_) ?_
          rotate_left
          · try dsimp only at hS
            have z0 := (hS.r2.cells HJN.out).1
            rw [HZY.out] at z0
            go_simp
            try with_reducible rfl
          (try dsimp only [Act.put]); try simp only [pt1, pt2, pt3]
          refine tk 9 (v := ?_) (fun W hS => ?_) ?_
          rotate_left
          · (go_simp; try with_reducible rfl)
          (try dsimp only [Act.put]); try simp only [pt1, pt2, pt3]
          refine tk 10 (v := ?_) (fun W hS => ?_) ?_
          rotate_left
          · (go_simp; try with_reducible rfl)
          (try dsimp only [Act.put]); try simp only [pt1, pt2, pt3]
          refine tk 11 (v := ?_) (fun W hS => ?_) ?_
          rotate_left
          · (go_simp; try with_reducible rfl)
          (try dsimp only [Act.put]); try simp only [pt1, pt2, pt3]
          refine tk 12 (v := ?_) (fun W hS => ?_) ?_
          rotate_left
          · try dsimp only at hS
            have z0 := (hS.r1.cells HJN.out).1
            rw [HZX.out] at z0
            go_simp
            try with_reducible rfl
          (try dsimp only [Act.put]); try simp only [pt1, pt2, pt3]
          refine tk 13 (v := ?_) (fun W hS => ?_) ?_
          rotate_left
          · (go_simp; try with_reducible rfl)
          (try dsimp only [Act.put]); try simp only [pt1, pt2, pt3]
          refine tk 14 (v := ?_) (fun W hS => ?_) ?_
          rotate_left
          · (go_simp; try with_reducible rfl)
          (try dsimp only [Act.put]); try simp only [pt1, pt2, pt3]
          refine wpAnyH_done (by kernel_rfl) ?_ _
          clear hHeld
          clear HXN
          go_wp2_with fail
          go_roundw
          case rel => exact ⟨j + 1, by go_num, by omega, HBS⟩
          case measure => simp [intOf]; omega
        · obtain rfl : n0 = j := by omega
          have j1 : ¬ (n0 : Int) < (n0 : Int) := by omega
          go_wp2_with fail
          refine (alive17_any _).mono ?_
          rintro e u9 ⟨rfl, hb9⟩
          have HX9 := Lib.hid (HI.out.step hb9)
          clear hb9
          go_wp2_with fail
          go_ret
          exact ⟨rfl, HX9.out.o.b.b.b⟩
theorem liveOff_all (W : World) (A00 A01 A02 A03 A04 : Option Addr) (n00 n01 n02 n03 n04 c00 c01 c02 c03 c04 : Nat) (q0 : Int) (S0 : Sv14) (a1 : Int) (h0 : Small14 n00 n01 n02 n03 n04 → SA14 W S0 A00 A01 A02 A03 A04 n00 n01 n02 n03 n04 c00 c01 c02 c03 c04 q0) (_ : -9223372036854775808 ≤ a1) (_ : a1 ≤ 9223372036854775807) :
    Calls Try.prog 4 #[.agg #[.slice A00 n00 c00, .slice A01 n01 c01, .slice A02 n02 c02, .slice A03 n03 c03, .slice A04 n04 c04, .int .i64 q0], .int .i64 a1] W fun e w' => e = .returned (.bool true) ∧ Below W.heap.size W w' := by
  by_cases hn : Small14 n00 n01 n02 n03 n04
  case neg => exact loff17_no1 A00 A01 A02 A03 A04 n00 n01 n02 n03 n04 c00 c01 c02 c03 c04 q0 a1 S0 W hn
  by_cases hf : Fine14 S0
  case neg => exact loff17_no2 A00 A01 A02 A03 A04 n00 n01 n02 n03 n04 c00 c01 c02 c03 c04 q0 a1 S0 W (h0 hn) hn hf
  cases hu : us14 usT S0.T a1 with
  | false => exact loff17_no3 A00 A01 A02 A03 A04 n00 n01 n02 n03 n04 c00 c01 c02 c03 c04 q0 a1 S0 W (h0 hn) hn hf hu
  | true => exact loff17_yes A00 A01 A02 A03 A04 n00 n01 n02 n03 n04 c00 c01 c02 c03 c04 q0 a1 S0 W (h0 hn) hn hf hu
end Go.Proofs.Ytllcmjdfgbiijaa
