/-
  append(s, make([]uint32, k)...) onto a row of the call's own.
-/
import Derived.Test.YtaifigkbblncpaaGreatDoorNatC
import Derived.Lib.AppendZeros
import Derived.Lib.AppendZerosOnto
namespace Go.Proofs.YtaifigkbblncpaaGreatDoor
open Go.RowKit
set_option maxRecDepth 100000

theorem zeroCells_u32s (k : Nat) : Builtin.zeroCells (Value.int .u32 0).cells k = (u32s (List.replicate k 0)).toArray := by
  apply Array.ext
  · simp [Builtin.zeroCells, u32s, Value.cells]
  · intro i h1 h2
    simp [Builtin.zeroCells, u32s, Value.cells, Nat.mod_one]

section
variable {P : Program} (w : World)
theorem run_append_room_zeros32 (t tn ty e : TypeId) (i : TypeInfo) (ht : P.underlying t = some (.slice e)) (htn : P.underlying tn = some (.int .i64)) (hi : P.info? e = some i) (hz : i.zero = some (.int .u32 0)) (hsz : i.size = 1) (hby : i.bytes = 4)
    (g n cap k : Nat) (cur : Array Value) (hg : w.heap[g]? = some (.cells cur e (0, 0))) (hk : 0 < k) (hb : n + k ≤ 10000000) (hroom : n + k ≤ cap) (hfit : n + k ≤ cur.size) :
    (Builtin.append_ #[t, tn] ty #[.slice (some ⟨g, 0, none⟩) n cap, .int .i64 (k : Int)]).run P w =
      .ok (.slice (some ⟨g, 0, none⟩) (n + k) cap) (w.setRow g (cur.toList.take n ++ u32s (List.replicate k 0) ++ cur.toList.drop (n + k)).toArray) := by
  have hst := run_storeCells_at P g n e (u32s (List.replicate k 0)) 0 cur w hg (by simp [u32s]; omega) (u32s_one _)
  have hlk : (u32s (List.replicate k 0)).length = k := by simp [u32s]
  simp only [Nat.add_zero, hlk] at hst
  have hw : IntKind.i64.wrap (k : Int) = k := by rw [IntKind.wrap_i64]; omega
  have hneg : ¬ ((k : Int) < 0) := by omega
  have hk0 : k ≠ 0 := by omega
  have h48i : ¬ (281474976710656 < (k : Int) * 4) := by omega
  have hzc := zeroCells_u32s k
  simp only [Value.cells] at hzc
  simp [Builtin.append_, run_underlying ht, run_underlying htn, sizeOf, typeInfo, zeroValue, hi, hz, asInt, asIntOf, hw, hneg, hsz, hby, hk0, h48i, hroom, Addr.add_lit, Value.cells, hzc, hst]

/-- The run, whatever the row is. -/
theorem run_append_zeros32 (base : Nat) (t tn ty e : TypeId) (ht : P.underlying t = some (.slice e)) (htn : P.underlying tn = some (.int .i64)) (hinfo : (P.info? e).map (fun i => (i.zero, i.size, i.bytes)) = some (some (.int .u32 0), 1, 4))
    (v : Value) (n k : Nat) (xs : List Nat) (hown : w.ownsRow base e 1 v n (u32s xs)) (hk : 0 < k) (hb : n + k ≤ 10000000) (hbase : base ≤ w.heap.size) :
    ∃ v' w', (Builtin.append_ #[t, tn] ty #[v, .int .i64 (k : Int)]).run P w = .ok v' w' ∧ w'.ownsRow base e 1 v' (n + k) (u32s (xs ++ List.replicate k 0)) ∧ w.grownBy w' v.ownBlock := by
  obtain ⟨i, hi, hz, hsz, hby⟩ := info_parts hinfo
  have hlk : (u32s (List.replicate k 0)).length = k := by simp [u32s]
  have hlen : (u32s (xs ++ List.replicate k 0)).length = (n + k) * 1 := by have := hown.1; rw [u32s_append, List.length_append, hlk]; omega
  have hzs : (Value.int .u32 0).cells.size = 1 := rfl
  have grown : ∀ (old : Nat), old < n + k → ∀ (row : Option Nat),
      (w.drew.alloc (.cells ((u32s xs).toArray ++ Builtin.zeroCells (Value.int .u32 0).cells k ++ Builtin.zeroCells (Value.int .u32 0).cells (grownCap w (n + k) old e - (n + k))) e)).ownsRow base e 1
        (.slice (some ⟨w.heap.size, 0, none⟩) (n + k) (grownCap w (n + k) old e)) (n + k) (u32s (xs ++ List.replicate k 0)) ∧
      w.grownBy (w.drew.alloc (.cells ((u32s xs).toArray ++ Builtin.zeroCells (Value.int .u32 0).cells k ++ Builtin.zeroCells (Value.int .u32 0).cells (grownCap w (n + k) old e - (n + k))) e)) row := by
    intro old ho row
    have hge := grownCap_ge w (n + k) old e
    have hcm : grownCap w (n + k) old e ≤ maxLen := grownCap_le_maxLen w (n + k) old e (by unfold maxLen; omega)
    refine ⟨⟨hlen, .inr ⟨w.heap.size, _, _, rfl, hbase, heap_alloc_new w.drew _, hge, hcm, ?_, ?_⟩⟩, ⟨rfl, rfl, rfl, by simp, fun j hj _ => Below.heap_alloc w.drew _ j hj⟩⟩
    · have := hown.1
      simp only [Array.size_append, List.size_toArray, size_zeroCells, hzs]
      omega
    · rw [u32s_append, zeroCells_u32s k]
      have h1 : ((u32s xs).toArray ++ (u32s (List.replicate k 0)).toArray ++ Builtin.zeroCells (Value.int .u32 0).cells (grownCap w (n + k) old e - (n + k))).toList = (u32s xs ++ u32s (List.replicate k 0)) ++ (Builtin.zeroCells (Value.int .u32 0).cells (grownCap w (n + k) old e - (n + k))).toList := by simp
      rw [h1, ← u32s_append, ← hlen]
      exact List.take_left
  rcases hown.2 with ⟨rfl, rfl⟩ | ⟨g, cap, cur, rfl, hbg, hg, hnc, hcm, hcs, htake⟩
  · have hx : xs = [] := by have := hown.1; rw [u32s_length] at this; exact List.eq_nil_of_length_eq_zero (by omega)
    subst hx
    have hr := Lib.run_append_nil_zeros (P := P) w t tn ty e i (.int .u32 0) .i64 .i64 ht htn hi hz k hk (by omega) (by omega) (by rw [hby]; omega)
    have hgr := grown 0 (by omega) (Value.ownBlock (.slice none 0 0))
    simp only [Nat.zero_add, u32s, List.map_nil, Array.empty_append] at hgr hr ⊢
    exact ⟨_, _, hr, hgr.1, hgr.2⟩
  · by_cases hroom : n + k ≤ cap
    · have hr := run_append_room_zeros32 (P := P) w t tn ty e i ht htn hi hz hsz hby g n cap k cur hg hk hb hroom (by omega)
      refine ⟨_, _, hr, ⟨hlen, .inr ⟨g, cap, _, rfl, hbg, setRow_heap w g cur _ e _ hg, hroom, hcm, ?_, ?_⟩⟩, ⟨rfl, rfl, rfl, by simp, fun j _ hj => setRow_other w g j _ (fun e => hj (by simp [Value.ownBlock, e]))⟩⟩
      · simp only [List.size_toArray, List.length_append, List.length_take, List.length_drop, Array.length_toList, hlk]
        omega
      · simp only [Nat.mul_one] at htake ⊢
        rw [htake, u32s_append]
        have h2 : n + k = (u32s xs ++ u32s (List.replicate k 0)).length := by rw [← u32s_append]; omega
        conv => lhs; rw [h2]
        exact List.take_left
    · have holds : ∀ j u, (u32s xs)[j]? = some u → w.drew.cell? ((⟨g, 0, none⟩ : Addr).add j) = some u := World.ownsRow.cells (g := g) hown rfl
      have hf := run_firstCells_some (P := P) w.drew i.size n ⟨g, 0, none⟩ n cap (u32s xs) (by rw [hsz]; exact hown.1) holds
      have hr := Lib.run_append_grow_zeros (P := P) w t tn ty e i (.int .u32 0) .i64 .i64 ht htn hi hz (some ⟨g, 0, none⟩) n cap (u32s xs) hf k hk (by omega) (by omega) (by omega) (by rw [hby]; omega) (growslice_fits (by omega) (by rw [hby]; omega))
      have hgr := grown cap (by omega) (Value.ownBlock (.slice (some ⟨g, 0, none⟩) n cap))
      exact ⟨_, _, hr, hgr.1, hgr.2⟩

theorem wpList_append_zeros32 {ops : Array Oper} {rest : List Oper} {o : Oper} {a : Act} {Q : Exit → Act → World → Prop} (hgd : o.guard = none) (s x : Operand) (t tn : TypeId)
    (ho : o.op = .call { callee := .builtin .append, args := #[s, x], argTypes := #[t, tn] })
    (base : Nat) (e : TypeId) (ht : P.underlying t = some (.slice e)) (htn : P.underlying tn = some (.int .i64)) (hinfo : (P.info? e).map (fun i => (i.zero, i.size, i.bytes)) = some (some (.int .u32 0), 1, 4))
    (v : Value) (n k : Nat) (xs : List Nat) (hs : a.eval s = v) (hown : w.ownsRow base e 1 v n (u32s xs)) (z : Int) (hzk : z = (k : Int)) (hx : a.eval x = .int .i64 z) (hk : 0 < k) (hb : n + k ≤ 10000000) (hbase : base ≤ w.heap.size)
    (h : ∀ A' n' c' w', Hid (n' = n + k) → n' ≤ c' → Hid (w'.ownsRow base e 1 (.slice A' n' c') n' (u32s (xs ++ List.replicate k 0))) → w.grownBy w' v.ownBlock → wpList P ops Q rest (a.put o.dst (.slice A' n' c')) w') :
    wpList P ops Q (o :: rest) a w := by
  subst hzk
  refine wpList_plain hgd fun K hK => ?_
  obtain ⟨v', w', hrun, h2, h3⟩ := run_append_zeros32 (P := P) w base t tn o.type e ht htn hinfo v n k xs hown hk hb hbase
  unfold Oper.wp execOp
  simp only [ho, resolve, invoke, builtin, Sem.run_bind, Sem.run_pure, Result.andThen_ok, List.map_toArray, List.map_cons, List.map_nil, hs, hx, hrun]
  obtain ⟨A', c', rfl, hc'⟩ := ownsRow_form w' h2
  exact hK _ _ (h A' _ c' w' rfl hc' h2 h3)
end
end Go.Proofs.YtaifigkbblncpaaGreatDoor
