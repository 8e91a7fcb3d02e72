/-
  The book of lists that came out or were lent: what it holds; marks; an append that leaves its first slice as it was.
-/
import Derived.Test.YtoijpogadkogcaaGreatRdD
namespace Go.Proofs.YtoijpogadkogcaaGreat
open Go.RowKit
set_option maxRecDepth 100000

/-- A slice over a row of its own, whatever the row holds. -/
def RowShape (w : World) (T sz : Nat) (s : Value) : Prop :=
  ∃ a n cap, s = .slice a n cap ∧ n ≤ maxLen ∧ (n = 0 ∨ ∃ g cur, a = some ⟨g, 0, none⟩ ∧ w.heap[g]? = some (.cells cur T (0, 0)) ∧ n * sz ≤ cur.size)
theorem RowShape.ofOwns {w : World} {base T sz n : Nat} {v : Value} {xs : List Value} (h : w.ownsRow base T sz v n xs) : RowShape w T sz v := by
  rcases h.2 with ⟨rfl, rfl⟩ | ⟨g, cap, cur, rfl, hb, hg, hnc, hcm, hcs, htake⟩
  · exact ⟨none, 0, 0, rfl, by simp [maxLen], .inl rfl⟩
  · exact ⟨_, n, cap, rfl, by omega, .inr ⟨g, cur, rfl, hg, by rw [hcs]; exact Nat.mul_le_mul_right _ hnc⟩⟩
/-- The block of a slice keeps its size and kind. -/
def Shape (v : Value) (w w' : World) : Prop := ∀ k cur T, v.ownBlock = some k → w.heap[k]? = some (.cells cur T (0, 0)) → ∃ cur', w'.heap[k]? = some (.cells cur' T (0, 0)) ∧ cur'.size = cur.size
theorem RowShape.step {w w' : World} {T sz : Nat} {s u u' : Value} (h : RowShape w T sz s) (g : Grew w u w' u') (hs : Shape u w w') : RowShape w' T sz s := by
  obtain ⟨a, n, cap, rfl, h1, h2⟩ := h
  refine ⟨a, n, cap, rfl, h1, ?_⟩
  rcases h2 with h2 | ⟨k, cur, rfl, hk, hle⟩
  · exact .inl h2
  · by_cases he : u.ownBlock = some k
    · obtain ⟨cur', hk', hsz⟩ := hs k cur T he hk
      exact .inr ⟨k, cur', rfl, hk', by omega⟩
    · exact .inr ⟨k, cur, rfl, (g.grown.block k (Array.getElem?_eq_some_iff.1 hk).1 (Ne.symm he)).trans hk, hle⟩
theorem RowShape.ext {w w' : World} {T sz : Nat} {s : Value} (h : RowShape w T sz s) (e : Ext w w') : RowShape w' T sz s := by
  obtain ⟨a, n, cap, rfl, h1, h2⟩ := h
  refine ⟨a, n, cap, rfl, h1, ?_⟩
  rcases h2 with h2 | ⟨k, cur, rfl, hk, hle⟩
  · exact .inl h2
  · exact .inr ⟨k, cur, rfl, (e.block k (Array.getElem?_eq_some_iff.1 hk).1).trans hk, hle⟩
theorem Shape.refl (v : Value) (w : World) : Shape v w w := fun _ cur _ _ h => ⟨cur, h, rfl⟩
theorem Shape.trans {v : Value} {a b c : World} (h : Shape v a b) (k : Shape v b c) : Shape v a c := fun i cur T hv hi => by
  obtain ⟨c1, h1, h2⟩ := h i cur T hv hi
  obtain ⟨c2, h3, h4⟩ := k i c1 T hv h1
  exact ⟨c2, h3, by omega⟩
theorem Shape.ext {v : Value} {w w' : World} (e : Ext w w') : Shape v w w' := fun k cur _ _ h => ⟨cur, (e.block k (Array.getElem?_eq_some_iff.1 h).1).trans h, rfl⟩

section
variable {P : Program} (w : World)
theorem run_append_more (base : Nat) (t tx ty e : TypeId) (i : TypeInfo) (z : Value) (size bytes : Nat) (ht : P.underlying t = some (.slice e)) (hi : P.info? e = some i) (hz : i.zero = some z)
    (hsize : i.size = size) (hby : i.bytes = bytes) (hzs : z.cells.size = size) (hsz : 0 < size)
    (v : Value) (n : Nat) (xs : List Value) (hown : w.ownsRow base e size v n xs)
    (x : Value) (m : Nat) (news : List Value) (hs : Src P size tx x m news w)
    (h63 : n + m ≤ maxLen) (hbytes : (n + m) * bytes ≤ 140737488355328) (hbase : base ≤ w.heap.size) :
    ∃ v' w', (Builtin.append_ #[t, tx] ty #[v, x]).run P w = .ok v' w' ∧ w'.ownsRow base e size v' (n + m) (xs ++ news) ∧ Grew w v w' v' ∧ w'.ownsRow base e size v n xs ∧ Shape v w w' := by
  obtain ⟨v', w', hr, h2, h3⟩ := run_append_src (P := P) w base t tx ty e i z size bytes ht hi hz hsize hby hzs hsz v n xs hown x m news hs h63 hbytes hbase
  refine ⟨v', w', hr, h2, h3, ?_⟩
  subst hsize
  rcases hown.2 with ⟨rfl, rfl⟩ | ⟨g, cap, cur, rfl, hbg, hg, hnc, hcm, hcs, htake⟩
  · have hx : xs = [] := List.eq_nil_of_length_eq_zero (by simpa using hown.1)
    subst hx
    exact ⟨World.ownsRow_nil _ _ _ _, fun k cur T hk => by simp [Value.ownBlock] at hk⟩
  · by_cases hroom : n + m ≤ cap
    · have hl := hs.newsLen
      have hfit : n * i.size + 0 + news.length ≤ cur.size := by rw [hl, hcs, Nat.add_zero, ← Nat.add_mul]; exact Nat.mul_le_mul_right _ hroom
      have hst := run_storeCells_at P g (n * i.size) e news 0 cur w hg hfit hs.one
      simp only [Nat.add_zero] at hst
      have hr2 : (Builtin.append_ #[t, tx] ty #[.slice (some ⟨g, 0, none⟩) n cap, x]).run P w =
          .ok (.slice (some ⟨g, 0, none⟩) (n + m) cap) (w.setRow g (cur.toList.take (n * i.size) ++ news ++ cur.toList.drop (n * i.size + news.length)).toArray) := by
        rcases hs.kind with ⟨e', hk⟩ | hk <;> simp [Builtin.append_, run_underlying ht, run_underlying hk, sizeOf, typeInfo, hi, hs.len, hroom, hs.cells, Addr.add_lit, hst]
      rw [hr2] at hr
      simp only [Result.ok.injEq] at hr
      obtain ⟨rfl, rfl⟩ := hr
      have hsz2 : (cur.toList.take (n * i.size) ++ news ++ cur.toList.drop (n * i.size + news.length)).toArray.size = cur.size := by
        simp only [List.size_toArray, List.length_append, List.length_take, List.length_drop, Array.length_toList]
        omega
      refine ⟨⟨hown.1, .inr ⟨g, cap, _, rfl, hbg, setRow_heap w g cur _ e _ hg, hnc, hcm, by rw [hsz2, hcs], ?_⟩⟩, fun k c T hk hc => ?_⟩
      · rw [htake]
        simp only [List.append_assoc]
        rw [← hown.1]
        exact List.take_left
      · simp only [Value.ownBlock, Option.some.injEq] at hk
        subst hk
        rw [hg] at hc
        simp only [Option.some.injEq, Obj.cells.injEq] at hc
        obtain ⟨rfl, rfl, _⟩ := hc
        exact ⟨_, setRow_heap w g cur _ e _ hg, hsz2⟩
    · have holds : ∀ j u, xs[j]? = some u → w.drew.cell? ((⟨g, 0, none⟩ : Addr).add j) = some u := fun j u h => by
        have := hown.cells (g := g) rfl j u h
        simpa using this
      have hsmall : n + m ≤ 9223372036854775807 := by simp only [maxLen] at h63; omega
      have hr2 := run_append_grow_src (P := P) w t tx ty e i z ht hi hz (some ⟨g, 0, none⟩) n cap xs (run_firstCells_some w.drew i.size n ⟨g, 0, none⟩ n cap xs hown.1 holds) x m news hs (by omega) (by omega) (growslice_fits (by omega) (by rw [hby]; exact hbytes))
      rw [hr2] at hr
      simp only [Result.ok.injEq] at hr
      obtain ⟨rfl, rfl⟩ := hr
      have hE : Ext w (w.drew.alloc (.cells ((xs ++ news).toArray ++ Builtin.zeroCells z.cells (grownCap w (n + m) cap e - (n + m))) e)) := (Ext.refl w).drew.alloc _
      exact ⟨owns_ext hown hE, Shape.ext hE⟩

theorem wpList_append_more {ops : Array Oper} {rest : List Oper} {o : Oper} {a : Act} {Q : Exit → Act → World → Prop} (hgd : o.guard = none) (s x : Operand) (t tx : TypeId)
    (ho : o.op = .call { callee := .builtin .append, args := #[s, x], argTypes := #[t, tx] })
    (base : Nat) (e : TypeId) (i : TypeInfo) (z : Value) (size bytes : Nat) (ht : P.underlying t = some (.slice e)) (hi : P.info? e = some i) (hz : i.zero = some z)
    (hsize : i.size = size) (hby : i.bytes = bytes) (hzs : z.cells.size = size) (hsz : 0 < size)
    (v : Value) (n : Nat) (xs : List Value) (hs : a.eval s = v) (hown : w.ownsRow base e size v n xs)
    (y : Value) (m : Nat) (news : List Value) (hx : a.eval x = y) (hsrc : Src P size tx y m news w)
    (h63 : n + m ≤ maxLen) (hbytes : (n + m) * bytes ≤ 140737488355328) (hbase : base ≤ w.heap.size)
    (h : ∀ v' w', w'.ownsRow base e size v' (n + m) (xs ++ news) → Grew w v w' v' → w'.ownsRow base e size v n xs → Shape v w w' → wpList P ops Q rest (a.put o.dst v') w') : wpList P ops Q (o :: rest) a w := by
  refine wpList_plain hgd fun K hK => ?_
  obtain ⟨v', w', hr, h2, h3, h4, h5⟩ := run_append_more (P := P) w base t tx o.type e i z size bytes ht hi hz hsize hby hzs hsz v n xs hown y m news hsrc h63 hbytes hbase
  unfold Oper.wp execOp
  simp only [ho, resolve, invoke, builtin, Sem.run_bind, Sem.run_pure, Result.andThen_ok, List.map_toArray, List.map_cons, List.map_nil, hs, hx, hr]
  exact hK _ _ (h v' w' h2 h3 h4 h5)
end

/-! ### marks -/
/-- w' is w but that some places of some rows bear the mark that is theirs. -/
structure Marks (G : Nat → Prop) (F : Nat → Value) (w w' : World) : Prop where
  os : w'.os = w.os
  tape : w'.tape = w.tape
  output : w'.output = w.output
  size : w'.heap.size = w.heap.size
  other : ∀ k, ¬ G k → w'.heap[k]? = w.heap[k]?
  row : ∀ k cur T, G k → w.heap[k]? = some (.cells cur T (0, 0)) → ∃ cur', w'.heap[k]? = some (.cells cur' T (0, 0)) ∧ cur'.size = cur.size ∧ ∀ q, cur'[q]? = cur[q]? ∨ (q < cur.size ∧ cur'[q]? = some (F q))
theorem Marks.refl (G : Nat → Prop) (F : Nat → Value) (w : World) : Marks G F w w := ⟨rfl, rfl, rfl, rfl, fun _ _ => rfl, fun _ cur _ _ h => ⟨cur, h, rfl, fun _ => .inl rfl⟩⟩
theorem heap_setCell_at {w : World} {g o : Nat} {u : Value} {cur : Array Value} {T : TypeId} (h : w.heap[g]? = some (.cells cur T (0, 0))) : (w.setCell ⟨g, o, none⟩ u).heap[g]? = some (.cells (cur.setIfInBounds o u) T (0, 0)) := by
  have hlt := (Array.getElem?_eq_some_iff.1 h).1
  have h' : w.heap[g] = .cells cur T (0, 0) := (Array.getElem?_eq_some_iff.1 h).2
  show (w.heap.modify g _)[g]? = _
  rw [Array.getElem?_eq_getElem (by simpa using hlt), Array.getElem_modify_self, h']
  rfl
theorem Marks.set {G : Nat → Prop} {F : Nat → Value} {w w' : World} (h : Marks G F w w') {g : Nat} (hG : G g) {cur : Array Value} {T : TypeId} (hg : w.heap[g]? = some (.cells cur T (0, 0))) (p : Nat) (hp : p < cur.size) : Marks G F w (w'.setCell ⟨g, p, none⟩ (F p)) := by
  obtain ⟨c1, h1, h2, h3⟩ := h.row g cur T hG hg
  refine ⟨h.os, h.tape, h.output, by have := h.size; simpa using this, fun k hk => ?_, fun k c T' hk hc => ?_⟩
  · rw [Below.heap_setCell w' _ _ k (fun e => hk (by rw [e]; exact hG))]
    exact h.other k hk
  · by_cases e : k = g
    · subst e
      rw [hg] at hc
      simp only [Option.some.injEq, Obj.cells.injEq] at hc
      obtain ⟨rfl, rfl, _⟩ := hc
      refine ⟨_, heap_setCell_at h1, by simp [h2], fun q => ?_⟩
      by_cases eq : q = p
      · subst eq
        exact .inr ⟨hp, by simp [h2, hp]⟩
      · rw [Array.getElem?_setIfInBounds_ne (Ne.symm eq)]
        exact h3 q
    · rw [Below.heap_setCell w' _ _ k e]
      exact h.row k c T' hk hc
/-- A row all of whose first places bear their marks. -/
def Done (w : World) (T : Nat) (F : Nat → Value) (g m : Nat) : Prop := ∃ cur, w.heap[g]? = some (.cells cur T (0, 0)) ∧ m ≤ cur.size ∧ ∀ j, j < m → cur[j]? = some (F j)
theorem Done.set {w : World} {T : Nat} {F : Nat → Value} {g m : Nat} (h : Done w T F g m) (g' p : Nat) : Done (w.setCell ⟨g', p, none⟩ (F p)) T F g m := by
  obtain ⟨cur, h1, h2, h3⟩ := h
  by_cases e : g = g'
  · subst e
    refine ⟨_, heap_setCell_at h1, by simpa using h2, fun j hj => ?_⟩
    by_cases eq : j = p
    · subst eq
      simp [show j < cur.size by omega]
    · rw [Array.getElem?_setIfInBounds_ne (Ne.symm eq)]
      exact h3 j hj
  · exact ⟨cur, by rw [Below.heap_setCell w _ _ g e]; exact h1, h2, h3⟩
theorem Done.more {w : World} {T : Nat} {F : Nat → Value} {g p : Nat} (h : Done w T F g p) {cur : Array Value} (hc : w.heap[g]? = some (.cells cur T (0, 0))) (hp : p < cur.size) : Done (w.setCell ⟨g, p, none⟩ (F p)) T F g (p + 1) := by
  obtain ⟨c, h1, h2, h3⟩ := h
  rw [hc] at h1
  simp only [Option.some.injEq, Obj.cells.injEq] at h1
  obtain ⟨rfl, _, _⟩ := h1
  refine ⟨_, heap_setCell_at hc, by simp; omega, fun j hj => ?_⟩
  by_cases eq : j = p
  · subst eq
    simp [hp]
  · rw [Array.getElem?_setIfInBounds_ne (Ne.symm eq)]
    exact h3 j (by omega)
end Go.Proofs.YtoijpogadkogcaaGreat
