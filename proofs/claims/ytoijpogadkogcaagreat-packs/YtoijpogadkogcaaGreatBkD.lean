/-
  The book: a list of headers is its owner's: the appends, in whatever order.
-/
import Derived.Test.YtoijpogadkogcaaGreatBkC
import Derived.Deep.RegionHeld3
namespace Go.Proofs.YtoijpogadkogcaaGreat
open Go.RowKit
set_option maxRecDepth 100000

def FC (i j : Nat) : Value := if j % 2 = 0 then .string (paperS i) else .string ⟨#[]⟩
theorem FC_even (i q : Nat) : FC i (q * 2) = .string (paperS i) := by unfold FC; rw [if_pos (by omega)]
theorem FC_odd (i q : Nat) : FC i (q * 2 + 1) = .string ⟨#[]⟩ := by unfold FC; rw [if_neg (by omega)]

/-- Nothing is done but to the list's own block, which keeps its size. -/
structure Step (l : Value) (w w' : World) : Prop where
  but : But (fun k => l.ownBlock = some k) w w'
  shape : Shape l w w'
theorem Step.refl (l : Value) (w : World) : Step l w w := ⟨But.refl _ _, Shape.refl _ _⟩
theorem Step.trans {l : Value} {a b c : World} (h : Step l a b) (k : Step l b c) : Step l a c := ⟨h.but.trans (k.but.mono fun _ _ e => .inl e), h.shape.trans k.shape⟩
theorem Step.ofExt {l : Value} {w w' : World} (e : Ext w w') : Step l w w' := ⟨But.ofExt e, Shape.ext e⟩
theorem Step.alloc {l : Value} {a b : World} (h : Step l a b) (o : Obj) : Step l a (b.alloc o) := h.trans (Step.ofExt ((Ext.refl b).alloc o))
theorem Step.drew {l : Value} {a b : World} (h : Step l a b) : Step l a b.drew := h.trans (Step.ofExt ((Ext.refl b).drew))
theorem Step.ofGrew {l v' : Value} {w w' : World} (g : Grew w l w' v') (s : Shape l w w') : Step l w w' := ⟨But.ofGrew g, s⟩
theorem RowIn.stepped {w w' : World} {T sz n : Nat} {G : Nat → Prop} {s l : Value} (h : RowIn w T sz G s n) (st : Step l w w') : RowIn w' T sz G s n := by
  obtain ⟨a, cap, rfl, h1, h2⟩ := h
  refine ⟨a, cap, rfl, h1, ?_⟩
  rcases h2 with h2 | ⟨k, cur, rfl, hG, hk, hle⟩
  · exact .inl h2
  · by_cases he : l.ownBlock = some k
    · obtain ⟨cur', hk', hsz⟩ := st.shape k cur T he hk
      exact .inr ⟨k, cur', rfl, hG, hk', by omega⟩
    · exact .inr ⟨k, cur, rfl, hG, (st.but.block k (Array.getElem?_eq_some_iff.1 hk).1 he).trans hk, hle⟩
theorem RowIn.inside {w : World} {T sz n : Nat} {G G' : Nat → Prop} {s : Value} (h : RowIn w T sz G s n) (hG : ∀ k, k < w.heap.size → G k → G' k) : RowIn w T sz G' s n := by
  obtain ⟨a, cap, rfl, h1, h2⟩ := h
  refine ⟨a, cap, rfl, h1, ?_⟩
  rcases h2 with h2 | ⟨k, cur, rfl, hk, hc, hle⟩
  · exact .inl h2
  · exact .inr ⟨k, cur, rfl, hG k (Array.getElem?_eq_some_iff.1 hc).1 hk, hc, hle⟩

/-- What stands while the list is appended to. -/
structure Hold (b B n : Nat) (X : ByteArray) (l : Value) (xs : List Value) (w0 w : World) : Prop where
  own : w.ownsRow B 122 2 l n xs
  step : Step l w0 w
  box : Box w b X ⟨#[]⟩
  ne : l.ownBlock ≠ some b
  own0 : ∀ k, l.ownBlock = some k → k < w0.heap.size
theorem Hold.alloc {b B n : Nat} {X : ByteArray} {l : Value} {xs : List Value} {w0 w : World} (h : Hold b B n X l xs w0 w) (o : Obj) : Hold b B n X l xs w0 (w.alloc o) :=
  ⟨h.own.alloc o, h.step.alloc o, h.box.ext ((Ext.refl w).alloc o), h.ne, h.own0⟩
theorem Hold.drew {b B n : Nat} {X : ByteArray} {l : Value} {xs : List Value} {w0 w : World} (h : Hold b B n X l xs w0 w) : Hold b B n X l xs w0 w.drew :=
  ⟨h.own, h.step.drew, h.box, h.ne, h.own0⟩
theorem Hold.keep {b B n : Nat} {X : ByteArray} {l : Value} {xs : List Value} {w0 w : World} (h : Hold b B n X l xs w0 w) : w.cell? ⟨b, 0, none⟩ = some (.string X) ∧ w.cell? ⟨b, 1, none⟩ = some (.string ⟨#[]⟩) ∧ Hold b B n X l xs w0 w :=
  ⟨h.box.cell0, h.box.cell1, h⟩
theorem held_alloc {b B n : Nat} {X : ByteArray} {l : Value} {xs : List Value} {w0 w : World} (o : Obj) (h : w.cell? ⟨b, 0, none⟩ = some (.string X) ∧ w.cell? ⟨b, 1, none⟩ = some (.string ⟨#[]⟩) ∧ Hold b B n X l xs w0 w) :
    (w.alloc o).cell? ⟨b, 0, none⟩ = some (.string X) ∧ (w.alloc o).cell? ⟨b, 1, none⟩ = some (.string ⟨#[]⟩) ∧ Hold b B n X l xs w0 (w.alloc o) := (h.2.2.alloc o).keep

/-- So many of the same header. -/
def zs (X : ByteArray) : Nat → List Value
  | 0 => []
  | m + 1 => .string X :: .string ⟨#[]⟩ :: zs X m
theorem zs_len (X : ByteArray) (m : Nat) : (zs X m).length = m * 2 := by
  induction m with
  | zero => rfl
  | succ m ih => simp [zs, ih]; omega
theorem zs_one (X : ByteArray) (m : Nat) : ∀ u ∈ zs X m, u.oneCell' = true := by
  induction m with
  | zero => intro u h; cases h
  | succ m ih =>
    intro u h
    simp only [zs, List.mem_cons] at h
    rcases h with rfl | rfl | h
    · rfl
    · rfl
    · exact ih u h
/-- A row of them, made since. -/
def ZRow (X : ByteArray) (w0 : World) (m : Nat) (w : World) (g : Nat) : Prop := w0.heap.size ≤ g ∧ w.heap[g]? = some (.cells (zs X m).toArray 122 (0, 0))
theorem ZRow.new (X : ByteArray) {w0 w : World} {l : Value} (h : Step l w0 w) (m : Nat) (cs : Array Value) (hc : cs = (zs X m).toArray) : ZRow X w0 m (w.alloc (.cells cs 122)) w.heap.size := by
  subst hc
  exact ⟨h.but.size, heap_alloc_new w _⟩
theorem ZRow.made {X : ByteArray} {w0 w : World} (m : Nat) (cs : Array Value) (hc : cs = (zs X m).toArray) (g : Nat) (hg : g = w.heap.size) (h : w0.heap.size ≤ g) : ZRow X w0 m (w.alloc (.cells cs 122)) g := by
  subst hg
  subst hc
  exact ⟨h, heap_alloc_new w _⟩
theorem ZRow.alloc {X : ByteArray} {w0 w : World} {m g : Nat} (h : ZRow X w0 m w g) (o : Obj) : ZRow X w0 m (w.alloc o) g :=
  ⟨h.1, (Below.heap_alloc w o g (Array.getElem?_eq_some_iff.1 h.2).1).trans h.2⟩
theorem ZRow.drew {X : ByteArray} {w0 w : World} {m g : Nat} (h : ZRow X w0 m w g) : ZRow X w0 m w.drew g := h
theorem ZRow.step {X : ByteArray} {w0 w w' : World} {m g : Nat} {l : Value} (st : Step l w w') (ho : ∀ k, l.ownBlock = some k → k < w0.heap.size) (h : ZRow X w0 m w g) : ZRow X w0 m w' g :=
  ⟨h.1, (st.but.block g (Array.getElem?_eq_some_iff.1 h.2).1 (fun e => by have := ho g e; have := h.1; omega)).trans h.2⟩
theorem ZRow.src {X : ByteArray} {w0 w : World} {m g : Nat} (h : ZRow X w0 m w g) (c : Nat) : Src Tryz.prog 2 43 (.slice (some ⟨g, 0, none⟩) m c) m (zs X m) w :=
  Src.ofSlice w Tryz.underlying43 ⟨g, 0, none⟩ m c _ (zs_len X m) (fun j u hj => by
    have h2 := h.2
    have e : (⟨g, 0, none⟩ : Addr).add j = ⟨g, j, none⟩ := by
      unfold Addr.add
      by_cases hj0 : j = 0 <;> simp [hj0]
    rw [e]
    simp only [World.cell?, h2]
    simpa using hj) (zs_one X m)

/-- Rows that may be written: the list's own, and new ones. -/
def Gx (l : Value) (w0 : World) (k : Nat) : Prop := l.ownBlock = some k ∨ w0.heap.size ≤ k

/-- One of the appends, as a step of a statement that leaves its order open. -/
theorem step_pairs {ops : Array Oper} {o : Oper} {a : Act} {w w0 : World} {K : Act → World → Prop} {Q : Exit → Act → World → Prop} {E : Prop}
    (hg : o.guard = none) (s x : Operand) (hop : o.op = Op.call { callee := Callee.builtin Builtin.append, args := #[s, x], argTypes := #[43, 43] })
    (b B n : Nat) (X : ByteArray) (l : Value) (xs : List Value) (hh : w.cell? ⟨b, 0, none⟩ = some (.string X) ∧ w.cell? ⟨b, 1, none⟩ = some (.string ⟨#[]⟩) ∧ Hold b B n X l xs w0 w)
    (hs : a.eval s = l) (g m c : Nat) (hx : a.eval x = .slice (some ⟨g, 0, none⟩) m c) (hz : ZRow X w0 m w g) (hn : n ≤ 4398046510976) (hm : m ≤ 3) (hB : B ≤ w0.heap.size)
    (hK : ∀ a1 cap1 w1, RowIn w1 122 2 (Gx l w0) (.slice a1 (n + m) cap1) (n + m) → Step l w w1 → (w1.cell? ⟨b, 0, none⟩ = some (.string X) ∧ w1.cell? ⟨b, 1, none⟩ = some (.string ⟨#[]⟩) ∧ Hold b B n X l xs w0 w1) → K (a.put o.dst (.slice a1 (n + m) cap1)) w1) :
    if Region.wanted o (yielded ops a.tmps) = true then Oper.wp Tryz.prog o a w K Q else E := by
  have hw : Region.wanted o (yielded ops a.tmps) = true := by simp [Region.wanted, hg]
  rw [if_pos hw]
  obtain ⟨i0, hi, hz0, hz1, hz2⟩ := info_parts Tryz.infoPair
  have hh := hh.2.2
  obtain ⟨v', w', hr, h2, h3, h4, h5⟩ := run_append_more (P := Tryz.prog) w B 43 43 o.type 122 i0 _ 2 32 Tryz.underlying43 hi hz0 hz1 hz2 rfl (by decide) l n xs hh.own _ m _ (hz.src c) (by unfold maxLen; omega) (by omega) (Nat.le_trans hB hh.step.but.size)
  obtain ⟨a1, cap1, hv1, _, _, _⟩ := owns_slice h2
  subst hv1
  have st := Step.ofGrew h3 h5
  have hbox : Box w' b X ⟨#[]⟩ := (st.but.block b hh.box.lt hh.ne).trans hh.box
  have hrow : RowIn w' 122 2 (Gx l w0) (.slice a1 (n + m) cap1) (n + m) := RowIn.ofOwns h2 (fun k hk => by
    rcases h3.place with e | ⟨g', e, hg'⟩
    · exact .inl (by rw [← e]; exact hk)
    · rw [e] at hk; injection hk with hk; subst hk; exact .inr (Nat.le_trans hh.step.but.size hg'))
  have hk := hK a1 cap1 w' hrow st (Hold.keep ⟨h4, hh.step.trans st, hbox, hh.ne, hh.own0⟩)
  unfold Oper.wp
  simp only [execOp, hop, resolve, invoke, builtin, Sem.run_bind, Sem.run_pure, Result.andThen_ok, List.map_toArray, List.map_cons, List.map_nil, hs, hx, hr]
  exact hk
end Go.Proofs.YtoijpogadkogcaaGreat
