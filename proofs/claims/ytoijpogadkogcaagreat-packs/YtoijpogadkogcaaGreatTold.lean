/-
  What came out, held against the document's answer, and handed to its owner.
-/
import Derived.Test.YtoijpogadkogcaaGreatLnP
namespace Go.Proofs.YtoijpogadkogcaaGreat
open Go.RowKit
set_option maxRecDepth 100000

/-- What stands while a script is played: the book, and all that was there before. -/
structure Inv (w0 : World) (Y : Nat) (w : World) (va vc : Value) (nA nC BA BC : Nat) : Prop where
  ext : But (fun k => k = Y) w0 w
  heapY : w.heap[Y]? = some (.cells #[.slice none 0 0, va, .slice none 0 0, vc] 68 (0, 0))
  pa : Part w w0.heap.size 137 34 5 1 FA BA va nA
  pc : Part w w0.heap.size 169 43 122 2 FC BC vc nC
  ba : BA ≤ w.heap.size
  bc : BC ≤ w.heap.size
  ba0 : w0.heap.size ≤ BA
  bc0 : w0.heap.size ≤ BC
theorem Inv.next {w0 w w' : World} {Y : Nat} {va vc : Value} {nA nC BA BC : Nat} (h : Inv w0 Y w va vc nA nC BA BC) (e : Ext w w') : Inv w0 Y w' va vc nA nC BA BC :=
  ⟨h.ext.trans (But.ofExt e), (e.block Y (Array.getElem?_eq_some_iff.1 h.heapY).1).trans h.heapY, h.pa.ext e, h.pc.ext e, Nat.le_trans h.ba e.size, Nat.le_trans h.bc e.size, h.ba0, h.bc0⟩
theorem Inv.wide {w0 w : World} {Y : Nat} {va vc : Value} {nA nC BA BC : Nat} (h : Inv w0 Y w va vc nA nC BA BC) : Inv w0 Y w va vc nA nC w.heap.size w.heap.size :=
  ⟨h.ext, h.heapY, h.pa.mono h.ba, h.pc.mono h.bc, Nat.le_refl _, Nat.le_refl _, h.ext.size, h.ext.size⟩
theorem But.kept {X : Nat → Prop} {w w' : World} (h : But X w w') {base e size n : Nat} {v : Value} {xs : List Value} (ho : w.ownsRow base e size v n xs) (hx : ∀ k, v.ownBlock = some k → ¬ X k) : w'.ownsRow base e size v n xs := by
  refine ⟨ho.1, ?_⟩
  rcases ho.2 with h2 | ⟨g, cap, cur, rfl, hb, hg, h3⟩
  · exact .inl h2
  · exact .inr ⟨g, cap, cur, rfl, hb, (h.block g (Array.getElem?_eq_some_iff.1 hg).1 (hx g rfl)).trans hg, h3⟩
theorem Part.own {w : World} {base TR TL T sz : Nat} {F : Nat → Nat → Value} {B : Nat} {v : Value} {n : Nat} (h : Part w base TR TL T sz F B v n) (k : Nat) (hk : v.ownBlock = some k) : base ≤ k ∧ ∃ cur, w.heap[k]? = some (.cells cur TR (0, 0)) := by
  obtain ⟨xs, hown, _⟩ := h
  exact ⟨(hown.lt k hk).1, own_ty hown k hk⟩
theorem no_two {w : World} {k : Nat} {c c' : Array Value} {T T' : Nat} (h : w.heap[k]? = some (.cells c T (0, 0))) (h' : w.heap[k]? = some (.cells c' T' (0, 0))) (hne : T ≠ T') : False := by
  rw [h] at h'
  simp only [Option.some.injEq, Obj.cells.injEq] at h'
  exact hne h'.2.1
/-- Behind the book's taking a list of bytes. -/
theorem Inv.bytes {w0 w w' : World} {Y n : Nat} {va vc va' l : Value} {xs : List Value} {nA nC BA BC : Nat} (h : Inv w0 Y w va vc nA nC BA BC) (hown : w.ownsRow BA 5 1 l n xs)
    (hY : w'.heap[Y]? = some (.cells #[.slice none 0 0, va', .slice none 0 0, vc] 68 (0, 0))) (hp : Part w' w0.heap.size 137 34 5 1 FA w'.heap.size va' (nA + 1))
    (hb : But (fun k => k = Y ∨ va.ownBlock = some k ∨ l.ownBlock = some k) w w') : Inv w0 Y w' va' vc (nA + 1) nC w'.heap.size BC := by
  refine ⟨⟨hb.os.trans h.ext.os, hb.tape.trans h.ext.tape, hb.output.trans h.ext.output, Nat.le_trans h.ext.size hb.size, fun k hk hkY => ?_⟩, hY, hp, ?_, Nat.le_refl _, Nat.le_trans h.bc hb.size, Nat.le_trans h.ext.size hb.size, h.bc0⟩
  · rw [hb.block k (Nat.lt_of_lt_of_le hk h.ext.size) (fun e => by
      rcases e with e | e | e
      · exact hkY e
      · have := (h.pa.own k e).1; omega
      · have := (hown.lt k e).1; have := h.ba0; omega)]
    exact h.ext.block k hk hkY
  · refine h.pc.keeps (TL := 43) (fun k cur Ty hk hc ht => ?_) (fun g hv => ?_)
    · refine hb.block k (Array.getElem?_eq_some_iff.1 hc).1 (fun e => ?_)
      rcases e with rfl | e | e
      · exact no_two hc h.heapY (by rcases ht with rfl | rfl <;> decide)
      · obtain ⟨_, c, hc'⟩ := h.pa.own k e; exact no_two hc hc' (by rcases ht with rfl | rfl <;> decide)
      · obtain ⟨c, hc'⟩ := own_ty hown k e; exact no_two hc hc' (by rcases ht with rfl | rfl <;> decide)
    · obtain ⟨_, cur, hc⟩ := h.pc.own g hv
      refine hb.block g (Array.getElem?_eq_some_iff.1 hc).1 (fun e => ?_)
      rcases e with rfl | e | e
      · exact no_two hc h.heapY (by decide)
      · obtain ⟨_, c, hc'⟩ := h.pa.own g e; exact no_two hc hc' (by decide)
      · obtain ⟨c, hc'⟩ := own_ty hown g e; exact no_two hc hc' (by decide)
/-- Behind its taking a list of headers. -/
theorem Inv.pairs {w0 w w' : World} {Y n : Nat} {va vc vc' l : Value} {xs : List Value} {nA nC BA BC : Nat} (h : Inv w0 Y w va vc nA nC BA BC) (hown : w.ownsRow BC 122 2 l n xs)
    (hY : w'.heap[Y]? = some (.cells #[.slice none 0 0, va, .slice none 0 0, vc'] 68 (0, 0))) (hp : Part w' w0.heap.size 169 43 122 2 FC w'.heap.size vc' (nC + 1))
    (hb : But (fun k => k = Y ∨ vc.ownBlock = some k ∨ l.ownBlock = some k) w w') : Inv w0 Y w' va vc' nA (nC + 1) BA w'.heap.size := by
  refine ⟨⟨hb.os.trans h.ext.os, hb.tape.trans h.ext.tape, hb.output.trans h.ext.output, Nat.le_trans h.ext.size hb.size, fun k hk hkY => ?_⟩, hY, ?_, hp, Nat.le_trans h.ba hb.size, Nat.le_refl _, h.ba0, Nat.le_trans h.ext.size hb.size⟩
  · rw [hb.block k (Nat.lt_of_lt_of_le hk h.ext.size) (fun e => by
      rcases e with e | e | e
      · exact hkY e
      · have := (h.pc.own k e).1; omega
      · have := (hown.lt k e).1; have := h.bc0; omega)]
    exact h.ext.block k hk hkY
  · refine h.pa.keeps (TL := 34) (fun k cur Ty hk hc ht => ?_) (fun g hv => ?_)
    · refine hb.block k (Array.getElem?_eq_some_iff.1 hc).1 (fun e => ?_)
      rcases e with rfl | e | e
      · exact no_two hc h.heapY (by rcases ht with rfl | rfl <;> decide)
      · obtain ⟨_, c, hc'⟩ := h.pc.own k e; exact no_two hc hc' (by rcases ht with rfl | rfl <;> decide)
      · obtain ⟨c, hc'⟩ := own_ty hown k e; exact no_two hc hc' (by rcases ht with rfl | rfl <;> decide)
    · obtain ⟨_, cur, hc⟩ := h.pa.own g hv
      refine hb.block g (Array.getElem?_eq_some_iff.1 hc).1 (fun e => ?_)
      rcases e with rfl | e | e
      · exact no_two hc h.heapY (by decide)
      · obtain ⟨_, c, hc'⟩ := h.pc.own g e; exact no_two hc hc' (by decide)
      · obtain ⟨c, hc'⟩ := own_ty hown g e; exact no_two hc hc' (by decide)
end Go.Proofs.YtoijpogadkogcaaGreat
