/-
  The book: a list of bytes is its owner's.
-/
import Derived.Test.YtoijpogadkogcaaGreatBkA
import Derived.Deep.RegionWith
namespace Go.Proofs.YtoijpogadkogcaaGreat
open Go.RowKit
set_option maxRecDepth 100000

theorem sign_at (i k : Nat) (x : Int) (hx : (k : Int) = x) (w : World) (hi : i ≤ 4611686018427387904) (hk : k ≤ 9223372036854775807) : Calls Tryz.prog 66 #[.int .i64 (i : Int), .int .i64 x] w fun e w' => e = .returned (.int .u8 (sg i k : Int)) ∧ w' = w := by
  subst hx
  exact sign_any i k w hi hk

/-- As it was but for some blocks, and new ones. -/
structure But (X : Nat → Prop) (w w' : World) : Prop where
  os : w'.os = w.os
  tape : w'.tape = w.tape
  output : w'.output = w.output
  size : w.heap.size ≤ w'.heap.size
  block : ∀ k, k < w.heap.size → ¬ X k → w'.heap[k]? = w.heap[k]?
theorem But.refl (X : Nat → Prop) (w : World) : But X w w := ⟨rfl, rfl, rfl, Nat.le_refl _, fun _ _ _ => rfl⟩
theorem But.trans {X : Nat → Prop} {a b c : World} (h : But X a b) (k : But (fun i => X i ∨ a.heap.size ≤ i) b c) : But X a c :=
  ⟨k.os.trans h.os, k.tape.trans h.tape, k.output.trans h.output, Nat.le_trans h.size k.size, fun i hi hx => (k.block i (Nat.lt_of_lt_of_le hi h.size) (fun e => by rcases e with e | e; exact hx e; omega)).trans (h.block i hi hx)⟩
theorem But.mono {X Z : Nat → Prop} {w w' : World} (h : But X w w') (hx : ∀ k, k < w.heap.size → X k → Z k) : But Z w w' := ⟨h.os, h.tape, h.output, h.size, fun k hk hz => h.block k hk (fun e => hz (hx k hk e))⟩
theorem But.ofExt {X : Nat → Prop} {w w' : World} (h : Ext w w') : But X w w' := ⟨h.os, h.tape, h.output, h.size, fun k hk _ => h.block k hk⟩
theorem But.ofGrew {w w' : World} {v v' : Value} (h : Grew w v w' v') : But (fun k => v.ownBlock = some k) w w' := ⟨h.grown.os, h.grown.tape, h.grown.output, h.grown.size, fun k hk hx => h.grown.block k hk (fun e => hx e.symm)⟩
theorem But.ofMarks {G : Nat → Prop} {F : Nat → Value} {w w' : World} (h : Marks G F w w') : But G w w' := ⟨h.os, h.tape, h.output, by rw [h.size]; exact Nat.le_refl _, fun k _ hx => h.other k hx⟩
theorem Marks.drew {G : Nat → Prop} {F : Nat → Value} {w w' : World} (h : Marks G F w w') : Marks G F w w'.drew := ⟨h.os, h.tape, h.output, h.size, h.other, h.row⟩

/-- A slice over a row of some blocks. -/
def RowIn (w : World) (T sz : Nat) (G : Nat → Prop) (s : Value) (n : Nat) : Prop :=
  ∃ a cap, s = .slice a n cap ∧ n ≤ maxLen ∧ (n = 0 ∨ ∃ g cur, a = some ⟨g, 0, none⟩ ∧ G g ∧ w.heap[g]? = some (.cells cur T (0, 0)) ∧ n * sz ≤ cur.size)
theorem RowIn.ofOwns {w : World} {base T sz n : Nat} {G : Nat → Prop} {v : Value} {xs : List Value} (h : w.ownsRow base T sz v n xs) (hG : ∀ k, v.ownBlock = some k → G k) : RowIn w T sz G v n := by
  rcases h.2 with ⟨rfl, rfl⟩ | ⟨g, cap, cur, rfl, hb, hg, hnc, hcm, hcs, htake⟩
  · exact ⟨none, 0, rfl, by simp [maxLen], .inl rfl⟩
  · exact ⟨_, cap, rfl, by omega, .inr ⟨g, cur, rfl, hG g rfl, hg, by rw [hcs]; exact Nat.mul_le_mul_right _ hnc⟩⟩
theorem RowIn.step {w w' : World} {T sz n : Nat} {G : Nat → Prop} {s u u' : Value} (h : RowIn w T sz G s n) (g : Grew w u w' u') (hs : Shape u w w') : RowIn w' T sz G s n := by
  obtain ⟨a, cap, rfl, h1, h2⟩ := h
  refine ⟨a, cap, rfl, h1, ?_⟩
  rcases h2 with h2 | ⟨k, cur, rfl, hG, hk, hle⟩
  · exact .inl h2
  · by_cases he : u.ownBlock = some k
    · obtain ⟨cur', hk', hsz⟩ := hs k cur T he hk
      exact .inr ⟨k, cur', rfl, hG, hk', by omega⟩
    · exact .inr ⟨k, cur, rfl, hG, (g.grown.block k (Array.getElem?_eq_some_iff.1 hk).1 (Ne.symm he)).trans hk, hle⟩
theorem RowIn.ext {w w' : World} {T sz n : Nat} {G : Nat → Prop} {s : Value} (h : RowIn w T sz G s n) (e : Ext w w') : RowIn w' T sz G s n := by
  obtain ⟨a, cap, rfl, h1, h2⟩ := h
  refine ⟨a, cap, rfl, h1, ?_⟩
  rcases h2 with h2 | ⟨k, cur, rfl, hG, hk, hle⟩
  · exact .inl h2
  · exact .inr ⟨k, cur, rfl, hG, (e.block k (Array.getElem?_eq_some_iff.1 hk).1).trans hk, hle⟩

theorem src_two {P : Program} (w : World) {t e' : TypeId} (e : TypeId) (ht : P.underlying t = some (.slice e')) (u v : Value) (hu : u.oneCell' = true) (hv : v.oneCell' = true) : Src P 1 t (.slice (some ⟨w.heap.size, 0, none⟩) 2 2) 2 [u, v] (w.alloc (.cells #[u, v] e)) :=
  Src.ofSlice (w.alloc (.cells #[u, v] e)) ht ⟨w.heap.size, 0, none⟩ 2 2 [u, v] rfl (fun j x hj => by
    match j, hj with
    | 0, hj => simp at hj; subst hj; simp [Addr.add]
    | 1, hj => simp at hj; subst hj; simp [Addr.add]) (fun x hx => by simp at hx; rcases hx with rfl | rfl <;> assumption)
theorem src_three {P : Program} (w : World) {t e' : TypeId} (e : TypeId) (ht : P.underlying t = some (.slice e')) (u v x : Value) (hu : u.oneCell' = true) (hv : v.oneCell' = true) (hx : x.oneCell' = true) : Src P 1 t (.slice (some ⟨w.heap.size, 0, none⟩) 3 3) 3 [u, v, x] (w.alloc (.cells #[u, v, x] e)) :=
  Src.ofSlice (w.alloc (.cells #[u, v, x] e)) ht ⟨w.heap.size, 0, none⟩ 3 3 [u, v, x] rfl (fun j y hj => by
    match j, hj with
    | 0, hj => simp at hj; subst hj; simp [Addr.add]
    | 1, hj => simp at hj; subst hj; simp [Addr.add]
    | 2, hj => simp at hj; subst hj; simp [Addr.add]) (fun y hy => by simp at hy; rcases hy with rfl | rfl | rfl <;> assumption)

theorem Tryz.infoSh : (Tryz.prog.info? 137).map (fun i => (i.zero, i.size, i.bytes)) = some (some (.slice none 0 0), 1, 24) := by kernel_rfl

/-- What stands behind the three appends, and the list of the four. -/
structure Start (Y base B nA n : Nat) (va vc v0 v1 v2 v3 : Value) (G : Nat → Prop) (w W : World) (S : Nat) : Prop where
  heapY : W.heap[Y]? = some (.cells #[.slice none 0 0, va, .slice none 0 0, vc] 68 (0, 0))
  part : Part W base 137 34 5 1 FA B va nA
  rows : RowIn W 5 1 G v0 n ∧ RowIn W 5 1 G v1 (n + 1) ∧ RowIn W 5 1 G v2 (n + 2) ∧ RowIn W 5 1 G v3 (n + 3)
  sheet : W.heap[S]? = some (.cells #[v0, v1, v2, v3] 34 (0, 0))
  but : But (fun k => v0.ownBlock = some k) w W
  lt : w.heap.size ≤ S

theorem bBytes_start (Y base B nA n : Nat) (va vc v0 v1 v2 v3 : Value) (xs x1 x2 x3 : List Value) (w w1 w2 w3 : World) (hY : w.heap[Y]? = some (.cells #[.slice none 0 0, va, .slice none 0 0, vc] 68 (0, 0)))
    (hP : Part w base 137 34 5 1 FA B va nA)
    (ho : w.ownsRow B 5 1 v0 n xs ∧ w1.ownsRow B 5 1 v1 (n + 1) x1 ∧ w2.ownsRow B 5 1 v2 (n + 2) x2 ∧ w3.ownsRow B 5 1 v3 (n + 3) x3) (hB : B ≤ w.heap.size)
    (hg : Grew w v0 w1 v1 ∧ Grew w1 v0 w2 v2 ∧ Grew w2 v0 w3 v3) (hs : Shape v0 w w1 ∧ Shape v0 w1 w2 ∧ Shape v0 w2 w3) :
    Start Y base B nA n va vc v0 v1 v2 v3 (fun k => (v0.ownBlock = some k ∨ w.heap.size ≤ k) ∧ k ≠ w3.heap.size) w (w3.alloc (.cells #[v0, v1, v2, v3] 34)) w3.heap.size := by
  obtain ⟨o0, o1, o2, o3⟩ := ho
  obtain ⟨g1, g2, g3⟩ := hg
  obtain ⟨s1, s2, s3⟩ := hs
  have pl : ∀ {u : World} {v' : Value}, w.heap.size ≤ u.heap.size → (v'.ownBlock = v0.ownBlock ∨ ∃ g, v'.ownBlock = some g ∧ u.heap.size ≤ g) → ∀ k, v'.ownBlock = some k → v0.ownBlock = some k ∨ w.heap.size ≤ k := by
    intro u v' hu h k hk
    rcases h with h | ⟨g, h, hg⟩
    · exact .inl (by rw [← h]; exact hk)
    · rw [h] at hk; injection hk with hk; exact .inr (by omega)
  have z1 := g1.grown.size
  have z2 := g2.grown.size
  have z3 := g3.grown.size
  have r0 : RowIn w 5 1 (fun k => (v0.ownBlock = some k ∨ w.heap.size ≤ k) ∧ k ≠ w3.heap.size) v0 n := RowIn.ofOwns o0 (fun k hk => ⟨.inl hk, by have := (o0.lt k hk).2; omega⟩)
  have r1 : RowIn w1 5 1 (fun k => (v0.ownBlock = some k ∨ w.heap.size ≤ k) ∧ k ≠ w3.heap.size) v1 (n + 1) := RowIn.ofOwns o1 (fun k hk => ⟨pl (Nat.le_refl _) g1.place k hk, by have := (o1.lt k hk).2; omega⟩)
  have r2 : RowIn w2 5 1 (fun k => (v0.ownBlock = some k ∨ w.heap.size ≤ k) ∧ k ≠ w3.heap.size) v2 (n + 2) := RowIn.ofOwns o2 (fun k hk => ⟨pl z1 g2.place k hk, by have := (o2.lt k hk).2; omega⟩)
  have r3 : RowIn w3 5 1 (fun k => (v0.ownBlock = some k ∨ w.heap.size ≤ k) ∧ k ≠ w3.heap.size) v3 (n + 3) := RowIn.ofOwns o3 (fun k hk => ⟨pl (Nat.le_trans z1 z2) g3.place k hk, by have := (o3.lt k hk).2; omega⟩)
  have hE : Ext w3 (w3.alloc (.cells #[v0, v1, v2, v3] 34)) := (Ext.refl w3).alloc _
  have b : But (fun k => v0.ownBlock = some k) w (w3.alloc (.cells #[v0, v1, v2, v3] 34)) := by
    refine ⟨hE.os.trans (g3.grown.os.trans (g2.grown.os.trans g1.grown.os)), hE.tape.trans (g3.grown.tape.trans (g2.grown.tape.trans g1.grown.tape)), hE.output.trans (g3.grown.output.trans (g2.grown.output.trans g1.grown.output)), by have := hE.size; omega, fun k hk hx => ?_⟩
    rw [hE.block k (by omega), g3.grown.block k (by omega) (fun e => hx e.symm), g2.grown.block k (by omega) (fun e => hx e.symm), g1.grown.block k hk (fun e => hx e.symm)]
  have hlow : ∀ k, v0.ownBlock = some k → B ≤ k := fun k hk => (o0.lt k hk).1
  have tyU : ∀ k, v0.ownBlock = some k → ∃ cur, w.heap[k]? = some (.cells cur 5 (0, 0)) := by
    intro k hk
    rcases o0.2 with ⟨rfl, _⟩ | ⟨g, cap, cur, rfl, _, hgc, _⟩
    · simp [Value.ownBlock] at hk
    · simp only [Value.ownBlock, Option.some.injEq] at hk
      subst hk
      exact ⟨cur, hgc⟩
  have hYlt : Y < w.heap.size := (Array.getElem?_eq_some_iff.1 hY).1
  refine ⟨?_, ?_, ⟨((r0.step g1 s1).step g2 s2 |>.step g3 s3).ext hE, ((r1.step g2 s2).step g3 s3).ext hE, (r2.step g3 s3).ext hE, r3.ext hE⟩, heap_alloc_new w3 _, b, by omega⟩
  · rw [b.block Y hYlt (fun e => by obtain ⟨c, hc⟩ := tyU Y e; rw [hY] at hc; simp at hc), hY]
  · refine hP.keeps (fun k cur Ty hk hc _ => ?_) (fun g hv => ?_)
    · exact b.block k (by omega) (fun e => by have := hlow k e; omega)
    · obtain ⟨ys, hy, _⟩ := hP
      have h2 := (hy.lt g hv).2
      refine b.block g h2 (fun e => ?_)
      obtain ⟨c, hc⟩ := tyU g e
      rcases hy.2 with ⟨rfl, _⟩ | ⟨g', cap, cur, rfl, _, hgc, _⟩
      · simp [Value.ownBlock] at hv
      · simp only [Value.ownBlock, Option.some.injEq] at hv
        subst hv
        rw [hgc] at hc
        simp at hc

/-- The one of four lists. -/
def four (v0 v1 v2 v3 : Value) : Nat → Value
  | 0 => v0
  | 1 => v1
  | 2 => v2
  | _ => v3
theorem Start.row {Y base B nA n : Nat} {va vc v0 v1 v2 v3 : Value} {G : Nat → Prop} {w W : World} {S : Nat} (h : Start Y base B nA n va vc v0 v1 v2 v3 G w W S) (j : Nat) (hj : j < 4) : RowIn W 5 1 G (four v0 v1 v2 v3 j) (n + j) := by
  obtain ⟨r0, r1, r2, r3⟩ := h.rows
  match j, hj with
  | 0, _ => exact r0
  | 1, _ => exact r1
  | 2, _ => exact r2
  | 3, _ => exact r3
theorem Start.at {Y base B nA n : Nat} {va vc v0 v1 v2 v3 : Value} {G : Nat → Prop} {w W : World} {S : Nat} (h : Start Y base B nA n va vc v0 v1 v2 v3 G w W S) (j : Nat) (hj : j < 4) : W.cell? ⟨S, j, none⟩ = some (four v0 v1 v2 v3 j) := by
  have hs := h.sheet
  match j, hj with
  | 0, _ => simp [World.cell?, hs, four]
  | 1, _ => simp [World.cell?, hs, four]
  | 2, _ => simp [World.cell?, hs, four]
  | 3, _ => simp [World.cell?, hs, four]
/-- A list that is written full. -/
def Full (w : World) (T sz : Nat) (F : Nat → Value) (G : Nat → Prop) (s : Value) (m : Nat) : Prop := m = 0 ∨ ∃ g cap, s = .slice (some ⟨g, 0, none⟩) m cap ∧ G g ∧ Done w T F g (m * sz)
theorem Full.set {w : World} {T sz : Nat} {F : Nat → Value} {G : Nat → Prop} {s : Value} {m : Nat} (h : Full w T sz F G s m) (g p : Nat) : Full (w.setCell ⟨g, p, none⟩ (F p)) T sz F G s m := by
  rcases h with h | ⟨g', cap, h1, h2, h3⟩
  · exact .inl h
  · exact .inr ⟨g', cap, h1, h2, h3.set g p⟩
theorem Done.drew {w : World} {T : Nat} {F : Nat → Value} {g m : Nat} (h : Done w T F g m) : Done w.drew T F g m := h
theorem Full.drew {w : World} {T sz : Nat} {F : Nat → Value} {G : Nat → Prop} {s : Value} {m : Nat} (h : Full w T sz F G s m) : Full w.drew T sz F G s m := h
theorem Marks.cell {G : Nat → Prop} {F : Nat → Value} {w w' : World} (h : Marks G F w w') {k o : Nat} (hk : ¬ G k) : w'.cell? ⟨k, o, none⟩ = w.cell? ⟨k, o, none⟩ := by
  unfold World.cell?
  simp only [h.other k hk]

theorem Full.marked {w w' : World} {T sz : Nat} {F : Nat → Value} {G : Nat → Prop} {s : Value} {m TL B : Nat} {W : World} (hr : RowIn W T sz G s m) (h : Full w T sz F G s m) (hB : w.heap.size ≤ B) (k : Keeps TL T w.heap.size w w') : Marked w' T sz F B s := by
  obtain ⟨a, cap, rfl, h1, _⟩ := hr
  refine ⟨a, m, cap, rfl, h1, ?_⟩
  rcases h with h | ⟨g, cap', h2, _, h4⟩
  · exact .inl h
  · simp only [Value.slice.injEq] at h2
    have hlt : g < w.heap.size := by obtain ⟨cur, hc, _⟩ := h4; exact (Array.getElem?_eq_some_iff.1 hc).1
    exact .inr ⟨g, h2.1, by omega, h4.keeps hlt k⟩

theorem own_ty {w : World} {base e size n : Nat} {v : Value} {xs : List Value} (h : w.ownsRow base e size v n xs) (k : Nat) (hk : v.ownBlock = some k) : ∃ cur, w.heap[k]? = some (.cells cur e (0, 0)) := by
  rcases h.2 with ⟨rfl, _⟩ | ⟨g, cap, cur, rfl, _, hgc, _⟩
  · simp [Value.ownBlock] at hk
  · simp only [Value.ownBlock, Option.some.injEq] at hk
    subst hk
    exact ⟨cur, hgc⟩

theorem bBytes_end (Y base B nA n S : Nat) (va vc v0 v1 v2 v3 v6 : Value) (zs : List Value) (G : Nat → Prop) (w W wr w6 : World) (o : Obj) (hC : Start Y base B nA n va vc v0 v1 v2 v3 G w W S)
    (hG : G = fun k => (v0.ownBlock = some k ∨ w.heap.size ≤ k) ∧ k ≠ S) (hB : B ≤ w.heap.size) (hM : Marks G (FA nA) W wr) (hF : ∀ j, j < 4 → Full wr 5 1 (FA nA) G (four v0 v1 v2 v3 j) (n + j))
    (hYr : wr.heap[Y]? = some (.cells #[.slice none 0 0, va, .slice none 0 0, vc] 68 (0, 0))) (hown : wr.ownsRow base 137 1 va nA zs) (hs : ∀ i, i < nA → ∃ S, zs[i]? = some S ∧ Sheet wr 34 5 1 (FA i) B S)
    (h6 : w6.ownsRow base 137 1 v6 (nA + 1) (zs ++ [.slice (some ⟨S, 0, none⟩) 4 4])) (hg : Grew (wr.alloc o) va w6 v6) :
    (w6.setCell ⟨Y, 1, none⟩ v6).heap[Y]? = some (.cells #[.slice none 0 0, v6, .slice none 0 0, vc] 68 (0, 0)) ∧ Part (w6.setCell ⟨Y, 1, none⟩ v6) base 137 34 5 1 FA (w6.setCell ⟨Y, 1, none⟩ v6).heap.size v6 (nA + 1) ∧
      But (fun k => k = Y ∨ va.ownBlock = some k ∨ v0.ownBlock = some k) w (w6.setCell ⟨Y, 1, none⟩ v6) := by
  have hYlt : Y < wr.heap.size := (Array.getElem?_eq_some_iff.1 hYr).1
  have keep6 : ∀ k, k < wr.heap.size → va.ownBlock ≠ some k → w6.heap[k]? = wr.heap[k]? := fun k hk hne => by
    rw [hg.grown.block k (by simp; omega) (Ne.symm hne)]
    exact Below.heap_alloc wr o k hk
  have hvaY : va.ownBlock ≠ some Y := fun e => by obtain ⟨c, hc⟩ := own_ty hown Y e; rw [hYr] at hc; simp at hc
  have hY6 : w6.heap[Y]? = some (.cells #[.slice none 0 0, va, .slice none 0 0, vc] 68 (0, 0)) := (keep6 Y hYlt hvaY).trans hYr
  have keepF : ∀ k, k < wr.heap.size → k ≠ Y → va.ownBlock ≠ some k → (w6.setCell ⟨Y, 1, none⟩ v6).heap[k]? = wr.heap[k]? := fun k hk hkY hne => by
    rw [Below.heap_setCell w6 _ _ k hkY, keep6 k hk hne]
  have hsz6 : wr.heap.size ≤ w6.heap.size := by have := hg.grown.size; simp at this; omega
  have hsz7 : (w6.setCell ⟨Y, 1, none⟩ v6).heap.size = w6.heap.size := by simp
  have hK : Keeps 34 5 wr.heap.size wr (w6.setCell ⟨Y, 1, none⟩ v6) := fun k cur Ty hk hc ht => by
    refine keepF k hk (fun e => ?_) (fun e => ?_)
    · subst e; rw [hYr] at hc; simp only [Option.some.injEq, Obj.cells.injEq] at hc; rcases ht with rfl | rfl <;> simp at hc
    · obtain ⟨c, hc'⟩ := own_ty hown k e; rw [hc] at hc'; simp only [Option.some.injEq, Obj.cells.injEq] at hc'; rcases ht with rfl | rfl <;> simp at hc'
  have hMs := hM.size
  have hWs := hC.but.size
  have hSr : wr.heap[S]? = some (.cells #[v0, v1, v2, v3] 34 (0, 0)) := (hM.other S (by rw [hG]; simp)).trans hC.sheet
  have hSlt : S < wr.heap.size := (Array.getElem?_eq_some_iff.1 hSr).1
  refine ⟨?_, ?_, ?_⟩
  · have := heap_setCell_at (w := w6) (g := Y) (o := 1) (u := v6) hY6
    rw [this]
    rfl
  · refine ⟨_, ⟨h6.1, ?_⟩, fun i hi => ?_⟩
    · rcases h6.2 with h | ⟨g, cap, cur, h1, h2, h3, h4⟩
      · exact .inl h
      · refine .inr ⟨g, cap, cur, h1, h2, ?_, h4⟩
        rw [Below.heap_setCell w6 _ _ g (fun e => by simp only at e; subst e; rw [hY6] at h3; simp at h3)]
        exact h3
    · have hzl : zs.length = nA := by have := hown.1; omega
      by_cases e : i < nA
      · obtain ⟨S', h1, h2⟩ := hs i e
        refine ⟨S', by rw [List.getElem?_append_left (by omega)]; exact h1, ?_⟩
        have h3 : Sheet wr 34 5 1 (FA i) wr.heap.size S' := h2.mono (by omega)
        exact (h3.keeps hK).mono (by omega)
      · obtain rfl : i = nA := by omega
        refine ⟨.slice (some ⟨S, 0, none⟩) 4 4, by rw [List.getElem?_append_right (by omega)]; simp [hzl], ?_⟩
        exact ⟨S, v0, v1, v2, v3, rfl, by omega, (hK S _ 34 hSlt hSr (.inl rfl)).trans hSr, (hC.row 0 (by omega) |> fun r => Full.marked r (hF 0 (by omega)) (by omega) hK), (hC.row 1 (by omega) |> fun r => Full.marked r (hF 1 (by omega)) (by omega) hK), (hC.row 2 (by omega) |> fun r => Full.marked r (hF 2 (by omega)) (by omega) hK), (hC.row 3 (by omega) |> fun r => Full.marked r (hF 3 (by omega)) (by omega) hK)⟩
  · refine ⟨hg.grown.os.trans (hM.os.trans hC.but.os), hg.grown.tape.trans (hM.tape.trans hC.but.tape), hg.grown.output.trans (hM.output.trans hC.but.output), by omega, fun k hk hx => ?_⟩
    have hkr : k < wr.heap.size := by omega
    rw [keepF k hkr (fun e => hx (.inl e)) (fun e => hx (.inr (.inl e))), hM.other k (by rw [hG]; rintro ⟨h | h, _⟩; exact hx (.inr (.inr h)); omega), hC.but.block k hk (fun e => hx (.inr (.inr e)))]

set_option maxHeartbeats 12800000 in
theorem bBytes_any (Y base B nA n : Nat) (va vc l : Value) (xs : List Value) (w : World) (hY : w.heap[Y]? = some (.cells #[.slice none 0 0, va, .slice none 0 0, vc] 68 (0, 0)))
    (hP : Part w base 137 34 5 1 FA B va nA) (hown : w.ownsRow B 5 1 l n xs) (hB : B ≤ w.heap.size) (hbB : base ≤ B) (hn : n ≤ 140737488351240) (hnA : nA ≤ 4398046511104) :
    Calls Tryz.prog 145 #[.pointer (some ⟨Y, 1, none⟩), l] w fun e w' => ∃ va', e = .returned (.tuple #[]) ∧ w'.heap[Y]? = some (.cells #[.slice none 0 0, va', .slice none 0 0, vc] 68 (0, 0)) ∧ Part w' base 137 34 5 1 FA w'.heap.size va' (nA + 1) ∧
      But (fun k => k = Y ∨ va.ownBlock = some k ∨ l.ownBlock = some k) w w' := by
  obtain ⟨i0, hi, hz0, hz1, hz2⟩ := info_parts Tryz.info5
  obtain ⟨i1, hi', hz0', hz1', hz2'⟩ := info_parts Tryz.infoSh
  have hcY : w.cell? ⟨Y, 1, none⟩ = some va := by simp [World.cell?, hY]
  have HP := hide hP
  obtain ⟨ys, hownA, hsA⟩ := hP
  obtain ⟨aa, capA, hva, hva1, hva2, _⟩ := owns_slice hownA
  have hcY' := hcY
  rw [hva] at hcY'
  obtain ⟨al, capl, hll, hl1, hl2, _⟩ := owns_slice hown
  have HOWN := hide hown
  have HL := hide hll
  clear hsA hownA hcY
  subst hll
  unfold maxLen at hva2 hl2
  have HVA := hide hva
  clear hva
  go_enter Tryz.func145, Tryz.ntmps145
  go_wp2_with fail
  refine (sign_any nA n w (by omega) (by omega)).mono ?_
  rintro e w' ⟨rfl, hw⟩
  replace hw := hw.symm
  subst hw
  go_wp2_with fail
  refine (sign_at nA (n + 1) _ (by omega) w (by omega) (by omega)).mono ?_
  rintro e w' ⟨rfl, hw⟩
  replace hw := hw.symm
  subst hw
  go_wp2_with fail
  refine (sign_at nA (n + 2) _ (by omega) w (by omega) (by omega)).mono ?_
  rintro e w' ⟨rfl, hw⟩
  replace hw := hw.symm
  subst hw
  generalize (sg nA n : Int) = x
  generalize (sg nA (n + 1) : Int) = y
  generalize (sg nA (n + 2) : Int) = z
  -- the three appends
  go_wp2_with (at_builtin; refine wpList_append_more _ rfl (.tmp 31) (.tmp 33) 34 34 rfl B 5 i0 (.int .u8 0) 1 1 Tryz.underlying34 hi hz0 hz1 hz2 rfl (by decide) _ _ _ rfl (HOWN.out.alloc _) _ 1 [.int .u8 x] rfl (src_one _ _ Tryz.underlying34 _ rfl) ?_ ?_ ?_ ?_)
  · unfold maxLen; omega
  · omega
  · simp; omega
  · intro v1 w1 hown1 hg1 hl1 hs1
    obtain ⟨a1, cap1, hv1, _, _, _⟩ := owns_slice hown1
    subst hv1
    have hg1 := (Grew.alloc w (.slice al n capl) _).trans hg1
    have hs1 := (Shape.ext ((Ext.refl w).alloc _)).trans hs1
    have hB1 : B ≤ w1.heap.size := by have := hg1.grown.size; omega
    go_wp2_with (at_builtin; refine wpList_append_more _ rfl (.tmp 35) (.tmp 38) 34 34 rfl B 5 i0 (.int .u8 0) 1 1 Tryz.underlying34 hi hz0 hz1 hz2 rfl (by decide) _ _ _ rfl (hl1.alloc _) _ 2 [.int .u8 x, .int .u8 y] rfl (src_two _ _ Tryz.underlying34 _ _ rfl rfl) ?_ ?_ ?_ ?_)
    · unfold maxLen; omega
    · omega
    · simp; omega
    · intro v2 w2 hown2 hg2 hl2' hs2
      obtain ⟨a2, cap2, hv2, _, _, _⟩ := owns_slice hown2
      subst hv2
      have hg2 := (Grew.alloc w1 (.slice al n capl) _).trans hg2
      have hs2 := (Shape.ext ((Ext.refl w1).alloc _)).trans hs2
      have hB2 : B ≤ w2.heap.size := by have := hg2.grown.size; omega
      go_wp2_with (at_builtin; refine wpList_append_more _ rfl (.tmp 40) (.tmp 44) 34 34 rfl B 5 i0 (.int .u8 0) 1 1 Tryz.underlying34 hi hz0 hz1 hz2 rfl (by decide) _ _ _ rfl (hl2'.alloc _) _ 3 [.int .u8 x, .int .u8 y, .int .u8 z] rfl (src_three _ _ Tryz.underlying34 _ _ _ rfl rfl rfl) ?_ ?_ ?_ ?_)
      · unfold maxLen; omega
      · omega
      · simp; omega
      · intro v3 w3 hown3 hg3 hl3 hs3
        obtain ⟨a3, cap3, hv3, _, _, _⟩ := owns_slice hown3
        subst hv3
        have hg3 := (Grew.alloc w2 (.slice al n capl) _).trans hg3
        have hs3 := (Shape.ext ((Ext.refl w2).alloc _)).trans hs3
        have core := bBytes_start Y base B nA n va vc (.slice al n capl) (.slice a1 (n + 1) cap1) (.slice a2 (n + 2) cap2) (.slice a3 (n + 3) cap3) xs _ _ _ w w1 w2 w3 hY HP.out ⟨HOWN.out, hown1, hown2, hown3⟩ hB ⟨hg1, hg2, hg3⟩ ⟨hs1, hs2, hs3⟩
        have HC := hide core
        clear hg1 hg2 hg3 hs1 hs2 hs3 hown1 hown2 hown3 hl1 hl2' hl3 hown core
        go_wp2_with fail
        generalize w3.alloc (.cells #[.slice al n capl, .slice a1 (n + 1) cap1, .slice a2 (n + 2) cap2, .slice a3 (n + 3) cap3] 34) = W at HC ⊢
        generalize w3.heap.size = S at HC ⊢
        generalize Value.slice a1 (n + 1) cap1 = v1 at HC ⊢
        generalize Value.slice a2 (n + 2) cap2 = v2 at HC ⊢
        generalize Value.slice a3 (n + 3) cap3 = v3 at HC ⊢
        obtain ⟨G, hG⟩ : ∃ G : Nat → Prop, G = (fun k => ((Value.slice al n capl).ownBlock = some k ∨ w.heap.size ≤ k) ∧ k ≠ S) := ⟨_, rfl⟩
        rw [← hG] at HC
        have HGG := hide hG
        have hGS : ¬ G S := by rw [hG]; simp
        clear hG
        go_loopw [10] (fun i wr => ∃ J : Nat, J ≤ 4 ∧ i = .int .i64 J ∧ Marks G (FA nA) W wr ∧ Hid (∀ j, j < J → Full wr 5 1 (FA nA) G (four (.slice al n capl) v1 v2 v3 j) (n + j))) (fun i _ => 4 - (intOf i).toNat)
        case atStart => exact ⟨0, by omega, rfl, Marks.refl _ _ _, fun j hj => by omega⟩
        case round =>
          obtain ⟨J, hJ, rfl, hM, HF⟩ := hrel
          by_cases hJ4 : J < 4
          · have hcS : wr.cell? ⟨S, J, none⟩ = some (four (.slice al n capl) v1 v2 v3 J) := by rw [hM.cell hGS]; exact HC.out.at J hJ4
            obtain ⟨aJ, capJ, hsJ, hnJ, hrow⟩ := HC.out.row J hJ4
            have HSJ := hide hsJ
            rw [hsJ] at hcS
            have HRW := hide hrow
            have hJJ : (J : Int) < 4 := by omega
            have HM := hide hM
            unfold maxLen at hnJ
            clear hsJ hrow hM hcS
            go_wp2_with fail
            go_loopw [11] (fun p wz => ∃ q : Nat, q ≤ n + J ∧ p = .int .i64 q ∧ Marks G (FA nA) W wz ∧ Hid (∀ j, j < J → Full wz 5 1 (FA nA) G (four (.slice al n capl) v1 v2 v3 j) (n + j)) ∧ Hid (n + J = 0 ∨ ∃ g, aJ = some ⟨g, 0, none⟩ ∧ G g ∧ Done wz 5 (FA nA) g q)) (fun p _ => n + J - (intOf p).toNat)
            case atStart =>
              refine ⟨0, by omega, rfl, HM.out, HF, ?_⟩
              rcases HRW.out with h | ⟨g, cur, h1, h2, h3, h4⟩
              · exact .inl h
              · obtain ⟨c', h5, h6, _⟩ := HM.out.row g cur 5 h2 h3
                exact .inr ⟨g, h1, h2, c', h5, by omega, fun j hj => by omega⟩
            case round =>
              obtain ⟨q, hq, rfl, hMz, HFz, HDz⟩ := hrel
              have HMz := hide hMz
              have hcS : wr.cell? ⟨S, J, none⟩ = some (.slice aJ (n + J) capJ) := by rw [hMz.cell hGS, HC.out.at J hJ4, HSJ.out]
              clear hMz
              by_cases hqn : q < n + J
              · obtain ⟨g, rfl, hGg, hDg⟩ : ∃ g, aJ = some ⟨g, 0, none⟩ ∧ G g ∧ Done wr 5 (FA nA) g q := by
                  rcases HDz.out with h | h
                  · omega
                  · exact h
                obtain ⟨cur, hcw, hcle⟩ : ∃ cur, W.heap[g]? = some (.cells cur 5 (0, 0)) ∧ (n + J) * 1 ≤ cur.size := by
                  rcases HRW.out with h | ⟨g', cur, h1, h2, h3, h4⟩
                  · omega
                  · simp only [Option.some.injEq, Addr.mk.injEq, and_true] at h1
                    subst h1
                    exact ⟨cur, h3, h4⟩
                obtain ⟨cz, hz5, hz6, _⟩ := HMz.out.row g cur 5 hGg hcw
                obtain ⟨u, hu⟩ : ∃ u, wr.cell? ⟨g, q, none⟩ = some u := by
                  refine ⟨cz[q]'(by omega), ?_⟩
                  simp [World.cell?, hz5, show q < cz.size by omega]
                have hfr : wr.frozen? ⟨g, q, none⟩ = false := by simp [World.frozen?, hz5]
                have HM2 := hide (HMz.out.set hGg hcw q (by omega))
                have HF2 : Hid (∀ j, j < J → Full (wr.setCell ⟨g, q, none⟩ (FA nA q)) 5 1 (FA nA) G (four (.slice al n capl) v1 v2 v3 j) (n + j)) := fun j hj => (HFz.out j hj).set g q
                have HD2 := hide (hDg.more hz5 (by omega))
                have hqq : (q : Int) < (n : Int) + (J : Int) := by omega
                have HGg := hide hGg
                clear hcw hz5 hz6 hDg hGg HDz HFz HMz
                go_wp2_with fail
                go_region_with (go_at_call 66; refine (sign_any nA q _ (by omega) (by omega)).mono ?_; rintro e w' ⟨rfl, hw⟩; replace hw := hw.symm; subst hw)
                all_goals
                  go_wp2
                  go_roundw
                  case rel => exact ⟨q + 1, by omega, by go_num, HM2.out.drew, fun j hj => (HF2.out j hj).drew, .inr ⟨g, rfl, HGg.out, HD2.out.drew⟩⟩
                  case measure => simp [intOf]; omega
              · have hqe : q = n + J := by omega
                have HFJ : Hid (∀ j, j < J + 1 → Full wr 5 1 (FA nA) G (four (.slice al n capl) v1 v2 v3 j) (n + j)) := by
                  intro j hj
                  by_cases ej : j = J
                  · subst ej
                    rcases HDz.out with h | ⟨g, h1, h2, h3⟩
                    · exact .inl h
                    · refine .inr ⟨g, capJ, ?_, h2, by rw [Nat.mul_one, ← hqe]; exact h3⟩
                      rw [HSJ.out, h1]
                  · exact HFz.out j (by omega)
                clear HFz HDz hqe
                go_wp2
                go_roundw
                case rel => exact ⟨J + 1, by omega, by go_num, HMz.out, HFJ⟩
                case measure => simp [intOf]; omega
          · have hJe : J = 4 := by omega
            subst hJe
            have HM := hide hM
            have hGY : ¬ G Y := by
              rw [HGG.out]
              rintro ⟨h | h, _⟩
              · have hc := HOWN.out
                rcases hc.2 with ⟨h1, _⟩ | ⟨g, cap, cur, h1, _, hgc, _⟩
                · rw [h1] at h; simp [Value.ownBlock] at h
                · rw [h1] at h
                  simp only [Value.ownBlock, Option.some.injEq] at h
                  subst h
                  rw [hY] at hgc
                  simp at hgc
              · have := (Array.getElem?_eq_some_iff.1 hY).1
                omega
            have hYr : wr.heap[Y]? = some (.cells #[.slice none 0 0, va, .slice none 0 0, vc] 68 (0, 0)) := (hM.other Y hGY).trans HC.out.heapY
            have hcYr : wr.cell? ⟨Y, 1, none⟩ = some va := by simp [World.cell?, hYr]
            have hfYr : wr.frozen? ⟨Y, 1, none⟩ = false := by simp [World.frozen?, hYr]
            have hPr : Part wr base 137 34 5 1 FA B va nA := HC.out.part.keeps (fun k cur Ty hk hc ht => hM.other k (by
                rw [HGG.out]
                rintro ⟨h | h, _⟩
                · have := (HOWN.out.lt k h).1; omega
                · omega)) (fun g hv => hM.other g (by
                obtain ⟨zs, hz, _⟩ := HC.out.part
                rw [HGG.out]
                rintro ⟨h | h, h'⟩
                · obtain ⟨ys', hy', _⟩ := HP.out
                  rcases HOWN.out.2 with ⟨h1, _⟩ | ⟨g1, cap1, cur1, h1, _, hgc, _⟩
                  · rw [h1] at h; simp [Value.ownBlock] at h
                  · rw [h1] at h
                    simp only [Value.ownBlock, Option.some.injEq] at h
                    subst h
                    rcases hy'.2 with ⟨h2, _⟩ | ⟨g2, cap2, cur2, h2, _, hgc2, _⟩
                    · rw [h2] at hv; simp [Value.ownBlock] at hv
                    · rw [h2] at hv
                      simp only [Value.ownBlock, Option.some.injEq] at hv
                      subst hv
                      rw [hgc] at hgc2
                      simp at hgc2
                · obtain ⟨ys', hy', _⟩ := HP.out
                  have := (hy'.lt g hv).2
                  omega))
            have HPR := hide hPr
            obtain ⟨zs, hownZ, hsZ⟩ := hPr
            have hbz : base ≤ wr.heap.size := by
              have h1 := HC.out.but.size
              have h2 := hM.size
              omega
            have HSZ := hide hsZ
            clear hsZ hM
            go_wp2_with (at_builtin; refine wpList_append_more _ rfl (.tmp 75) (.tmp 77) 62 62 rfl base 137 i1 (.slice none 0 0) 1 24 Tryz.underlying62 hi' hz0' hz1' hz2' rfl (by decide) _ _ _ rfl (hownZ.alloc _) _ 1 [.slice (some ⟨S, 0, none⟩) 4 4] rfl (src_one _ _ Tryz.underlying62 _ rfl) ?_ ?_ ?_ ?_)
            · unfold maxLen; omega
            · omega
            · simp; omega
            · intro v6 w6 hown6 hg6 hl6 hs6
              obtain ⟨a6, cap6, hv6, _, _, _⟩ := owns_slice hown6
              subst hv6
              obtain ⟨r1, r2, r3⟩ := bBytes_end Y base B nA n S va vc (.slice al n capl) v1 v2 v3 (.slice a6 (nA + 1) cap6) zs G w W wr w6 _ HC.out HGG.out hB HM.out HF.out hYr hownZ HSZ.out hown6 hg6
              have hY6 : w6.heap[Y]? = some (.cells #[.slice none 0 0, va, .slice none 0 0, vc] 68 (0, 0)) := by
                have hYlt : Y < wr.heap.size := (Array.getElem?_eq_some_iff.1 hYr).1
                rw [hg6.grown.block Y (by simp; omega) (fun e => by obtain ⟨c, hc⟩ := own_ty hownZ Y e.symm; rw [hYr] at hc; simp at hc), Below.heap_alloc wr _ Y hYlt]
                exact hYr
              have hc6 : w6.cell? ⟨Y, 1, none⟩ = some va := by simp [World.cell?, hY6]
              have hf6 : w6.frozen? ⟨Y, 1, none⟩ = false := by simp [World.frozen?, hY6]
              have R1 := hide r1
              have R2 := hide r2
              have R3 := hide r3
              clear r1 r2 r3 hg6 hown6 hl6 hs6 hY6 hownZ hYr hcYr hfYr
              go_wp2
              go_end0
              exact ⟨_, rfl, R1.out, R2.out, R3.out⟩
end Go.Proofs.YtoijpogadkogcaaGreat
