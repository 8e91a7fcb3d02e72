/-
  What Pack answers: the bytes of headers that may be, else that they may not be.
-/
import Derived.Test.YtoijpogadkogcaaNum
namespace Go.Proofs.Ytoijpogadkogcaa
open Go.RowKit
set_option maxRecDepth 100000

def pairOf (x y : ByteArray) : List UInt8 × List UInt8 := (x.data.toList, y.data.toList)

set_option maxHeartbeats 800000 in
theorem isHeader_any (x y : ByteArray) (w : World) (hx : x.size ≤ maxLen) (hy : y.size ≤ maxLen) : Calls Try.prog 50 #[.agg #[.string x, .string y]] w fun e w' => e = .returned (.bool (okPair (pairOf x y))) ∧ Ext w w' := by
  cases hn : okName x.data.toList
  · have HN := hide hn
    clear hn
    go_enter Try.func50, Try.ntmps50
    go_wp2_with (first
      | (go_at_call 81; refine (isName_any _ _ hx).mono ?_; rintro e w' ⟨rfl, rfl⟩; rw [HN.out])
      | (go_at_call 82; refine (isValue_any _ _ hy).mono ?_; rintro e w' ⟨rfl, rfl⟩))
    go_ret
    exact ⟨ret_bool (by simp [okPair, pairOf, HN.out]), (Ext.refl _).alloc _⟩
  · have HN := hide hn
    clear hn
    go_enter Try.func50, Try.ntmps50
    go_wp2_with (first
      | (go_at_call 81; refine (isName_any _ _ hx).mono ?_; rintro e w' ⟨rfl, rfl⟩; rw [HN.out])
      | (go_at_call 82; refine (isValue_any _ _ hy).mono ?_; rintro e w' ⟨rfl, rfl⟩))
    go_ret
    exact ⟨ret_bool (by simp [okPair, pairOf, HN.out]), (Ext.refl _).alloc _⟩

theorem owns_other {w : World} {base : Nat} {e : TypeId} {size n : Nat} {v : Value} {xs : List Value} (h : w.ownsRow base e size v n xs) (k : Nat) (hk : w.heap.size ≤ k) : v.ownBlock ≠ some k := by
  intro e
  have := (h.lt k e).2
  omega
theorem Grew.other {w w' : World} {v v' : Value} (h : Grew w v w' v') (k : Nat) (hk : k < w.heap.size) (hv : v.ownBlock ≠ some k) : v'.ownBlock ≠ some k := by
  rcases h.place with e | ⟨g, e, hg⟩
  · rw [e]; exact hv
  · rw [e]; intro h'; injection h' with h'; omega

theorem owns_ext {w w' : World} {base : Nat} {e : TypeId} {size n : Nat} {v : Value} {xs : List Value} (h : w.ownsRow base e size v n xs) (hE : Ext w w') : w'.ownsRow base e size v n xs := by
  refine h.kept (row := Option.none) ⟨hE.os, hE.tape, hE.output, hE.size, fun k hk _ => hE.block k hk⟩ ?_
  cases v.ownBlock with
  | none => exact .inl rfl
  | some g => exact .inr (by simp)
/-- What stood below a slice's own memory, or in another block, stands still. -/
theorem Grew.pairs {w w' : World} {v v' vt : Value} {m : List (List UInt8 × List UInt8)} {base : Nat} {e : TypeId} {size n : Nat} {xs : List Value} (h : Grew w v w' v') (hown : w.ownsRow base e size v n xs) (w0 : World) (h0 : IsPairs w0 vt m) (hb : Below w0.heap.size w0 w) (hbase : w0.heap.size ≤ base) : IsPairs w' vt m :=
  h0.ext (hb.trans (h.below w0.heap.size hb.size (fun k hk => Nat.le_trans hbase (hown.lt k hk).1)))

set_option maxHeartbeats 1600000 in
theorem appendHeader_any (x y : ByteArray) (v vt : Value) (l : List UInt8) (base : Nat) (w : World) (hx : x.size ≤ 60) (hy : y.size ≤ 60) (hl : l.length ≤ 50000) (hb : base ≤ w.heap.size) (ht : IsPairs w vt tbl) (hown : w.ownsRow base 5 1 v l.length (bcells l)) :
    Calls Try.prog 51 #[v, .agg #[.string x, .string y], vt] w fun e w' => ∃ v', e = .returned v' ∧ w'.ownsRow base 5 1 v' (l ++ encH (pairOf x y)).length (bcells (l ++ encH (pairOf x y))) ∧ Grew w v w' v' := by
  obtain ⟨i0, hi, hz0, hz1, hz2⟩ := info_parts Try.info5
  have hle1 : entryOf (pairOf x y) ≤ 16 := least_le _ tbl
  have hle2 : entryNamed x.data.toList ≤ 16 := least_le _ tbl
  obtain ⟨k1, hk1⟩ : ∃ k, k = entryOf (pairOf x y) := ⟨_, rfl⟩
  obtain ⟨k2, hk2⟩ : ∃ k, k = entryNamed x.data.toList := ⟨_, rfl⟩
  rw [← hk1] at hle1
  rw [← hk2] at hle2
  have HK1 : Hid (least (wholeQ (x.data.toList, y.data.toList)) tbl = k1) := hk1.symm
  have HK2 : Hid (least (nameQ x.data.toList) tbl = k2) := hk2.symm
  have HX : Hid (encH (pairOf x y) = if 0 < k1 then encN 128 7 k1 else if 0 < k2 then encN 64 7 k2 ++ encT y.data.toList else 0 :: (encT x.data.toList ++ encT y.data.toList)) := by
    show encH (pairOf x y) = _
    rw [hk1, hk2]
    rfl
  clear hk1 hk2
  generalize encH (pairOf x y) = E at HX ⊢
  have hx0 := (cell_box0 w (.string x) (.string y) 42)
  have hx1 := (cell_box1 w (.string x) (.string y) 42)
  have hE := (Ext.refl w).alloc (.cells #[.string x, .string y] 42)
  have hown0 := hown.alloc (.cells #[.string x, .string y] 42)
  have hne0 := owns_other hown w.heap.size (Nat.le_refl _)
  have hG := Grew.alloc w v (.cells #[.string x, .string y] 42)
  have hsz : base ≤ (w.alloc (.cells #[.string x, .string y] 42)).heap.size := by simp; omega
  have hlt : w.heap.size < (w.alloc (.cells #[.string x, .string y] 42)).heap.size := by simp
  have ht0 := ht.ext hE
  have first : Calls Try.prog 83 #[.agg #[.string x, .string y], vt] (w.alloc (.cells #[.string x, .string y] 42)) fun e w' => e = .returned (.int .i64 (k1 : Int)) ∧ Ext (w.alloc (.cells #[.string x, .string y] 42)) w' := by
    have := entryOf_any x y vt tbl (w.alloc (.cells #[.string x, .string y] 42)) (by decide) ht0
    rwa [HK1.out] at this
  have FIRST := hide first
  have second : ∀ w1, Ext (w.alloc (.cells #[.string x, .string y] 42)) w1 → Calls Try.prog 85 #[.string x, vt] w1 fun e w' => e = .returned (.int .i64 (k2 : Int)) ∧ Ext w1 w' := by
    intro w1 he
    have := entryNamed_any x vt tbl w1 (by decide) (ht0.ext he)
    rwa [HK2.out] at this
  have SECOND := hide second
  clear first second
  by_cases h1 : 0 < k1
  · rw [HX.out, if_pos h1]
    go_enter Try.func51, Try.ntmps51
    go_wp2_with fail
    refine FIRST.out.mono ?_
    rintro e w1 ⟨rfl, hE1⟩
    have hown1 := owns_ext hown0 hE1
    have hsz1 : base ≤ w1.heap.size := by have := hE1.size; omega
    clear hx0 hx1 hown hown0
    go_wp2_with (go_at_call 84; refine (appendNumber_128 k1 v l base w1 (by omega) (by omega) hsz1 hown1).mono ?_; rintro e w2 ⟨v2, rfl, hown2, hgrew2⟩)
    go_ret
    exact ⟨v2, rfl, hown2, hG.trans ((Grew.ext _ _ _ hE1).trans hgrew2)⟩
  · by_cases h2 : 0 < k2
    · rw [HX.out, if_neg h1, if_pos h2]
      have hlen : (l ++ encN 64 7 k2).length ≤ 50002 := by rw [List.length_append]; have := encN_le 64 7 k2; omega
      go_enter Try.func51, Try.ntmps51
      go_wp2_with fail
      refine FIRST.out.mono ?_
      rintro e w1 ⟨rfl, hE1⟩
      have hx0 := hE1.cell hx0
      have hx1 := hE1.cell hx1
      have hown1 := owns_ext hown0 hE1
      have hsz1 : base ≤ w1.heap.size := by have := hE1.size; omega
      have hlt1 : w.heap.size < w1.heap.size := lt_of_cell hx0
      go_wp2_with fail
      refine (SECOND.out w1 hE1).mono ?_
      rintro e w2 ⟨rfl, hE2⟩
      have hx1 := hE2.cell hx1
      have hown2 := owns_ext hown1 hE2
      have hsz2 : base ≤ w2.heap.size := by have := hE2.size; omega
      have hlt2 : w.heap.size < w2.heap.size := lt_of_cell hx1
      clear hx0
      go_wp2_with (go_at_call 84; refine (appendNumber_64 k2 v l base w2 (by omega) (by omega) hsz2 hown2).mono ?_; rintro e w3 ⟨v3, rfl, hown3, hgrew3⟩; have hx1 := hgrew3.cell hx1 hne0)
      have hsz3 : base ≤ w3.heap.size := by have := hgrew3.grown.size; omega
      refine (appendText_any y v3 (l ++ encN 64 7 k2) base w3 hy (by omega) hsz3 hown3).mono ?_
      rintro e w4 ⟨v4, rfl, hown4, hgrew4⟩
      go_wp2
      go_ret
      exact ⟨v4, rfl, by rw [← List.append_assoc]; exact hown4, hG.trans ((Grew.ext _ _ _ hE1).trans ((Grew.ext _ _ _ hE2).trans (hgrew3.trans hgrew4)))⟩
    · rw [HX.out, if_neg h1, if_neg h2]
      have HB : Hid (bcells (l ++ [0]) = bcells l ++ [.int .u8 0] ∧ (l ++ [(0 : UInt8)]).length = l.length + 1) := ⟨by rw [bcells_append]; rfl, by simp⟩
      have HL : Hid (l ++ 0 :: (encT x.data.toList ++ encT y.data.toList) = ((l ++ [0]) ++ encT x.data.toList) ++ encT y.data.toList) := by show l ++ _ = _; simp
      have hlen1 : (l ++ [(0 : UInt8)]).length ≤ 50001 := by simp; omega
      have hlen2 : ((l ++ [(0 : UInt8)]) ++ encT x.data.toList).length ≤ 50100 := by
        have h3 := encT_len x.data.toList
        have h4 : x.data.toList.length = x.size := by simp
        rw [List.length_append, h3]
        split <;> omega
      rw [HL.out]
      generalize hl1 : l ++ [(0 : UInt8)] = l1 at HB hlen1 hlen2 ⊢
      clear hl1 HL
      go_enter Try.func51, Try.ntmps51
      go_wp2_with fail
      refine FIRST.out.mono ?_
      rintro e w1 ⟨rfl, hE1⟩
      have hx0 := hE1.cell hx0
      have hx1 := hE1.cell hx1
      have hown1 := owns_ext hown0 hE1
      have hsz1 : base ≤ w1.heap.size := by have := hE1.size; omega
      have hlt1 : w.heap.size < w1.heap.size := lt_of_cell hx0
      go_wp2_with fail
      refine (SECOND.out w1 hE1).mono ?_
      rintro e w2 ⟨rfl, hE2⟩
      have hx0 := hE2.cell hx0
      have hx1 := hE2.cell hx1
      have hown2 := owns_ext hown1 hE2
      have hsz2 : base ≤ w2.heap.size := by have := hE2.size; omega
      have hlt2 : w.heap.size < w2.heap.size := lt_of_cell hx1
      go_wp2_with (at_builtin; refine wpList_append_src _ rfl (.tmp 30) (.tmp 31) 22 22 rfl base 5 i0 (.int .u8 0) 1 1 Try.underlying22 hi hz0 hz1 hz2 rfl (by decide) _ _ _ rfl (hown2.alloc _) _ 1 [.int .u8 0] rfl (src_one _ _ Try.underlying22 _ rfl) ?_ ?_ ?_ ?_)
      · unfold maxLen; omega
      · omega
      · simp; omega
      · intro v3 w3 hown3 hgrew3
        have hgrew3 := (Grew.alloc w2 v _).trans hgrew3
        have hown3 := owns_len hown3 HB.out.2.symm HB.out.1.symm
        have hx0 := hgrew3.cell hx0 hne0
        have hx1 := hgrew3.cell hx1 hne0
        have hne3 := hgrew3.other _ hlt2 hne0
        have hsz3 : base ≤ w3.heap.size := by have := hgrew3.grown.size; omega
        have hlt3 : w.heap.size < w3.heap.size := lt_of_cell hx1
        go_wp2_with fail
        refine (appendText_any x v3 l1 base w3 hx (by omega) hsz3 hown3).mono ?_
        rintro e w4 ⟨v4, rfl, hown4, hgrew4⟩
        have hx1 := hgrew4.cell hx1 hne3
        have hsz4 : base ≤ w4.heap.size := by have := hgrew4.grown.size; omega
        have hlt4 : w.heap.size < w4.heap.size := lt_of_cell hx1
        go_wp2_with fail
        refine (appendText_any y v4 (l1 ++ encT x.data.toList) base w4 hy (by omega) hsz4 hown4).mono ?_
        rintro e w5 ⟨v5, rfl, hown5, hgrew5⟩
        go_wp2
        go_ret
        exact ⟨v5, rfl, hown5, hG.trans ((Grew.ext _ _ _ hE1).trans ((Grew.ext _ _ _ hE2).trans (hgrew3.trans (hgrew4.trans hgrew5))))⟩

def okAll (m : List (List UInt8 × List UInt8)) : Bool := m.all okPair
/-- What Pack answers. -/
def packs (m : List (List UInt8 × List UInt8)) : Bool := decide (1 ≤ m.length) && decide (m.length ≤ 8) && okAll m

theorem packs_stop (m : List (List UInt8 × List UInt8)) (k : Nat) (hk : k < m.length) (h : okPair (m.getD k ([], [])) = false) : packs m = false := by
  have : okAll m = false := by
    unfold okAll
    rw [List.all_eq_false]
    exact ⟨m[k], List.getElem_mem hk, by rw [List.getD_eq_getElem?_getD, List.getElem?_eq_getElem hk] at h; simpa using h⟩
  unfold packs
  rw [this, Bool.and_false]
theorem packs_end (m : List (List UInt8 × List UInt8)) (h1 : 1 ≤ m.length) (h8 : m.length ≤ 8) (h : ∀ j, j < m.length → okPair (m.getD j ([], [])) = true) : packs m = true := by
  have : okAll m = true := by
    unfold okAll
    rw [List.all_eq_true]
    intro p hp
    obtain ⟨i, hi, rfl⟩ := List.mem_iff_getElem.1 hp
    have := h i hi
    rw [List.getD_eq_getElem?_getD, List.getElem?_eq_getElem hi] at this
    simpa using this
  simp [packs, this, h1, h8]
theorem take_succ (m : List (List UInt8 × List UInt8)) (k : Nat) (hk : k < m.length) : m.take (k + 1) = m.take k ++ [m.getD k ([], [])] := by
  rw [List.take_succ_eq_append_getElem hk, List.getD_eq_getElem?_getD, List.getElem?_eq_getElem hk]
  rfl
theorem encAll_take (m : List (List UInt8 × List UInt8)) (k : Nat) (hk : k < m.length) : encAll (m.take (k + 1)) = encAll (m.take k) ++ encH (m.getD k ([], [])) := by
  rw [take_succ m k hk, encAll_append]
  show _ ++ (encH _ ++ []) = _
  rw [List.append_nil]

theorem Ext.trans' {a w w' : World} {base : Nat} {e : TypeId} {size n : Nat} {v v' : Value} {xs : List Value} (h : Ext a w) (g : Grew w v w' v') (hown : w.ownsRow base e size v n xs) (hb : a.heap.size ≤ base := by exact Nat.le_refl _) : Ext a w' :=
  Below.trans h (g.below a.heap.size h.size (fun k hk => Nat.le_trans hb (hown.lt k hk).1))
theorem owns_mono {w : World} {b b' : Nat} {e : TypeId} {size n : Nat} {v : Value} {xs : List Value} (h : w.ownsRow b e size v n xs) (hb : b' ≤ b) : w.ownsRow b' e size v n xs := by
  refine ⟨h.1, ?_⟩
  rcases h.2 with h2 | ⟨g, cap, cur, h2, h3, h4⟩
  · exact .inl h2
  · exact .inr ⟨g, cap, cur, h2, Nat.le_trans hb h3, h4⟩

set_option maxHeartbeats 3200000 in
theorem pack_any (vh : Value) (m : List (List UInt8 × List UInt8)) (w : World) (hh : IsPairs w vh m) (hs : ∀ p ∈ m, p.1.length ≤ maxLen ∧ p.2.length ≤ maxLen) :
    Calls Try.prog 24 #[vh] w fun e w' => Ext w w' ∧ ((packs m = true ∧ ∃ v, e = .returned (.tuple #[v, .int .i64 0]) ∧ w'.ownsRow w.heap.size 5 1 v (encAll m).length (bcells (encAll m))) ∨ (packs m = false ∧ e = .returned (.tuple #[.slice none 0 0, .int .i64 2]))) := by
  obtain ⟨a, cap, rfl, hc1, hc2, hcell⟩ := hh
  unfold maxLen at hc2
  by_cases h1 : 1 ≤ m.length
  · by_cases h8 : m.length ≤ 8
    · obtain ⟨b, o, rfl, hcc⟩ : ∃ b o, a = some ⟨b, o, none⟩ ∧ ∀ i, i < m.length → w.cell? ⟨b, o + i * 2, none⟩ = some (.string ⟨(m.getD i ([], [])).1.toArray⟩) ∧ w.cell? ⟨b, o + i * 2 + 1, none⟩ = some (.string ⟨(m.getD i ([], [])).2.toArray⟩) := by
        rcases hcell with h | h
        · rw [h] at h1; simp at h1
        · exact h
      have HC := hide hcc
      have HS := hide hs
      clear hcc hs hcell
      go_enter Try.func24, Try.ntmps24
      go_wp2_with fail
      refine (table_any w).mono ?_
      rintro e w1 ⟨vt, rfl, ht1, hE1⟩
      go_wp2_with fail
      go_loopw [5, 19] (fun v i wr => ∃ k : Nat, k ≤ m.length ∧ i = .int .i64 k ∧ wr.ownsRow w1.heap.size 5 1 v (encAll (m.take k)).length (bcells (encAll (m.take k))) ∧ Ext w1 wr ∧ Hid (∀ j, j < k → okPair (m.getD j ([], [])) = true)) (fun _ i _ => m.length - (intOf i).toNat)
      case atStart => exact ⟨0, Nat.zero_le _, rfl, World.ownsRow_nil _ _ _ _, Ext.refl _, fun j h => by omega⟩
      case round =>
        obtain ⟨k, hk, rfl, hown, hEr, HA⟩ := hrel
        by_cases hlt : k < m.length
        · have hE0 := hE1.trans hEr
          have hcA := hE0.cell (HC.out k hlt).1
          have hcB := hE0.cell (HC.out k hlt).2
          have HT : Hid (encAll (m.take (k + 1)) = encAll (m.take k) ++ encH (m.getD k ([], []))) := encAll_take m k hlt
          have HM : Hid (m.getD k ([], []) ∈ m) := by
            show m.getD k ([], []) ∈ m
            rw [List.getD_eq_getElem?_getD, List.getElem?_eq_getElem hlt]
            exact List.getElem_mem hlt
          have HQ := hide (HS.out _ HM.out)
          have hlen : (encAll (m.take k)).length ≤ 84 * 8 := by
            have := encAll_le (m.take k) (fun p hp => by
              obtain ⟨i, hi, rfl⟩ := List.mem_iff_getElem.1 hp
              rw [List.length_take] at hi
              have h2 := HA.out i (by omega)
              rw [List.getD_eq_getElem?_getD, List.getElem?_eq_getElem (by omega)] at h2
              simpa using h2)
            rw [List.length_take] at this
            omega
          generalize hp : m.getD k ([], []) = p at hcA hcB HT HQ
          have HP := hide hp
          clear hp HM
          obtain ⟨x, hx⟩ : ∃ x : ByteArray, x = ⟨p.1.toArray⟩ := ⟨_, rfl⟩
          obtain ⟨y, hy⟩ : ∃ y : ByteArray, y = ⟨p.2.toArray⟩ := ⟨_, rfl⟩
          rw [← hx] at hcA
          rw [← hy] at hcB
          have HO : Hid (pairOf x y = p ∧ x.size = p.1.length ∧ y.size = p.2.length) := by
            subst hx hy
            exact ⟨rfl, rfl, rfl⟩
          clear hx hy
          have hx0 := (cell_box0 wr (.string x) (.string y) 42)
          have hx1 := (cell_box1 wr (.string x) (.string y) 42)
          have hEb := (Ext.refl wr).alloc (.cells #[.string x, .string y] 42)
          have hownb := hown.alloc (.cells #[.string x, .string y] 42)
          have hneb := owns_other hown wr.heap.size (Nat.le_refl _)
          go_wp2_with fail
          refine (isHeader_any x y _ (by rw [HO.out.2.1]; exact HQ.out.1) (by rw [HO.out.2.2]; exact HQ.out.2)).mono ?_
          rintro e w2 ⟨rfl, hE2⟩
          rw [HO.out.1]
          have hx0 := hE2.cell hx0
          have hx1 := hE2.cell hx1
          have hown2 := owns_ext hownb hE2
          have hEw2 := hEr.trans (hEb.trans hE2)
          clear hcA hcB
          cases hok : okPair p
          · have HOK := hide hok
            clear hok
            go_wp2
            go_ret2
            exact ⟨hE1.trans hEw2, .inr ⟨packs_stop m k hlt (by rw [HP.out, HOK.out]), rfl⟩⟩
          · have HOK := hide hok
            clear hok
            have hsz2 : w1.heap.size ≤ w2.heap.size := hEw2.size
            go_wp2_with fail
            refine (appendHeader_any x y u5 vt (encAll (m.take k)) w1.heap.size w2 (by have := okPair_len p HOK.out; rw [HO.out.2.1]; omega) (by have := okPair_len p HOK.out; rw [HO.out.2.2]; omega) (by omega) hsz2 (ht1.ext hEw2) hown2).mono ?_
            rintro e w3 ⟨v3, rfl, hown3, hgrew3⟩
            rw [HO.out.1, ← HT.out] at hown3
            have hE3 : Ext w1 w3 := hEw2.trans' hgrew3 hown2
            go_wp2
            go_roundw
            case rel =>
              refine ⟨k + 1, by omega, by go_num, hown3, hE3, fun j hj => ?_⟩
              by_cases e : j = k
              · subst e; rw [HP.out, HOK.out]
              · exact HA.out j (by omega)
            case measure => simp [intOf]; omega
        · have hkm : m.take k = m := List.take_of_length_le (by omega)
          rw [hkm] at hown
          go_wp2
          go_ret2
          exact ⟨hE1.trans hEr, .inl ⟨packs_end m h1 h8 (fun j hj => HA.out j (by omega)), u5, rfl, owns_mono hown hE1.size⟩⟩
    · go_enter Try.func24, Try.ntmps24
      go_wp2
      go_ret2
      exact ⟨Ext.refl _, .inr ⟨by simp [packs]; omega, rfl⟩⟩
  · go_enter Try.func24, Try.ntmps24
    go_wp2
    go_ret2
    exact ⟨Ext.refl _, .inr ⟨by simp [packs]; omega, rfl⟩⟩
end Go.Proofs.Ytoijpogadkogcaa
