/-
  The document's own answer: the least entries; headers packed.
-/
import Derived.Test.YtoijpogadkogcaaGreatRefB
namespace Go.Proofs.YtoijpogadkogcaaGreat
open Go.RowKit
set_option maxRecDepth 100000

/-- The least place from k on. -/
def leastFrom (q : List UInt8 × List UInt8 → Bool) (l : List (List UInt8 × List UInt8)) (k : Nat) : Nat := if least q (l.drop k) = 0 then 0 else least q (l.drop k) + k
theorem leastFrom_end (q : List UInt8 × List UInt8 → Bool) (l : List (List UInt8 × List UInt8)) : leastFrom q l l.length = 0 := by simp [leastFrom, least]
theorem leastFrom_all (q : List UInt8 × List UInt8 → Bool) (l : List (List UInt8 × List UInt8)) : leastFrom q l 0 = least q l := by simp only [leastFrom, List.drop_zero]; split <;> omega
theorem leastFrom_step (q : List UInt8 × List UInt8 → Bool) (l : List (List UInt8 × List UInt8)) (k : Nat) (hk : k < l.length) : leastFrom q l k = if q (l.getD k ([], [])) = true then k + 1 else leastFrom q l (k + 1) := by
  have e : l.drop k = l.getD k ([], []) :: l.drop (k + 1) := by
    rw [List.getD_eq_getElem?_getD, List.getElem?_eq_getElem hk]
    exact List.drop_eq_getElem_cons hk
  generalize l.getD k ([], []) = a at e ⊢
  generalize hr : l.drop (k + 1) = r at e
  have hl : least q (a :: r) = if q a = true then 1 else if least q r = 0 then 0 else least q r + 1 := rfl
  show (if least q (l.drop k) = 0 then 0 else least q (l.drop k) + k) = if q a = true then k + 1 else (if least q (l.drop (k + 1)) = 0 then 0 else least q (l.drop (k + 1)) + (k + 1))
  rw [e, hr]
  generalize least q (a :: r) = n1 at hl ⊢
  generalize least q r = n2 at hl ⊢
  by_cases hq : q a = true
  · rw [if_pos hq] at hl ⊢; subst hl; simp; omega
  · rw [if_neg hq] at hl ⊢
    by_cases hz : n2 = 0
    · rw [if_pos hz] at hl ⊢; subst hl; simp
    · rw [if_neg hz] at hl ⊢; subst hl; rw [if_neg (by omega)]; omega
theorem leastFrom_le (q : List UInt8 × List UInt8 → Bool) (l : List (List UInt8 × List UInt8)) (k : Nat) (hk : k ≤ l.length) : leastFrom q l k ≤ l.length := by
  have := least_le q (l.drop k)
  rw [List.length_drop] at this
  unfold leastFrom
  split <;> omega

set_option maxHeartbeats 3200000 in
theorem rEntry_any (x y : ByteArray) (w : World) : Calls Tryz.prog 142 #[.agg #[.string x, .string y]] w fun e w' => e = .returned (.tuple #[.int .i64 (entryOf (pairOf x y) : Int), .int .i64 (entryNamed x.data.toList : Int)]) ∧ Ext w w' := by
  have hE := (Ext.refl w).alloc (.cells #[.string x, .string y] 122)
  have hx0 := (cell_box0 w (.string x) (.string y) 122)
  have hx1 := (cell_box1 w (.string x) (.string y) 122)
  have HW : Hid (entryOf (pairOf x y) = leastFrom (wholeQ (pairOf x y)) tbl 0 ∧ entryNamed x.data.toList = leastFrom (nameQ x.data.toList) tbl 0) := ⟨(leastFrom_all _ _).symm, (leastFrom_all _ _).symm⟩
  rw [HW.out.1, HW.out.2]
  clear HW
  go_enter Tryz.func142, Tryz.ntmps142
  go_wp2_with fail
  refine (table_any _).mono ?_
  rintro e w1 ⟨vt, rfl, ht1, hE1⟩
  have hx0 := hE1.cell hx0
  have hx1 := hE1.cell hx1
  have hEw := hE.trans hE1
  obtain ⟨a, cap, rfl, hc1, hc2, hcell⟩ := ht1
  rw [show tbl.length = 16 from rfl] at *
  obtain ⟨b, o, rfl, hcc⟩ : ∃ b o, a = some ⟨b, o, none⟩ ∧ ∀ i, i < 16 → w1.cell? ⟨b, o + i * 2, none⟩ = some (.string ⟨(tbl.getD i ([], [])).1.toArray⟩) ∧ w1.cell? ⟨b, o + i * 2 + 1, none⟩ = some (.string ⟨(tbl.getD i ([], [])).2.toArray⟩) := by
    rcases hcell with h | h
    · cases h
    · exact h
  have HC := hide hcc
  clear hcell hcc hE hE1
  go_wp2_with fail
  go_loopw [5, 6, 7] (fun p q i wr => ∃ k : Nat, k ≤ 16 ∧ i = .int .i64 ((k : Int) - 1) ∧ p = .int .i64 (leastFrom (wholeQ (pairOf x y)) tbl k : Int) ∧ q = .int .i64 (leastFrom (nameQ x.data.toList) tbl k : Int) ∧ Ext w1 wr) (fun _ _ i _ => (intOf i + 1).toNat)
  case atStart => exact ⟨16, Nat.le_refl _, rfl, rfl, rfl, Ext.refl _⟩
  case round =>
    obtain ⟨k, hk, rfl, rfl, rfl, hEr⟩ := hrel
    by_cases hpos : 0 < k
    · obtain ⟨j, rfl⟩ : ∃ j, k = j + 1 := ⟨k - 1, by omega⟩
      have hj : ((j + 1 : Nat) : Int) - 1 = (j : Int) := by omega
      have HJ := hide hj
      rw [hj]
      clear hj
      have hcA := hEr.cell (HC.out j (by omega)).1
      have hcB := hEr.cell (HC.out j (by omega)).2
      have hx0 := hEr.cell hx0
      have hx1 := hEr.cell hx1
      have HS1 := hide (leastFrom_step (wholeQ (pairOf x y)) tbl j (by show j < 16; omega))
      have HS2 := hide (leastFrom_step (nameQ x.data.toList) tbl j (by show j < 16; omega))
      have HL1 := leastFrom_le (wholeQ (pairOf x y)) tbl (j + 1) (by show j + 1 ≤ 16; omega)
      have HL2 := leastFrom_le (nameQ x.data.toList) tbl (j + 1) (by show j + 1 ≤ 16; omega)
      generalize tbl.getD j ([], []) = p at hcA hcB HS1 HS2
      generalize leastFrom (wholeQ (pairOf x y)) tbl (j + 1) = n1 at HS1 HL1 ⊢
      generalize leastFrom (nameQ x.data.toList) tbl (j + 1) = n2 at HS2 HL2 ⊢
      have e1 : wholeQ (pairOf x y) p = ((p.2 != []) && ((p.1 == x.toList) && (p.2 == y.toList))) := wholeQ_is x y p
      have e2 : nameQ x.data.toList p = (p.1 == x.toList) := by rw [nameQ, ByteArray.toList_eq]
      have HE1 := hide e1
      have HE2 := hide e2
      clear e1 e2 hpos
      have hjj : (j : Int) < 16 := by omega
      cases hq1 : (p.1 == x.toList)
      · have HF1 : Hid (leastFrom (wholeQ (pairOf x y)) tbl j = n1) := by show _ = _; rw [HS1.out, HE1.out, hq1]; simp
        have HF2 : Hid (leastFrom (nameQ x.data.toList) tbl j = n2) := by show _ = _; rw [HS2.out, HE2.out, hq1]; simp
        go_wp2_with fail
        go_quiet (fail)
        go_wp2_with fail
        go_quiet (fail)
        go_wp2
        go_roundw
        case rel => exact ⟨j, by omega, by go_num, by rw [HF1.out], by rw [HF2.out], hEr.trans (drewN_ext _ _)⟩
        case measure => simp [intOf]
      · have HF2 : Hid (leastFrom (nameQ x.data.toList) tbl j = j + 1) := by show _ = _; rw [HS2.out, HE2.out, hq1]; simp
        cases hq2 : (p.2 == y.toList)
        · have HF1 : Hid (leastFrom (wholeQ (pairOf x y)) tbl j = n1) := by show _ = _; rw [HS1.out, HE1.out, hq2]; simp
          go_wp2_with fail
          go_quiet (fail)
          go_wp2_with fail
          go_quiet (fail)
          go_wp2
          go_roundw
          case rel => exact ⟨j, by omega, by go_num, by rw [HF1.out], by rw [HF2.out]; go_num, hEr.trans (drewN_ext _ _)⟩
          case measure => simp [intOf]
        · have hpy : p.2 = y.toList := by simpa using hq2
          cases hq3 : (!y.toList.isEmpty)
          · have HF1 : Hid (leastFrom (wholeQ (pairOf x y)) tbl j = n1) := by
              show _ = _
              rw [HS1.out, HE1.out, hpy]
              have : y.toList = [] := by simpa using hq3
              rw [this]; simp
            clear hpy
            go_wp2_with fail
            go_quiet (fail)
            go_wp2_with fail
            go_quiet (fail)
            go_wp2
            go_roundw
            case rel => exact ⟨j, by omega, by go_num, by rw [HF1.out], by rw [HF2.out]; go_num, hEr.trans (drewN_ext _ _)⟩
            case measure => simp [intOf]
          · have HF1 : Hid (leastFrom (wholeQ (pairOf x y)) tbl j = j + 1) := by
              show _ = _
              rw [HS1.out, HE1.out, hpy, hq1]
              have : ¬ y.toList = [] := by simpa using hq3
              simp [this]
            clear hpy
            go_wp2_with fail
            go_quiet (fail)
            go_wp2_with fail
            go_quiet (fail)
            go_wp2
            go_roundw
            case rel => exact ⟨j, by omega, by go_num, by rw [HF1.out]; go_num, by rw [HF2.out]; go_num, hEr.trans (drewN_ext _ _)⟩
            case measure => simp [intOf]
    · obtain rfl : k = 0 := by omega
      go_wp2
      go_ret2
      exact ⟨rfl, hEw.trans hEr⟩

/-- Bytes of a slice as a source. -/
theorem src_bytes {w : World} {base : Nat} {v : Value} {l : List UInt8} (h : w.ownsRow base 5 1 v l.length (bcells l)) : Src Tryz.prog 1 34 v l.length (bcells l) w := by
  rcases h.2 with ⟨rfl, h0⟩ | ⟨g, cap, cur, rfl, hb, hg, hnc, hcm, hcs, htake⟩
  · have : l = [] := List.eq_nil_of_length_eq_zero h0
    subst this
    exact Src.ofNil w Tryz.underlying34 0
  · exact Src.ofSlice w Tryz.underlying34 ⟨g, 0, none⟩ l.length cap (bcells l) (by rw [bcells_length, Nat.mul_one]) (h.cells (g := g) rfl) (fun u hu => by
      obtain ⟨_, _, rfl⟩ := List.mem_map.1 hu
      rfl)
theorem src_ext {w w' : World} {base : Nat} {v : Value} {l : List UInt8} (h : w.ownsRow base 5 1 v l.length (bcells l)) (hE : Ext w w') : Src Tryz.prog 1 34 v l.length (bcells l) w' := src_bytes (owns_ext h hE)

/-- Two slices that lie in different blocks. -/
def Apart (u v : Value) : Prop := ∀ k, u.ownBlock = some k → v.ownBlock ≠ some k
theorem Apart.low {w : World} {u v : Value} {base : Nat} {e : TypeId} {size n : Nat} {xs : List Value} (hu : w.ownsRow base e size u n xs) (hv : ∀ k, v.ownBlock = some k → k < base) : Apart u v := fun k hk he => by
  have h1 := (hu.lt k hk).1
  have h2 := hv k he
  omega
theorem Grew.owns {w w' : World} {v v' u : Value} {base : Nat} {e : TypeId} {size n : Nat} {xs : List Value} (h : Grew w v w' v') (hu : w.ownsRow base e size u n xs) (ha : Apart u v) : w'.ownsRow base e size u n xs := by
  refine hu.kept h.grown ?_
  cases hb : u.ownBlock with
  | none => exact .inl rfl
  | some k => exact .inr (fun e => ha k hb e.symm)
theorem Grew.apart {w w' : World} {v v' u : Value} {base : Nat} {e : TypeId} {size n : Nat} {xs : List Value} (h : Grew w v w' v') (hu : w.ownsRow base e size u n xs) (ha : Apart u v) : Apart u v' := fun k hk => h.other k (hu.lt k hk).2 (ha k hk)

set_option maxHeartbeats 6400000 in
theorem rPack_any (vh : Value) (m : List (List UInt8 × List UInt8)) (w : World) (hh : IsPairs w vh m) (hs : ∀ p ∈ m, p.1.length ≤ maxLen ∧ p.2.length ≤ maxLen) :
    Calls Tryz.prog 103 #[vh] w fun e w' => Ext w w' ∧ ((packs m = true ∧ ∃ v, e = .returned (.tuple #[v, .int .i64 0]) ∧ w'.ownsRow w.heap.size 5 1 v (encAll m).length (bcells (encAll m))) ∨ (packs m = false ∧ e = .returned (.tuple #[.slice none 0 0, .int .i64 2]))) := by
  obtain ⟨i0, hi, hz0, hz1, hz2⟩ := info_parts Tryz.info5
  obtain ⟨a, cap, rfl, hc1, hc2, hcell⟩ := hh
  unfold maxLen at hc2
  by_cases h1 : 1 ≤ m.length
  · by_cases h8 : m.length ≤ 8
    · obtain ⟨b, o, rfl, hcc⟩ : ∃ b o, a = some ⟨b, o, none⟩ ∧ ∀ i, i < m.length → w.cell? ⟨b, o + i * 2, none⟩ = some (.string ⟨(m.getD i ([], [])).1.toArray⟩) ∧ w.cell? ⟨b, o + i * 2 + 1, none⟩ = some (.string ⟨(m.getD i ([], [])).2.toArray⟩) := by
        rcases hcell with h | h
        · rw [h] at h1; simp at h1
        · exact h
      have HC := hide hcc
      have HS := hide hs
      clear hcc hs hcell
      go_enter Tryz.func103, Tryz.ntmps103
      go_wp2_with fail
      go_loopw [4, 5] (fun v i wr => ∃ k : Nat, k ≤ m.length ∧ i = .int .i64 k ∧ wr.ownsRow w.heap.size 5 1 v (encAll (m.take k)).length (bcells (encAll (m.take k))) ∧ Ext w wr ∧ Hid (∀ j, j < k → okPair (m.getD j ([], [])) = true)) (fun _ i _ => m.length - (intOf i).toNat)
      case atStart => exact ⟨0, Nat.zero_le _, rfl, World.ownsRow_nil _ _ _ _, Ext.refl _, fun j h => by omega⟩
      case round =>
        obtain ⟨k, hk, rfl, hown, hEr, HA⟩ := hrel
        by_cases hlt : k < m.length
        · have hcA := hEr.cell (HC.out k hlt).1
          have hcB := hEr.cell (HC.out k hlt).2
          have HT : Hid (encAll (m.take (k + 1)) = encAll (m.take k) ++ encH (m.getD k ([], []))) := encAll_take m k hlt
          have HM : Hid (m.getD k ([], []) ∈ m) := by
            show m.getD k ([], []) ∈ m
            rw [List.getD_eq_getElem?_getD, List.getElem?_eq_getElem hlt]
            exact List.getElem_mem hlt
          have HQ := hide (HS.out _ HM.out)
          have hlen : (encAll (m.take k)).length ≤ 84 * 8 := by
            have := encAll_le (m.take k) (fun p hp => by
              obtain ⟨i, hi, rfl⟩ := List.mem_iff_getElem.1 hp
              rw [List.length_take] at hi
              have h2 := HA.out i (by omega)
              rw [List.getD_eq_getElem?_getD, List.getElem?_eq_getElem (by omega)] at h2
              simpa using h2)
            rw [List.length_take] at this
            omega
          generalize hp : m.getD k ([], []) = p at hcA hcB HT HQ
          have HP := hide hp
          clear hp HM
          obtain ⟨x, hx⟩ : ∃ x : ByteArray, x = ⟨p.1.toArray⟩ := ⟨_, rfl⟩
          obtain ⟨y, hy⟩ : ∃ y : ByteArray, y = ⟨p.2.toArray⟩ := ⟨_, rfl⟩
          rw [← hx] at hcA
          rw [← hy] at hcB
          have HO : Hid (pairOf x y = p ∧ x.size = p.1.length ∧ y.size = p.2.length) := by
            subst hx hy
            exact ⟨rfl, rfl, rfl⟩
          clear hx hy
          have hx0 := (cell_box0 wr (.string x) (.string y) 122)
          have hx1 := (cell_box1 wr (.string x) (.string y) 122)
          have hEb := (Ext.refl wr).alloc (.cells #[.string x, .string y] 122)
          have hownb := hown.alloc (.cells #[.string x, .string y] 122)
          have hneb := owns_other hown wr.heap.size (Nat.le_refl _)
          have hkk : (k : Int) < (m.length : Int) := by omega
          go_wp2_with fail
          refine (rFits_any x y _ (by rw [HO.out.2.1]; exact HQ.out.1) (by rw [HO.out.2.2]; exact HQ.out.2)).mono ?_
          rintro e w2 ⟨rfl, hE2⟩
          rw [HO.out.1]
          have hx0 := hE2.cell hx0
          have hx1 := hE2.cell hx1
          have hown2 := owns_ext hownb hE2
          have hEw2 := hEr.trans (hEb.trans hE2)
          clear hcA hcB
          cases hok : okPair p
          · have HOK := hide hok
            clear hok
            go_wp2
            go_ret2
            exact ⟨hEw2, .inr ⟨packs_stop m k hlt (by rw [HP.out, HOK.out]), rfl⟩⟩
          · have HOK := hide hok
            clear hok
            have hsx : x.size ≤ 20 ∧ y.size ≤ 60 := by have := okPair_len p HOK.out; rw [HO.out.2.1, HO.out.2.2]; omega
            obtain ⟨hsx, hsy⟩ := hsx
            go_wp2_with fail
            refine (rEntry_any x y w2).mono ?_
            rintro e w3 ⟨rfl, hE3⟩
            rw [HO.out.1]
            have hx0 := hE3.cell hx0
            have hx1 := hE3.cell hx1
            have hown3 := owns_ext hown2 hE3
            have hEw3 := hEw2.trans hE3
            have hle1 : entryOf p ≤ 16 := least_le _ tbl
            have hle2 : entryNamed x.data.toList ≤ 16 := least_le _ tbl
            have HN : Hid (encH p = if 0 < entryOf p then encN 128 7 (entryOf p) else if 0 < entryNamed x.data.toList then encN 64 7 (entryNamed x.data.toList) ++ encT y.data.toList else 0 :: (encT x.data.toList ++ encT y.data.toList)) := by
              show encH p = _
              rw [← HO.out.1]
              rfl
            generalize encH p = E at HT HN
            generalize entryOf p = k1 at hle1 HN ⊢
            generalize entryNamed x.data.toList = k2 at hle2 HN ⊢
            go_wp2_with fail
            refine (rText_any y w3 hsy).mono ?_
            rintro e w4 ⟨v4, rfl, hown4, hE4⟩
            have hx0 := hE4.cell hx0
            have hx1 := hE4.cell hx1
            have hownr := owns_ext hown3 hE4
            have HLOW : Hid (∀ k, u4.ownBlock = some k → k < w3.heap.size) := fun k hk => (hown3.lt k hk).2
            have HE4 : Hid (w3.heap.size ≤ w4.heap.size) := hE4.size
            have hEw4 := hEw3.trans hE4
            have hty : (encT y.data.toList).length ≤ 62 := by
              have h3 := encT_len y.data.toList
              have h4 : y.data.toList.length = y.size := by simp
              rw [h3]
              split <;> omega
            have htx : (encT x.data.toList).length ≤ 62 := by
              have h3 := encT_len x.data.toList
              have h4 : x.data.toList.length = x.size := by simp
              rw [h3]
              split <;> omega
            clear hEb hE2 hE3 hE4 hown2 hown3 hown hownb
            by_cases hk1 : 0 < k1
            · have HN2 : Hid (encAll (m.take (k + 1)) = encAll (m.take k) ++ encN 128 7 k1) := by show _ = _; rw [HT.out, HN.out, if_pos hk1]
              clear HT HN
              go_wp2_with fail
              refine (rNumber_128 k1 w4 (by omega)).mono ?_
              rintro e w5 ⟨v5, rfl, hown5, hE5⟩
              have hownr := owns_ext hownr hE5
              have hEw5 := hEw4.trans hE5
              have hzz : w.heap.size ≤ w5.heap.size := hEw5.size
              have hl5 := encN_le 128 7 k1
              generalize encN 128 7 k1 = N at HN2 hown5 hl5
              have hs5 := src_bytes hown5
              go_wp2_with (at_builtin; refine wpList_append_src _ rfl (.tmp 57) (.tmp 59) 34 34 rfl w.heap.size 5 i0 (.int .u8 0) 1 1 Tryz.underlying34 hi hz0 hz1 hz2 rfl (by decide) _ _ _ rfl hownr _ N.length (bcells N) rfl hs5 ?_ ?_ ?_ ?_)
              · unfold maxLen; omega
              · omega
              · exact hzz
              · intro v6 w6 hown6 hgrew6
                have hEf := Ext.trans' hEw5 hgrew6 hownr
                have hfin : w6.ownsRow w.heap.size 5 1 v6 (encAll (m.take (k + 1))).length (bcells (encAll (m.take (k + 1)))) := owns_len hown6 (by rw [HN2.out, List.length_append]) (by rw [HN2.out, bcells_append])
                clear hown6 hgrew6 hownr hs5 hown5 hown4 hx0 hx1
                go_wp2
                go_roundw
                case rel =>
                  refine ⟨k + 1, by omega, by go_num, hfin, hEf, fun j hj => ?_⟩
                  by_cases e : j = k
                  · subst e; rw [HP.out, HOK.out]
                  · exact HA.out j (by omega)
                case measure => simp [intOf]; omega
            · have hlow : ∀ k, u4.ownBlock = some k → k < w3.heap.size := fun k hk => (HLOW.out k hk)
              by_cases hk2 : 0 < k2
              · have HN2 : Hid (encAll (m.take (k + 1)) = (encAll (m.take k) ++ encN 64 7 k2) ++ encT y.data.toList) := by show _ = _; rw [HT.out, HN.out, if_neg hk1, if_pos hk2, List.append_assoc]
                clear HT HN
                have ap4 : Apart v4 u4 := Apart.low hown4 hlow
                go_wp2_with fail
                refine (rNumber_64 k2 w4 (by omega)).mono ?_
                rintro e w5 ⟨v5, rfl, hown5, hE5⟩
                have hownr := owns_ext hownr hE5
                have hown4 := owns_ext hown4 hE5
                have hEw5 := hEw4.trans hE5
                have hzz : w.heap.size ≤ w5.heap.size := hEw5.size
                have hl5 := encN_le 64 7 k2
                generalize encN 64 7 k2 = N at HN2 hown5 hl5
                have hs5 := src_bytes hown5
                go_wp2_with (at_builtin; refine wpList_append_src _ rfl (.tmp 64) (.tmp 66) 34 34 rfl w.heap.size 5 i0 (.int .u8 0) 1 1 Tryz.underlying34 hi hz0 hz1 hz2 rfl (by decide) _ _ _ rfl hownr _ N.length (bcells N) rfl hs5 ?_ ?_ ?_ ?_)
                · unfold maxLen; omega
                · omega
                · exact hzz
                · intro v6 w6 hown6 hgrew6
                  have hE6 := Ext.trans' hEw5 hgrew6 hownr
                  have hown6 : w6.ownsRow w.heap.size 5 1 v6 (encAll (m.take k) ++ N).length (bcells (encAll (m.take k) ++ N)) := owns_len hown6 (by rw [List.length_append]) (by rw [bcells_append])
                  have hown4 := hgrew6.owns hown4 ap4
                  have hs4 := src_bytes hown4
                  have hzz : w.heap.size ≤ w6.heap.size := hE6.size
                  have hl6 : (encAll (m.take k) ++ N).length ≤ 700 := by rw [List.length_append]; omega
                  generalize encAll (m.take k) ++ N = L6 at HN2 hown6 hl6
                  clear hgrew6 hownr hs5 hown5 hx0 hx1
                  go_wp2_with (at_builtin; refine wpList_append_src _ rfl (.tmp 68) (.tmp 69) 34 34 rfl w.heap.size 5 i0 (.int .u8 0) 1 1 Tryz.underlying34 hi hz0 hz1 hz2 rfl (by decide) _ _ _ rfl hown6 _ (encT y.data.toList).length (bcells (encT y.data.toList)) rfl hs4 ?_ ?_ ?_ ?_)
                  · unfold maxLen; omega
                  · omega
                  · exact hzz
                  · intro v7 w7 hown7 hgrew7
                    have hEf := Ext.trans' hE6 hgrew7 hown6
                    have hfin : w7.ownsRow w.heap.size 5 1 v7 (encAll (m.take (k + 1))).length (bcells (encAll (m.take (k + 1)))) := owns_len hown7 (by rw [HN2.out, List.length_append]) (by rw [HN2.out, bcells_append])
                    clear hown7 hgrew7 hown6 hs4 hown4
                    go_wp2
                    go_roundw
                    case rel =>
                      refine ⟨k + 1, by omega, by go_num, hfin, hEf, fun j hj => ?_⟩
                      by_cases e : j = k
                      · subst e; rw [HP.out, HOK.out]
                      · exact HA.out j (by omega)
                    case measure => simp [intOf]; omega
              · have HN2 : Hid (encAll (m.take (k + 1)) = ((encAll (m.take k) ++ [0]) ++ encT x.data.toList) ++ encT y.data.toList) := by show _ = _; rw [HT.out, HN.out, if_neg hk1, if_neg hk2]; simp
                clear HT HN
                have ap4 : Apart v4 u4 := Apart.low hown4 hlow
                have hlow4 : ∀ k, u4.ownBlock = some k → k < w4.heap.size := fun k hk => Nat.lt_of_lt_of_le (hlow k hk) HE4.out
                go_wp2_with fail
                refine (rText_any x w4 (by omega)).mono ?_
                rintro e w5 ⟨v5, rfl, hown5, hE5⟩
                have ap5 : Apart v5 u4 := Apart.low hown5 hlow4
                have hownr := owns_ext hownr hE5
                have hown4 := owns_ext hown4 hE5
                have hEw5 := hEw4.trans hE5
                have hzz : w.heap.size ≤ w5.heap.size + 1 := by have := hEw5.size; omega
                clear hx0 hx1
                go_wp2_with (at_builtin; refine wpList_append_src _ rfl (.tmp 45) (.tmp 46) 34 34 rfl w.heap.size 5 i0 (.int .u8 0) 1 1 Tryz.underlying34 hi hz0 hz1 hz2 rfl (by decide) _ _ _ rfl (hownr.alloc _) _ 1 [.int .u8 0] rfl (src_one _ _ Tryz.underlying34 _ rfl) ?_ ?_ ?_ ?_)
                · unfold maxLen; omega
                · omega
                · simp; omega
                · intro v6 w6 hown6 hgrew6
                  have hE6 := Ext.trans' (hEw5.alloc _) hgrew6 (hownr.alloc _)
                  have hgrew6 := (Grew.alloc w5 u4 _).trans hgrew6
                  have hown6 : w6.ownsRow w.heap.size 5 1 v6 (encAll (m.take k) ++ [0]).length (bcells (encAll (m.take k) ++ [0])) := owns_len hown6 (by rw [List.length_append]; rfl) (by rw [bcells_append]; rfl)
                  have ap46 := hgrew6.apart hown4 ap4
                  have hown4 := hgrew6.owns hown4 ap4
                  have hown5 := hgrew6.owns hown5 ap5
                  have hs5 := src_bytes hown5
                  have hzz : w.heap.size ≤ w6.heap.size := hE6.size
                  have hl6 : (encAll (m.take k) ++ [(0 : UInt8)]).length ≤ 700 := by rw [List.length_append]; simp; omega
                  generalize encAll (m.take k) ++ [(0 : UInt8)] = L6 at HN2 hown6 hl6
                  clear hgrew6 hownr
                  go_wp2_with (at_builtin; refine wpList_append_src _ rfl (.tmp 48) (.tmp 49) 34 34 rfl w.heap.size 5 i0 (.int .u8 0) 1 1 Tryz.underlying34 hi hz0 hz1 hz2 rfl (by decide) _ _ _ rfl hown6 _ (encT x.data.toList).length (bcells (encT x.data.toList)) rfl hs5 ?_ ?_ ?_ ?_)
                  · unfold maxLen; omega
                  · omega
                  · exact hzz
                  · intro v7 w7 hown7 hgrew7
                    have hE7 := Ext.trans' hE6 hgrew7 hown6
                    have hown7 : w7.ownsRow w.heap.size 5 1 v7 (L6 ++ encT x.data.toList).length (bcells (L6 ++ encT x.data.toList)) := owns_len hown7 (by rw [List.length_append]) (by rw [bcells_append])
                    have hown4 := hgrew7.owns hown4 ap46
                    have hs4 := src_bytes hown4
                    have hzz : w.heap.size ≤ w7.heap.size := hE7.size
                    have hl7 : (L6 ++ encT x.data.toList).length ≤ 800 := by rw [List.length_append]; omega
                    generalize L6 ++ encT x.data.toList = L7 at HN2 hown7 hl7
                    clear hgrew7 hown6 hs5 hown5
                    go_wp2_with (at_builtin; refine wpList_append_src _ rfl (.tmp 51) (.tmp 52) 34 34 rfl w.heap.size 5 i0 (.int .u8 0) 1 1 Tryz.underlying34 hi hz0 hz1 hz2 rfl (by decide) _ _ _ rfl hown7 _ (encT y.data.toList).length (bcells (encT y.data.toList)) rfl hs4 ?_ ?_ ?_ ?_)
                    · unfold maxLen; omega
                    · omega
                    · exact hzz
                    · intro v8 w8 hown8 hgrew8
                      have hEf := Ext.trans' hE7 hgrew8 hown7
                      have hfin : w8.ownsRow w.heap.size 5 1 v8 (encAll (m.take (k + 1))).length (bcells (encAll (m.take (k + 1)))) := owns_len hown8 (by rw [HN2.out, List.length_append]) (by rw [HN2.out, bcells_append])
                      clear hown8 hgrew8 hown7 hs4 hown4
                      go_wp2
                      go_roundw
                      case rel =>
                        refine ⟨k + 1, by omega, by go_num, hfin, hEf, fun j hj => ?_⟩
                        by_cases e : j = k
                        · subst e; rw [HP.out, HOK.out]
                        · exact HA.out j (by omega)
                      case measure => simp [intOf]; omega
        · have hkm : m.take k = m := List.take_of_length_le (by omega)
          rw [hkm] at hown
          go_wp2
          go_ret2
          exact ⟨hEr, .inl ⟨packs_end m h1 h8 (fun j hj => HA.out j (by omega)), u4, rfl, hown⟩⟩
    · go_enter Tryz.func103, Tryz.ntmps103
      go_wp2
      go_ret2
      exact ⟨Ext.refl _, .inr ⟨by simp [packs]; omega, rfl⟩⟩
  · go_enter Tryz.func103, Tryz.ntmps103
    go_wp2
    go_ret2
    exact ⟨Ext.refl _, .inr ⟨by simp [packs]; omega, rfl⟩⟩
end Go.Proofs.YtoijpogadkogcaaGreat
