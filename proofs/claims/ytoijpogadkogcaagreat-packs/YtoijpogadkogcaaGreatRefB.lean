/-
  The document's own answer: a text packed; may a header be; the least entries.
-/
import Derived.Test.YtoijpogadkogcaaGreatRef
namespace Go.Proofs.YtoijpogadkogcaaGreat
open Go.RowKit
set_option maxRecDepth 100000

set_option maxHeartbeats 1600000 in
theorem rText_any (s : ByteArray) (w : World) (hs : s.size ≤ 60) : Calls Tryz.prog 143 #[.string s] w fun e w' => ∃ v, e = .returned v ∧ w'.ownsRow w.heap.size 5 1 v (encT s.data.toList).length (bcells (encT s.data.toList)) ∧ Ext w w' := by
  obtain ⟨i0, hi, hz0, hz1, hz2⟩ := info_parts Tryz.info5
  have HE : Hid (bcells (encT s.data.toList) = bcells (encN 0 31 s.size) ++ byteCells s ∧ (encT s.data.toList).length = (encN 0 31 s.size).length + s.size) := by
    have hsz : s.data.toList.length = s.size := by simp
    unfold encT
    rw [hsz]
    exact ⟨by rw [bcells_append]; rfl, by rw [List.length_append, hsz]⟩
  have hN := encN_le 0 31 s.size
  generalize encT s.data.toList = l2 at HE ⊢
  go_enter Tryz.func143, Tryz.ntmps143
  go_wp2_with fail
  refine (rNumber_0 s.size w (by omega)).mono ?_
  rintro e w1 ⟨v1, rfl, hown1, hE1⟩
  have hz : w.heap.size ≤ w1.heap.size := hE1.size
  generalize encN 0 31 s.size = l1 at HE hN hown1
  go_wp2_with (at_builtin; refine wpList_append_src _ rfl (.tmp 7) (.tmp 8) 34 9 rfl w.heap.size 5 i0 (.int .u8 0) 1 1 Tryz.underlying34 hi hz0 hz1 hz2 rfl (by decide) _ _ _ rfl hown1 _ s.size (byteCells s) rfl (Src.ofString _ Tryz.underlying9 s) ?_ ?_ ?_ ?_)
  · unfold maxLen; omega
  · omega
  · exact hz
  · intro v2 w2 hown2 hgrew2
    have hE2 := Ext.trans' hE1 hgrew2 hown1
    go_wp2
    go_ret
    exact ⟨v2, rfl, owns_len hown2 HE.out.2.symm HE.out.1.symm, hE2⟩

/-! ### may a header be -/
/-- A byte of a name, at a place. -/
def fitB (i : Nat) (c : UInt8) : Bool := nameB c || (c.toNat == 58 && i == 0)
theorem okName_fit (l : List UInt8) (h1 : 1 ≤ l.length) (h20 : l.length ≤ 20) (hne : l ≠ [58]) : okName l = true ↔ ∀ i, i < l.length → fitB i (l.getD i 0) = true := by
  have n58 : nameB 58 = false := by decide
  cases l with
  | nil => simp at h1
  | cons c r =>
    by_cases hc : c = 58
    · subst hc
      have hr : 1 < (58 :: r).length := by cases r with | nil => exact absurd rfl hne | cons => simp
      constructor
      · intro h i hi
        simp only [okName, Bool.and_eq_true, List.all_eq_true, List.head?_cons] at h
        rw [if_pos ⟨trivial, hr⟩] at h
        cases i with
        | zero => simp [fitB]
        | succ i =>
          have hi' : i < r.length := by simpa using hi
          have := h.2 (r.getD i 0) (by simp [List.getD_eq_getElem?_getD, List.getElem?_eq_getElem hi'])
          show (nameB (r.getD i 0) || _) = true
          rw [this]; rfl
      · intro h
        simp only [okName, Bool.and_eq_true, decide_eq_true_eq, List.all_eq_true, List.head?_cons]
        refine ⟨⟨h1, h20⟩, ?_⟩
        rw [if_pos ⟨trivial, hr⟩]
        intro x hx
        obtain ⟨i, hi, rfl⟩ := List.mem_iff_getElem.1 hx
        simp only [List.drop_one, List.tail_cons] at hi ⊢
        have := h (i + 1) (by simp; omega)
        simpa [fitB, List.getD_eq_getElem?_getD, List.getElem?_eq_getElem hi] using this
    · have e0 : (if (c :: r).head? = some 58 ∧ 1 < (c :: r).length then 1 else 0) = 0 := by rw [if_neg (by simp [hc])]
      constructor
      · intro h i hi
        simp only [okName, Bool.and_eq_true, List.all_eq_true] at h
        rw [e0] at h
        have := h.2 ((c :: r).getD i 0) (by rw [List.drop_zero, List.getD_eq_getElem?_getD, List.getElem?_eq_getElem hi]; exact List.getElem_mem hi)
        unfold fitB
        rw [this]; rfl
      · intro h
        simp only [okName, Bool.and_eq_true, decide_eq_true_eq, List.all_eq_true]
        refine ⟨⟨h1, h20⟩, ?_⟩
        rw [e0]
        intro x hx
        rw [List.drop_zero] at hx
        obtain ⟨i, hi, rfl⟩ := List.mem_iff_getElem.1 hx
        have := h i hi
        rw [List.getD_eq_getElem?_getD, List.getElem?_eq_getElem hi] at this
        simp only [Option.getD_some, fitB, Bool.or_eq_true, Bool.and_eq_true, beq_iff_eq] at this
        rcases this with h2 | ⟨h2, h3⟩
        · exact h2
        · subst h3
          exact absurd (UInt8.toNat_inj.1 h2 : c = 58) hc

theorem fit_yes (k : Nat) (c : UInt8) (h : fitB k c = true) : (97 ≤ c.toNat ∧ c.toNat ≤ 122) ∨ (48 ≤ c.toNat ∧ c.toNat ≤ 57) ∨ c.toNat = 45 ∨ (c.toNat = 58 ∧ k = 0) := by
  simp only [fitB, nameB_is, Bool.or_eq_true, Bool.and_eq_true, beq_iff_eq, decide_eq_true_eq] at h
  omega
theorem fit_no (k : Nat) (c : UInt8) (h : fitB k c = false) : ¬ ((97 ≤ c.toNat ∧ c.toNat ≤ 122) ∨ (48 ≤ c.toNat ∧ c.toNat ≤ 57) ∨ c.toNat = 45 ∨ (c.toNat = 58 ∧ k = 0)) := by
  simp only [fitB, nameB_is, Bool.or_eq_false_iff, decide_eq_false_iff_not, Bool.and_eq_false_iff, beq_eq_false_iff_ne] at h
  omega

theorem okPair_short (x y : ByteArray) (h : x.size < 1 ∨ 20 < x.size ∨ 60 < y.size ∨ x.toList = [58]) : okPair (pairOf x y) = false := by
  have hx : x.data.toList.length = x.size := by simp
  have hy : y.data.toList.length = y.size := by simp
  rw [ByteArray.toList_eq] at h
  cases hb : okPair (pairOf x y) with
  | false => rfl
  | true =>
    have := okPair_len _ hb
    simp only [pairOf] at this
    rcases h with h | h | h | h
    · omega
    · omega
    · omega
    · simp only [okPair, pairOf, h, Bool.and_eq_true] at hb
      exact absurd hb.1 (by decide)
theorem okPair_is (x y : ByteArray) (h1 : 1 ≤ x.size) (h20 : x.size ≤ 20) (h60 : y.size ≤ 60) (hne : ¬ x.toList = [58]) : okPair (pairOf x y) = true ↔ (∀ i, i < x.size → fitB i (x.data.toList.getD i 0) = true) ∧ ∀ i, i < y.size → valB (y.data.toList.getD i 0) = true := by
  have hx : x.data.toList.length = x.size := by simp
  have hy : y.data.toList.length = y.size := by simp
  rw [ByteArray.toList_eq] at hne
  have := okName_fit x.data.toList (by omega) (by omega) hne
  rw [hx] at this
  simp only [okPair, pairOf, Bool.and_eq_true, this]
  constructor
  · rintro ⟨a, b⟩
    refine ⟨a, fun i hi => ?_⟩
    simp only [okValue, Bool.and_eq_true, List.all_eq_true] at b
    exact b.2 _ (by rw [List.getD_eq_getElem?_getD, List.getElem?_eq_getElem (by omega)]; exact List.getElem_mem _)
  · rintro ⟨a, b⟩
    refine ⟨a, ?_⟩
    simp only [okValue, Bool.and_eq_true, List.all_eq_true, decide_eq_true_eq]
    refine ⟨by omega, fun u hu => ?_⟩
    obtain ⟨i, hi, rfl⟩ := List.mem_iff_getElem.1 hu
    have := b i (by omega)
    rwa [List.getD_eq_getElem?_getD, List.getElem?_eq_getElem hi] at this

set_option maxHeartbeats 3200000 in
theorem rFits_any (x y : ByteArray) (w : World) (hx : x.size ≤ maxLen) (hy : y.size ≤ maxLen) : Calls Tryz.prog 141 #[.agg #[.string x, .string y]] w fun e w' => e = .returned (.bool (okPair (pairOf x y))) ∧ Ext w w' := by
  unfold maxLen at hx hy
  have hE := (Ext.refl w).alloc (.cells #[.string x, .string y] 122)
  have hx0 := (cell_box0 w (.string x) (.string y) 122)
  have hx1 := (cell_box1 w (.string x) (.string y) 122)
  by_cases hbad : x.size < 1 ∨ 20 < x.size ∨ 60 < y.size ∨ x.toList = [58]
  · have HB := hide (okPair_short x y hbad)
    rw [HB.out]
    by_cases c1 : x.size < 1
    · clear hbad
      go_enter Tryz.func141, Tryz.ntmps141
      go_wp2
      go_ret
      exact ⟨rfl, hE⟩
    · by_cases c2 : 20 < x.size
      · clear hbad
        go_enter Tryz.func141, Tryz.ntmps141
        go_wp2
        go_ret
        exact ⟨rfl, hE⟩
      · by_cases c3 : 60 < y.size
        · clear hbad
          go_enter Tryz.func141, Tryz.ntmps141
          go_wp2
          go_ret
          exact ⟨rfl, hE⟩
        · have c4 : (x.toList == [58]) = true := by rcases hbad with h | h | h | h <;> first | omega | simpa using h
          clear hbad
          go_enter Tryz.func141, Tryz.ntmps141
          go_wp2
          go_ret
          exact ⟨rfl, hE⟩
  · have h1 : 1 ≤ x.size := by omega
    have h20 : x.size ≤ 20 := by omega
    have h60 : y.size ≤ 60 := by omega
    have hne : ¬ x.toList = [58] := fun h => hbad (.inr (.inr (.inr h)))
    have HI := hide (okPair_is x y h1 h20 h60 hne)
    have c4 : (x.toList == [58]) = false := by simpa using hne
    clear hbad hne
    generalize okPair (pairOf x y) = R at HI ⊢
    go_enter Tryz.func141, Tryz.ntmps141
    go_wp2
    generalize w.alloc (.cells #[.string x, .string y] 122) = W at hx0 hx1 hE ⊢
    go_loop [4, 5] (fun i _ => ∃ k : Nat, k ≤ x.size ∧ i = .int .i64 k ∧ Hid (∀ j, j < k → fitB j (x.data.toList.getD j 0) = true)) (fun i _ => x.size - (intOf i).toNat)
    case atStart => exact ⟨0, Nat.zero_le _, rfl, fun j h => by omega⟩
    case round =>
      obtain ⟨k, hk, rfl, HA⟩ := hrel
      by_cases hlt : k < x.size
      · have HB : Hid (x.data.toList.getD k 0 = x[k]) := byte_getD x k hlt
        have hv : (x[k]).toNat < 256 := (x[k]).toNat_lt
        cases hf : fitB k x[k]
        · have hR : R = false := by
            cases R with
            | false => rfl
            | true => have := (HI.out.1 rfl).1 k hlt; rw [HB.out, hf] at this; cases this
          subst hR
          have hno := fit_no k _ hf
          clear hf HI
          have b45 : ((x[k].toNat : Int) == 45) = false := by simp; omega
          have b45' : ((x[k].toNat : Int) != 45) = true := by simp; omega
          rcases (by omega : x[k].toNat < 48 ∨ (57 < x[k].toNat ∧ x[k].toNat < 97 ∧ x[k].toNat ≠ 58) ∨ (x[k].toNat = 58 ∧ k ≠ 0) ∨ 122 < x[k].toNat) with c1 | ⟨c1, c2, c3⟩ | ⟨c1, c2⟩ | c1
          · have b58 : ((x[k].toNat : Int) == 58) = false := by simp; omega
            clear hno
            go_wp2
            go_ret
            exact ⟨rfl, hE⟩
          · have b58 : ((x[k].toNat : Int) == 58) = false := by simp; omega
            have d57 : decide ((x[k].toNat : Int) ≤ 57) = false := by simp; omega
            clear hno
            go_wp2
            go_ret
            exact ⟨rfl, hE⟩
          · have b58 : ((x[k].toNat : Int) == 58) = true := by simp; omega
            have bk : ((k : Int) == 0) = false := by simp; omega
            have c1' : 57 < x[k].toNat ∧ x[k].toNat < 97 := by omega
            obtain ⟨c3, c4⟩ := c1'
            have d57 : decide ((x[k].toNat : Int) ≤ 57) = false := by simp; omega
            clear hno c1
            go_wp2
            go_ret
            exact ⟨rfl, hE⟩
          · have b58 : ((x[k].toNat : Int) == 58) = false := by simp; omega
            have d57 : decide ((x[k].toNat : Int) ≤ 57) = false := by simp; omega
            have d122 : decide ((x[k].toNat : Int) ≤ 122) = false := by simp; omega
            clear hno
            go_wp2
            go_ret
            exact ⟨rfl, hE⟩
        · have hyes := fit_yes k _ hf
          have HF := hide hf
          clear hf
          rcases hyes with ⟨a1, a2⟩ | ⟨a1, a2⟩ | a1 | ⟨a1, a2⟩
          · go_wp2
            go_round
            case rel =>
              refine ⟨k + 1, by omega, by go_num, fun j hj => ?_⟩
              by_cases e : j = k
              · subst e; rw [HB.out, HF.out]
              · exact HA.out j (by omega)
            case measure => simp [intOf]; omega
          · go_wp2
            go_round
            case rel =>
              refine ⟨k + 1, by omega, by go_num, fun j hj => ?_⟩
              by_cases e : j = k
              · subst e; rw [HB.out, HF.out]
              · exact HA.out j (by omega)
            case measure => simp [intOf]; omega
          · have b45 : ((x[k].toNat : Int) == 45) = true := by simp; omega
            have b45' : ((x[k].toNat : Int) != 45) = false := by simp; omega
            have a2 : x[k].toNat < 48 := by omega
            clear a1
            go_wp2
            go_round
            case rel =>
              refine ⟨k + 1, by omega, by go_num, fun j hj => ?_⟩
              by_cases e : j = k
              · subst e; rw [HB.out, HF.out]
              · exact HA.out j (by omega)
            case measure => simp [intOf]; omega
          · subst a2
            have b45 : ((x[0].toNat : Int) == 45) = false := by simp; omega
            have b45' : ((x[0].toNat : Int) != 45) = true := by simp; omega
            have b58 : ((x[0].toNat : Int) == 58) = true := by simp; omega
            have a2 : 57 < x[0].toNat := by omega
            have a3 : x[0].toNat < 97 := by omega
            clear a1
            go_wp2
            go_round
            case rel =>
              refine ⟨1, by omega, by go_num, fun j hj => ?_⟩
              obtain rfl : j = 0 := by omega
              rw [HB.out, HF.out]
            case measure => simp [intOf]; omega
      · have HA2 : Hid (∀ j, j < x.size → fitB j (x.data.toList.getD j 0) = true) := fun j hj => HA.out j (by omega)
        clear HA
        go_wp2
        go_loop [6] (fun i => ∃ k : Nat, k ≤ y.size ∧ i = .int .i64 k ∧ Hid (∀ j, j < k → valB (y.data.toList.getD j 0) = true)) (fun i => y.size - (intOf i).toNat)
        case atStart => exact ⟨0, Nat.zero_le _, rfl, fun j h => by omega⟩
        case round =>
          obtain ⟨q, hq, rfl, HV⟩ := hrel
          by_cases hlt2 : q < y.size
          · have HB : Hid (y.data.toList.getD q 0 = y[q]) := byte_getD y q hlt2
            have hv : (y[q]).toNat < 256 := (y[q]).toNat_lt
            by_cases hok : 32 ≤ y[q].toNat ∧ y[q].toNat ≤ 126
            · have HF : Hid (valB y[q] = true) := by show valB y[q] = true; rw [valB_is]; simpa using hok
              obtain ⟨o1, o2⟩ := hok
              go_wp2
              go_round
              case rel =>
                refine ⟨q + 1, by omega, by go_num, fun j hj => ?_⟩
                by_cases e : j = q
                · subst e; rw [HB.out, HF.out]
                · exact HV.out j (by omega)
              case measure => simp [intOf]; omega
            · have hR : R = false := by
                cases R with
                | false => rfl
                | true =>
                  have := (HI.out.1 rfl).2 q hlt2
                  rw [HB.out, valB_is] at this
                  simp at this
                  omega
              subst hR
              by_cases o1 : y[q].toNat < 32
              · clear hok
                go_wp2
                go_ret
                exact ⟨rfl, hE⟩
              · have o2 : 126 < y[q].toNat := by omega
                clear hok
                go_wp2
                go_ret
                exact ⟨rfl, hE⟩
          · have hR : R = true := HI.out.2 ⟨HA2.out, fun j hj => HV.out j (by omega)⟩
            subst hR
            go_wp2
            go_ret
            exact ⟨rfl, hE⟩
end Go.Proofs.YtoijpogadkogcaaGreat
