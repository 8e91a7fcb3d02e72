/-
  The document's own answer: one header read; all of them.
-/
import Derived.Test.YtoijpogadkogcaaGreatRdB
namespace Go.Proofs.YtoijpogadkogcaaGreat
open Go.RowKit
set_option maxRecDepth 100000

theorem Box.only {w w' : World} {R b : Nat} {x y : ByteArray} (h : Box w b x y) (k : Only R w w') (hne : b ≠ R) : Box w' b x y := (k.block b h.lt (fun e => hne (by injection e))).trans h
theorem Only.new {R : Nat} {a b : World} (h : Only R a b) {p : Addr} (hp : a.heap.size ≤ p.block) (u : Value) : Only R a (b.setCell p u) :=
  ⟨h.os, h.tape, h.output, by have := h.size; simpa using this, fun k hk hne => by rw [Below.heap_setCell b p u k (by omega)]; exact h.block k hk hne⟩
theorem Rd.other {w : World} {R : Nat} {v : Value} {n : Nat} {b : Bool} (h : Rd w R v n b) {p : Addr} (hp : p.block ≠ R) (u : Value) : Rd (w.setCell p u) R v n b := by
  show (w.setCell p u).heap[R]? = _
  rw [Below.heap_setCell w p u R (Ne.symm hp)]
  exact h

theorem Box.other {w : World} {b : Nat} {x y : ByteArray} (h : Box w b x y) {p : Addr} (hp : p.block ≠ b) (u : Value) : Box (w.setCell p u) b x y := by
  show (w.setCell p u).heap[b]? = _
  rw [Below.heap_setCell w p u b (Ne.symm hp)]
  exact h

/-- What one header's reading leaves. -/
def One (R : Nat) (v : Value) (l : List UInt8) (D : Option ((List UInt8 × List UInt8) × List UInt8)) (w : World) (e : Ending) (w' : World) : Prop :=
  (∃ p rest, D = some (p, rest) ∧ e = .returned (.agg #[.string ⟨p.1.toArray⟩, .string ⟨p.2.toArray⟩]) ∧ After R v l false w w' (some rest)) ∨
  (D = none ∧ ∃ x y : ByteArray, x.size ≤ 1000 ∧ y.size ≤ 1000 ∧ e = .returned (.agg #[.string x, .string y]) ∧ After R v l false w w' none)

set_option maxHeartbeats 12800000 in
theorem mOne_any (R : Nat) (v : Value) (l : List UInt8) (pos : Nat) (w0 w : World) (h0 : Ext w0 w) (hR : w0.heap.size ≤ R) (hv : IsBytes w0 v l) (hl : l.length ≤ 1000) (hlt : pos < l.length) (hrd : Rd w R v pos false) :
    Calls Tryz.prog 148 #[.pointer (some ⟨R, 0, none⟩)] w fun e w' => One R v l (decRaw (l.drop pos)) w e w' := by
  have HV := hide hv
  obtain ⟨a, cap, rfl, hc1, hc2, hcell⟩ := hv
  obtain ⟨b, o, rfl, hcc⟩ : ∃ b o, a = some ⟨b, o, none⟩ ∧ ∀ i, i < l.length → w0.cell? ⟨b, o + i, none⟩ = some (.int .u8 ((l.getD i 0).toNat : Int)) := by
    rcases hcell with h | h
    · rw [h] at hlt; simp at hlt
    · exact h
  have hRN : w.heap.size ≠ R := fun e => by have := hrd.lt; omega
  have hE := (Ext.refl w).alloc (.cells #[.string ⟨#[]⟩, .string ⟨#[]⟩] 122)
  have hbox := Box.new w ⟨#[]⟩ ⟨#[]⟩
  have hX := h0.trans hE
  have hrd := hrd.ext hE
  have hO := (Only.refl R w).ext hE
  obtain ⟨c, hcE⟩ : ∃ c, l.getD pos 0 = c := ⟨_, rfl⟩
  have hcx : (w.alloc (.cells #[.string ⟨#[]⟩, .string ⟨#[]⟩] 122)).cell? ⟨b, o + pos, none⟩ = some (.int .u8 (c.toNat : Int)) := by rw [hX.cell (hcc pos hlt), hcE]
  have hd := drop_at l pos hlt
  rw [hcE] at hd
  have HDR := hide hd
  have hxl := c.toNat_lt
  have hpl : (pos : Int) < (l.length : Int) := by omega
  have hc0 := hrd.cell0
  have hc1' := hrd.cell1
  have HD0 : Hid (decRaw (l.drop pos) = if c.toNat / 8 = 16 then decA (l.drop pos) else if c.toNat / 8 = 8 then decB (l.drop pos) else if c.toNat = 0 then decC (l.drop (pos + 1)) else none) := by
    show decRaw (l.drop pos) = _
    rw [hd]
    rfl
  generalize decRaw (l.drop pos) = D at HD0 ⊢
  clear hcell hcc hcE h0 hd
  go_enter Tryz.func148, Tryz.ntmps148
  go_wp2_with fail
  go_quiet (fail)
  have hq0 := drewN_ext (w.alloc (.cells #[.string ⟨#[]⟩, .string ⟨#[]⟩] 122)) nq
  generalize (w.alloc (.cells #[.string ⟨#[]⟩, .string ⟨#[]⟩] 122)).drewN nq = w1 at hq0 ⊢
  have hX1 := hX.trans hq0
  have hO1 := hO.ext hq0
  have hrd1 := hrd.ext hq0
  have hbox1 := hbox.ext hq0
  clear hc0 hc1' hcx hE hbox hX hrd hO hq0
  by_cases h16 : c.toNat / 8 = 16
  · have hq16 : ((c.toNat : Int) / 8 == 16) = true := by simp; omega
    go_wp2_with fail
    refine (mNumber3_any R _ l pos false w0 w1 hX1 hR HV.out hl (by omega) hrd1).mono ?_
    rintro e w2 (⟨n, rest, hn, rfl, hO, kk, hkk, hrest, hrd2⟩ | ⟨hn, n, hn8, rfl, hO, kk, hkk, hrd2⟩)
    · have hn9 : n ≤ 9999 := decN_le 7 n _ _ (by omega) hn
      have HE0 : Hid (decE (l.drop pos) = if n < 1 ∨ 16 < n then none else some (tbl.getD (n - 1) ([], []), rest)) := by
        show decE (l.drop pos) = _
        unfold decE
        rw [hn]
      have hX2 := Ext.only hX1 hO hR
      have hO2 := hO1.trans hO
      have hbox2 := hbox1.only hO hRN
      clear hX1 hO1 hbox1 hO
      clear hrd1 hn
      by_cases hbadn : n < 1 ∨ 16 < n
      · have HD : Hid (D = none) := by show D = _; rw [HD0.out, if_pos h16, decA, HE0.out, if_pos hbadn]
        clear HD0 HE0
        go_wp2_with fail
        refine (mKnown_no R _ kk n false w2 hrd2 (.inr hbadn) (by omega)).mono ?_
        rintro e w3 ⟨rfl, hO, hrd3⟩
        clear hrd2 hbadn
        have hX3 := Ext.only hX2 hO hR
        have hO3 := hO2.trans hO
        have hbox3 := hbox2.only hO hRN
        clear hX2 hO2 hbox2 hO
        have HRlt : Hid (R < w3.heap.size) := hrd3.lt
        have hEb := (Ext.refl w3).alloc (.cells #[.string ⟨#[]⟩, .string ⟨#[]⟩] 122)
        have hbx := Box.new w3 ⟨#[]⟩ ⟨#[]⟩
        have hX3b := hX3.trans hEb
        have hO3b := hO3.ext hEb
        have hbox3b := hbox3.ext hEb
        have hrd3b := hrd3.ext hEb
        clear hX3 hO3 hbox3 hrd3 hEb
        have hy0 := hbx.cell0
        have hy1 := hbx.cell1
        have hx0 := hbox3b.cell0
        have hx1 := hbox3b.cell1
        have hf0 := hbox3b.free0
        have hf1 := hbox3b.free1
        have hc2' := hrd3b.cell2
        have hf2 := hrd3b.free2
        have hbz := hbox3b.other (p := ⟨R, 2, none⟩) (Ne.symm hRN) (.bool true)
        have hOz := hO3b.set 2 (.bool true)
        have hrz := hrd3b.set2 true
        have HRB := hide ((hbz.set0 ⟨#[]⟩).set1 ⟨#[]⟩)
        have HOZ := hide ((hOz.new (p := ⟨w.heap.size, 0, none⟩) (Nat.le_refl _) (.string ⟨#[]⟩)).new (p := ⟨w.heap.size, 1, none⟩) (Nat.le_refl _) (.string ⟨#[]⟩))
        have HRZ := hide ((hrz.other (p := ⟨w.heap.size, 0, none⟩) hRN (.string ⟨#[]⟩)).other (p := ⟨w.heap.size, 1, none⟩) hRN (.string ⟨#[]⟩))
        clear hbz hOz hrz hbox3b hO3b hrd3b hX3b
        go_wp2
        have hr0 := HRB.out.cell0
        have hr1 := HRB.out.cell1
        exact bodyPost_ret (v := .agg #[.string ⟨#[]⟩, .string ⟨#[]⟩]) (by simp [results, Tryz.results148, go_sem, hr0, hr1]) rfl (.inr ⟨HD.out, ⟨#[]⟩, ⟨#[]⟩, by decide, by decide, rfl, HOZ.out, kk, hkk, HRZ.out⟩)
      · have HE1 : Hid (decE (l.drop pos) = some (tbl.getD (n - 1) ([], []), rest)) := by show decE (l.drop pos) = _; rw [HE0.out, if_neg hbadn]
        clear HE0
        have hsm := decE_small _ _ _ HE1.out
        go_wp2_with fail
        refine (mKnown_yes R _ kk n w2 hrd2 (by omega) (by omega)).mono ?_
        rintro e w3 ⟨rfl, hE3⟩
        have hX3 := hX2.trans hE3
        have hO3 := hO2.ext hE3
        have hbox3 := hbox2.ext hE3
        have hrd3 := hrd2.ext hE3
        clear hX2 hO2 hbox2 hrd2 hE3
        generalize tbl.getD (n - 1) ([], []) = p at HE1 hsm ⊢
        obtain ⟨hs1, hs2⟩ := hsm
        clear hbadn
        by_cases hpv : p.2 = []
        · have HD : Hid (D = none) := by show D = _; rw [HD0.out, if_pos h16, decA, HE1.out]; simp only; rw [if_pos hpv]
          clear HD0 HE1
          have HPV := hide hpv
          clear hpv
          have HRlt : Hid (R < w3.heap.size) := hrd3.lt
          have hEb := (Ext.refl w3).alloc (.cells #[.string ⟨p.1.toArray⟩, .string ⟨p.2.toArray⟩] 122)
          have hbx := Box.new w3 ⟨p.1.toArray⟩ ⟨p.2.toArray⟩
          have hX3b := hX3.trans hEb
          have hO3b := hO3.ext hEb
          have hbox3b := hbox3.ext hEb
          have hrd3b := hrd3.ext hEb
          clear hX3 hO3 hbox3 hrd3 hEb
          have hy0 := hbx.cell0
          have hy1 := hbx.cell1
          have hem : (p.2 == []) = true := by rw [HPV.out]; rfl
          have hx0 := hbox3b.cell0
          have hx1 := hbox3b.cell1
          have hf0 := hbox3b.free0
          have hf1 := hbox3b.free1
          have hc2' := hrd3b.cell2
          have hf2 := hrd3b.free2
          have hbz := hbox3b.other (p := ⟨R, 2, none⟩) (Ne.symm hRN) (.bool true)
          have hOz := hO3b.set 2 (.bool true)
          have hrz := hrd3b.set2 true
          have HRB := hide ((hbz.set0 ⟨p.1.toArray⟩).set1 ⟨p.2.toArray⟩)
          have HOZ := hide ((hOz.new (p := ⟨w.heap.size, 0, none⟩) (Nat.le_refl _) (.string ⟨p.1.toArray⟩)).new (p := ⟨w.heap.size, 1, none⟩) (Nat.le_refl _) (.string ⟨p.2.toArray⟩))
          have HRZ := hide ((hrz.other (p := ⟨w.heap.size, 0, none⟩) hRN (.string ⟨p.1.toArray⟩)).other (p := ⟨w.heap.size, 1, none⟩) hRN (.string ⟨p.2.toArray⟩))
          clear hbz hOz hrz hbox3b hO3b hrd3b hX3b
          go_wp2
          have hr0 := HRB.out.cell0
          have hr1 := HRB.out.cell1
          exact bodyPost_ret (v := .agg #[.string ⟨p.1.toArray⟩, .string ⟨p.2.toArray⟩]) (by simp [results, Tryz.results148, go_sem, hr0, hr1]) rfl (.inr ⟨HD.out, ⟨p.1.toArray⟩, ⟨p.2.toArray⟩, by show p.1.length ≤ 1000; omega, by show p.2.length ≤ 1000; omega, rfl, HOZ.out, kk, hkk, HRZ.out⟩)
        · have HD : Hid (D = some (p, rest)) := by show D = _; rw [HD0.out, if_pos h16, decA, HE1.out]; simp only; rw [if_neg hpv]
          clear HD0 HE1
          have hem : (p.2 == []) = false := by simpa using hpv
          clear hpv
          have HRlt : Hid (R < w3.heap.size) := hrd3.lt
          have hEb := (Ext.refl w3).alloc (.cells #[.string ⟨p.1.toArray⟩, .string ⟨p.2.toArray⟩] 122)
          have hbx := Box.new w3 ⟨p.1.toArray⟩ ⟨p.2.toArray⟩
          have hX3b := hX3.trans hEb
          have hO3b := hO3.ext hEb
          have hbox3b := hbox3.ext hEb
          have hrd3b := hrd3.ext hEb
          clear hX3 hO3 hbox3 hrd3 hEb
          have hy0 := hbx.cell0
          have hy1 := hbx.cell1
          have hx0 := hbox3b.cell0
          have hx1 := hbox3b.cell1
          have hf0 := hbox3b.free0
          have hf1 := hbox3b.free1
          have hc2' := hrd3b.cell2
          have hf2 := hrd3b.free2
          have hbz := hbox3b
          have hOz := hO3b
          have hrz := hrd3b
          have HRB := hide ((hbz.set0 ⟨p.1.toArray⟩).set1 ⟨p.2.toArray⟩)
          have HOZ := hide ((hOz.new (p := ⟨w.heap.size, 0, none⟩) (Nat.le_refl _) (.string ⟨p.1.toArray⟩)).new (p := ⟨w.heap.size, 1, none⟩) (Nat.le_refl _) (.string ⟨p.2.toArray⟩))
          have HRZ := hide ((hrz.other (p := ⟨w.heap.size, 0, none⟩) hRN (.string ⟨p.1.toArray⟩)).other (p := ⟨w.heap.size, 1, none⟩) hRN (.string ⟨p.2.toArray⟩))
          clear hbz hOz hrz hbox3b hO3b hrd3b hX3b
          go_wp2
          have hr0 := HRB.out.cell0
          have hr1 := HRB.out.cell1
          exact bodyPost_ret (v := .agg #[.string ⟨p.1.toArray⟩, .string ⟨p.2.toArray⟩]) (by simp [results, Tryz.results148, go_sem, hr0, hr1]) rfl (.inl ⟨p, rest, HD.out, rfl, HOZ.out, kk, hkk, hrest, HRZ.out⟩)
    · have HE1 : Hid (decE (l.drop pos) = none) := by show decE (l.drop pos) = none; unfold decE; rw [hn]
      have HD : Hid (D = none) := by show D = _; rw [HD0.out, if_pos h16, decA, HE1.out]
      have hX2 := Ext.only hX1 hO hR
      have hO2 := hO1.trans hO
      have hbox2 := hbox1.only hO hRN
      clear hX1 hO1 hbox1 hO
      clear hrd1 hn HE1 HD0
      go_wp2_with fail
      refine (mKnown_no R _ kk n true w2 hrd2 (.inl rfl) (by omega)).mono ?_
      rintro e w3 ⟨rfl, hO, hrd3⟩
      clear hrd2
      have hX3 := Ext.only hX2 hO hR
      have hO3 := hO2.trans hO
      have hbox3 := hbox2.only hO hRN
      clear hX2 hO2 hbox2 hO
      have HRlt : Hid (R < w3.heap.size) := hrd3.lt
      have hEb := (Ext.refl w3).alloc (.cells #[.string ⟨#[]⟩, .string ⟨#[]⟩] 122)
      have hbx := Box.new w3 ⟨#[]⟩ ⟨#[]⟩
      have hX3b := hX3.trans hEb
      have hO3b := hO3.ext hEb
      have hbox3b := hbox3.ext hEb
      have hrd3b := hrd3.ext hEb
      clear hX3 hO3 hbox3 hrd3 hEb
      have hy0 := hbx.cell0
      have hy1 := hbx.cell1
      have hx0 := hbox3b.cell0
      have hx1 := hbox3b.cell1
      have hf0 := hbox3b.free0
      have hf1 := hbox3b.free1
      have hc2' := hrd3b.cell2
      have hf2 := hrd3b.free2
      have hbz := hbox3b.other (p := ⟨R, 2, none⟩) (Ne.symm hRN) (.bool true)
      have hOz := hO3b.set 2 (.bool true)
      have hrz := hrd3b.set2 true
      have HRB := hide ((hbz.set0 ⟨#[]⟩).set1 ⟨#[]⟩)
      have HOZ := hide ((hOz.new (p := ⟨w.heap.size, 0, none⟩) (Nat.le_refl _) (.string ⟨#[]⟩)).new (p := ⟨w.heap.size, 1, none⟩) (Nat.le_refl _) (.string ⟨#[]⟩))
      have HRZ := hide ((hrz.other (p := ⟨w.heap.size, 0, none⟩) hRN (.string ⟨#[]⟩)).other (p := ⟨w.heap.size, 1, none⟩) hRN (.string ⟨#[]⟩))
      clear hbz hOz hrz hbox3b hO3b hrd3b hX3b
      go_wp2
      have hr0 := HRB.out.cell0
      have hr1 := HRB.out.cell1
      exact bodyPost_ret (v := .agg #[.string ⟨#[]⟩, .string ⟨#[]⟩]) (by simp [results, Tryz.results148, go_sem, hr0, hr1]) rfl (.inr ⟨HD.out, ⟨#[]⟩, ⟨#[]⟩, by decide, by decide, rfl, HOZ.out, kk, hkk, HRZ.out⟩)
  · by_cases h8 : c.toNat / 8 = 8
    · have hq16 : ((c.toNat : Int) / 8 == 16) = false := by simp; omega
      have hq8 : ((c.toNat : Int) / 8 == 8) = true := by simp; omega
      go_wp2_with fail
      refine (mNumber3_any R _ l pos false w0 w1 hX1 hR HV.out hl (by omega) hrd1).mono ?_
      rintro e w2 (⟨n, rest, hn, rfl, hO, kk, hkk, hrest, hrd2⟩ | ⟨hn, n, hn8, rfl, hO, kk, hkk, hrd2⟩)
      · have hn9 : n ≤ 9999 := decN_le 7 n _ _ (by omega) hn
        have HE0 : Hid (decE (l.drop pos) = if n < 1 ∨ 16 < n then none else some (tbl.getD (n - 1) ([], []), rest)) := by
          show decE (l.drop pos) = _
          unfold decE
          rw [hn]
        have hX2 := Ext.only hX1 hO hR
        have hO2 := hO1.trans hO
        have hbox2 := hbox1.only hO hRN
        clear hX1 hO1 hbox1 hO
        clear hrd1 hn
        by_cases hbadn : n < 1 ∨ 16 < n
        · have HD : Hid (D = none) := by show D = _; rw [HD0.out, if_neg h16, if_pos h8, decB, HE0.out, if_pos hbadn]
          clear HD0 HE0
          go_wp2_with fail
          refine (mKnown_no R _ kk n false w2 hrd2 (.inr hbadn) (by omega)).mono ?_
          rintro e w3 ⟨rfl, hO, hrd3⟩
          clear hrd2 hbadn
          have hX3 := Ext.only hX2 hO hR
          have hO3 := hO2.trans hO
          have hbox3 := hbox2.only hO hRN
          clear hX2 hO2 hbox2 hO
          have HRlt : Hid (R < w3.heap.size) := hrd3.lt
          have hEb := (Ext.refl w3).alloc (.cells #[.string ⟨#[]⟩, .string ⟨#[]⟩] 122)
          have hbx := Box.new w3 ⟨#[]⟩ ⟨#[]⟩
          have hX3b := hX3.trans hEb
          have hO3b := hO3.ext hEb
          have hbox3b := hbox3.ext hEb
          have hrd3b := hrd3.ext hEb
          clear hX3 hO3 hbox3 hrd3 hEb
          have hy0 := hbx.cell0
          have hy1 := hbx.cell1
          go_wp2_with fail
          refine (mText_bad R _ l kk w0 _ hX3b hR HV.out hl hkk hrd3b).mono ?_
          rintro e w4 ⟨rfl, hO, k2, hk2, hrd4⟩
          have hbx := hbx.only hO (fun e => by have := HRlt.out; omega)
          have hX4 := Ext.only hX3b hO hR
          have hO4 := hO3b.trans hO
          have hbox4 := hbox3b.only hO hRN
          clear hX3b hO3b hbox3b hO
          clear hy0 hy1 hrd3b
          have hy0 := hbx.cell0
          have hy1 := hbx.cell1
          have hx0 := hbox4.cell0
          have hx1 := hbox4.cell1
          have hf0 := hbox4.free0
          have hf1 := hbox4.free1
          have hc2' := hrd4.cell2
          have hf2 := hrd4.free2
          have hbz := hbox4
          have hOz := hO4
          have hrz := hrd4
          have HRB := hide ((hbz.set0 ⟨#[]⟩).set1 ⟨#[]⟩)
          have HOZ := hide ((hOz.new (p := ⟨w.heap.size, 0, none⟩) (Nat.le_refl _) (.string ⟨#[]⟩)).new (p := ⟨w.heap.size, 1, none⟩) (Nat.le_refl _) (.string ⟨#[]⟩))
          have HRZ := hide ((hrz.other (p := ⟨w.heap.size, 0, none⟩) hRN (.string ⟨#[]⟩)).other (p := ⟨w.heap.size, 1, none⟩) hRN (.string ⟨#[]⟩))
          clear hbz hOz hrz hbox4 hO4 hrd4 hX4
          go_wp2
          have hr0 := HRB.out.cell0
          have hr1 := HRB.out.cell1
          exact bodyPost_ret (v := .agg #[.string ⟨#[]⟩, .string ⟨#[]⟩]) (by simp [results, Tryz.results148, go_sem, hr0, hr1]) rfl (.inr ⟨HD.out, ⟨#[]⟩, ⟨#[]⟩, by decide, by decide, rfl, HOZ.out, k2, hk2, HRZ.out⟩)
        · have HE1 : Hid (decE (l.drop pos) = some (tbl.getD (n - 1) ([], []), rest)) := by show decE (l.drop pos) = _; rw [HE0.out, if_neg hbadn]
          clear HE0
          have hsm := decE_small _ _ _ HE1.out
          go_wp2_with fail
          refine (mKnown_yes R _ kk n w2 hrd2 (by omega) (by omega)).mono ?_
          rintro e w3 ⟨rfl, hE3⟩
          have hX3 := hX2.trans hE3
          have hO3 := hO2.ext hE3
          have hbox3 := hbox2.ext hE3
          have hrd3 := hrd2.ext hE3
          clear hX2 hO2 hbox2 hrd2 hE3
          generalize tbl.getD (n - 1) ([], []) = p at HE1 hsm ⊢
          obtain ⟨hs1, hs2⟩ := hsm
          clear hbadn
          have HRlt : Hid (R < w3.heap.size) := hrd3.lt
          have hEb := (Ext.refl w3).alloc (.cells #[.string ⟨p.1.toArray⟩, .string ⟨p.2.toArray⟩] 122)
          have hbx := Box.new w3 ⟨p.1.toArray⟩ ⟨p.2.toArray⟩
          have hX3b := hX3.trans hEb
          have hO3b := hO3.ext hEb
          have hbox3b := hbox3.ext hEb
          have hrd3b := hrd3.ext hEb
          clear hX3 hO3 hbox3 hrd3 hEb
          have hy0 := hbx.cell0
          have hy1 := hbx.cell1
          go_wp2_with fail
          refine (mText_ok R _ l kk w0 _ hX3b hR HV.out hl hkk hrd3b).mono ?_
          rintro e w4 (⟨t, rest2, hT, rfl, hO, k2, hk2, hrest2, hrd4⟩ | ⟨hT, rfl, hO, k2, hk2, hrd4⟩)
          · have HD : Hid (D = some ((p.1, t), rest2)) := by show D = _; rw [HD0.out, if_neg h16, if_pos h8, decB, HE1.out]; simp only; rw [hrest, hT]
            have hbx := hbx.only hO (fun e => by have := HRlt.out; omega)
            have hX4 := Ext.only hX3b hO hR
            have hO4 := hO3b.trans hO
            have hbox4 := hbox3b.only hO hRN
            clear hX3b hO3b hbox3b hO
            clear hy0 hy1 hrd3b HD0 HE1 hT
            have hy0 := hbx.cell0
            have hy1 := hbx.cell1
            have hx0 := hbox4.cell0
            have hx1 := hbox4.cell1
            have hf0 := hbox4.free0
            have hf1 := hbox4.free1
            have hc2' := hrd4.cell2
            have hf2 := hrd4.free2
            have hbz := hbox4
            have hOz := hO4
            have hrz := hrd4
            have HRB := hide ((hbz.set0 ⟨p.1.toArray⟩).set1 ⟨t.toArray⟩)
            have HOZ := hide ((hOz.new (p := ⟨w.heap.size, 0, none⟩) (Nat.le_refl _) (.string ⟨p.1.toArray⟩)).new (p := ⟨w.heap.size, 1, none⟩) (Nat.le_refl _) (.string ⟨t.toArray⟩))
            have HRZ := hide ((hrz.other (p := ⟨w.heap.size, 0, none⟩) hRN (.string ⟨p.1.toArray⟩)).other (p := ⟨w.heap.size, 1, none⟩) hRN (.string ⟨t.toArray⟩))
            clear hbz hOz hrz hbox4 hO4 hrd4 hX4
            go_wp2
            have hr0 := HRB.out.cell0
            have hr1 := HRB.out.cell1
            exact bodyPost_ret (v := .agg #[.string ⟨p.1.toArray⟩, .string ⟨t.toArray⟩]) (by simp [results, Tryz.results148, go_sem, hr0, hr1]) rfl (.inl ⟨(p.1, t), rest2, HD.out, rfl, HOZ.out, k2, hk2, hrest2, HRZ.out⟩)
          · have HD : Hid (D = none) := by show D = _; rw [HD0.out, if_neg h16, if_pos h8, decB, HE1.out]; simp only; rw [hrest, hT]
            have hbx := hbx.only hO (fun e => by have := HRlt.out; omega)
            have hX4 := Ext.only hX3b hO hR
            have hO4 := hO3b.trans hO
            have hbox4 := hbox3b.only hO hRN
            clear hX3b hO3b hbox3b hO
            clear hy0 hy1 hrd3b HD0 HE1 hT
            have hy0 := hbx.cell0
            have hy1 := hbx.cell1
            have hx0 := hbox4.cell0
            have hx1 := hbox4.cell1
            have hf0 := hbox4.free0
            have hf1 := hbox4.free1
            have hc2' := hrd4.cell2
            have hf2 := hrd4.free2
            have hbz := hbox4
            have hOz := hO4
            have hrz := hrd4
            have HRB := hide ((hbz.set0 ⟨p.1.toArray⟩).set1 ⟨#[]⟩)
            have HOZ := hide ((hOz.new (p := ⟨w.heap.size, 0, none⟩) (Nat.le_refl _) (.string ⟨p.1.toArray⟩)).new (p := ⟨w.heap.size, 1, none⟩) (Nat.le_refl _) (.string ⟨#[]⟩))
            have HRZ := hide ((hrz.other (p := ⟨w.heap.size, 0, none⟩) hRN (.string ⟨p.1.toArray⟩)).other (p := ⟨w.heap.size, 1, none⟩) hRN (.string ⟨#[]⟩))
            clear hbz hOz hrz hbox4 hO4 hrd4 hX4
            go_wp2
            have hr0 := HRB.out.cell0
            have hr1 := HRB.out.cell1
            exact bodyPost_ret (v := .agg #[.string ⟨p.1.toArray⟩, .string ⟨#[]⟩]) (by simp [results, Tryz.results148, go_sem, hr0, hr1]) rfl (.inr ⟨HD.out, ⟨p.1.toArray⟩, ⟨#[]⟩, by show p.1.length ≤ 1000; omega, by decide, rfl, HOZ.out, k2, hk2, HRZ.out⟩)
      · have HE1 : Hid (decE (l.drop pos) = none) := by show decE (l.drop pos) = none; unfold decE; rw [hn]
        have HD : Hid (D = none) := by show D = _; rw [HD0.out, if_neg h16, if_pos h8, decB, HE1.out]
        have hX2 := Ext.only hX1 hO hR
        have hO2 := hO1.trans hO
        have hbox2 := hbox1.only hO hRN
        clear hX1 hO1 hbox1 hO
        clear hrd1 hn HE1 HD0
        go_wp2_with fail
        refine (mKnown_no R _ kk n true w2 hrd2 (.inl rfl) (by omega)).mono ?_
        rintro e w3 ⟨rfl, hO, hrd3⟩
        clear hrd2
        have hX3 := Ext.only hX2 hO hR
        have hO3 := hO2.trans hO
        have hbox3 := hbox2.only hO hRN
        clear hX2 hO2 hbox2 hO
        have HRlt : Hid (R < w3.heap.size) := hrd3.lt
        have hEb := (Ext.refl w3).alloc (.cells #[.string ⟨#[]⟩, .string ⟨#[]⟩] 122)
        have hbx := Box.new w3 ⟨#[]⟩ ⟨#[]⟩
        have hX3b := hX3.trans hEb
        have hO3b := hO3.ext hEb
        have hbox3b := hbox3.ext hEb
        have hrd3b := hrd3.ext hEb
        clear hX3 hO3 hbox3 hrd3 hEb
        have hy0 := hbx.cell0
        have hy1 := hbx.cell1
        go_wp2_with fail
        refine (mText_bad R _ l kk w0 _ hX3b hR HV.out hl hkk hrd3b).mono ?_
        rintro e w4 ⟨rfl, hO, k2, hk2, hrd4⟩
        have hbx := hbx.only hO (fun e => by have := HRlt.out; omega)
        have hX4 := Ext.only hX3b hO hR
        have hO4 := hO3b.trans hO
        have hbox4 := hbox3b.only hO hRN
        clear hX3b hO3b hbox3b hO
        clear hy0 hy1 hrd3b
        have hy0 := hbx.cell0
        have hy1 := hbx.cell1
        have hx0 := hbox4.cell0
        have hx1 := hbox4.cell1
        have hf0 := hbox4.free0
        have hf1 := hbox4.free1
        have hc2' := hrd4.cell2
        have hf2 := hrd4.free2
        have hbz := hbox4
        have hOz := hO4
        have hrz := hrd4
        have HRB := hide ((hbz.set0 ⟨#[]⟩).set1 ⟨#[]⟩)
        have HOZ := hide ((hOz.new (p := ⟨w.heap.size, 0, none⟩) (Nat.le_refl _) (.string ⟨#[]⟩)).new (p := ⟨w.heap.size, 1, none⟩) (Nat.le_refl _) (.string ⟨#[]⟩))
        have HRZ := hide ((hrz.other (p := ⟨w.heap.size, 0, none⟩) hRN (.string ⟨#[]⟩)).other (p := ⟨w.heap.size, 1, none⟩) hRN (.string ⟨#[]⟩))
        clear hbz hOz hrz hbox4 hO4 hrd4 hX4
        go_wp2
        have hr0 := HRB.out.cell0
        have hr1 := HRB.out.cell1
        exact bodyPost_ret (v := .agg #[.string ⟨#[]⟩, .string ⟨#[]⟩]) (by simp [results, Tryz.results148, go_sem, hr0, hr1]) rfl (.inr ⟨HD.out, ⟨#[]⟩, ⟨#[]⟩, by decide, by decide, rfl, HOZ.out, k2, hk2, HRZ.out⟩)
    · have hq16 : ((c.toNat : Int) / 8 == 16) = false := by simp; omega
      have hq8 : ((c.toNat : Int) / 8 == 8) = false := by simp; omega
      by_cases hc00 : c.toNat = 0
      · have hq0 : ¬ (0 : Int) < (c.toNat : Int) := by omega
        have hc1' := hrd1.cell1
        have hf1 := hrd1.free1
        have hrd2 := hrd1.set1 (pos + 1) ((pos : Int) + 1) (by omega)
        have hX2 := Ext.only hX1 ((Only.refl R w1).set 1 (.int .i64 ((pos : Int) + 1))) hR
        have hO2 := hO1.set 1 (.int .i64 ((pos : Int) + 1))
        have hbox2 := hbox1.other (p := ⟨R, 1, none⟩) (Ne.symm hRN) (.int .i64 ((pos : Int) + 1))
        clear hrd1 hX1 hO1 hbox1
        go_wp2_with fail
        generalize w1.setCell ⟨R, 1, none⟩ (.int .i64 ((pos : Int) + 1)) = w2 at hrd2 hX2 hO2 hbox2 ⊢
        clear hc1' hf1
        refine (mText_ok R _ l (pos + 1) w0 _ hX2 hR HV.out hl (by omega) hrd2).mono ?_
        rintro e w3 (⟨t, rest, hT, rfl, hO, kk, hkk, hrest, hrd3⟩ | ⟨hT, rfl, hO, kk, hkk, hrd3⟩)
        · have htl : t.length ≤ 1000 := by have h1 := decT_len _ _ _ hT; have h2 := encT_len t; rw [List.length_drop] at h1; split at h2 <;> omega
          have hX3 := Ext.only hX2 hO hR
          have hO3 := hO2.trans hO
          have hbox3 := hbox2.only hO hRN
          clear hX2 hO2 hbox2 hO
          clear hrd2
          go_wp2_with fail
          refine (mText_ok R _ l kk w0 _ hX3 hR HV.out hl hkk hrd3).mono ?_
          rintro e w4 (⟨t2, rest2, hT2, rfl, hO, k2, hk2, hrest2, hrd4⟩ | ⟨hT2, rfl, hO, k2, hk2, hrd4⟩)
          · have HD : Hid (D = some ((t, t2), rest2)) := by show D = _; rw [HD0.out, if_neg h16, if_neg h8, if_pos hc00, decC, hT]; simp only; rw [hrest, hT2]
            clear hrd3 HD0 hT hT2
            have hX4 := Ext.only hX3 hO hR
            have hO4 := hO3.trans hO
            have hbox4 := hbox3.only hO hRN
            clear hX3 hO3 hbox3 hO
            have hx0 := hbox4.cell0
            have hx1 := hbox4.cell1
            have hf0 := hbox4.free0
            have hf1 := hbox4.free1
            have hc2' := hrd4.cell2
            have hf2 := hrd4.free2
            have hbz := hbox4
            have hOz := hO4
            have hrz := hrd4
            have HRB := hide ((hbz.set0 ⟨t.toArray⟩).set1 ⟨t2.toArray⟩)
            have HOZ := hide ((hOz.new (p := ⟨w.heap.size, 0, none⟩) (Nat.le_refl _) (.string ⟨t.toArray⟩)).new (p := ⟨w.heap.size, 1, none⟩) (Nat.le_refl _) (.string ⟨t2.toArray⟩))
            have HRZ := hide ((hrz.other (p := ⟨w.heap.size, 0, none⟩) hRN (.string ⟨t.toArray⟩)).other (p := ⟨w.heap.size, 1, none⟩) hRN (.string ⟨t2.toArray⟩))
            clear hbz hOz hrz hbox4 hO4 hrd4 hX4
            go_wp2
            have hr0 := HRB.out.cell0
            have hr1 := HRB.out.cell1
            exact bodyPost_ret (v := .agg #[.string ⟨t.toArray⟩, .string ⟨t2.toArray⟩]) (by simp [results, Tryz.results148, go_sem, hr0, hr1]) rfl (.inl ⟨(t, t2), rest2, HD.out, rfl, HOZ.out, k2, hk2, hrest2, HRZ.out⟩)
          · have HD : Hid (D = none) := by show D = _; rw [HD0.out, if_neg h16, if_neg h8, if_pos hc00, decC, hT]; simp only; rw [hrest, hT2]
            clear hrd3 HD0 hT hT2
            have hX4 := Ext.only hX3 hO hR
            have hO4 := hO3.trans hO
            have hbox4 := hbox3.only hO hRN
            clear hX3 hO3 hbox3 hO
            have hx0 := hbox4.cell0
            have hx1 := hbox4.cell1
            have hf0 := hbox4.free0
            have hf1 := hbox4.free1
            have hc2' := hrd4.cell2
            have hf2 := hrd4.free2
            have hbz := hbox4
            have hOz := hO4
            have hrz := hrd4
            have HRB := hide ((hbz.set0 ⟨t.toArray⟩).set1 ⟨#[]⟩)
            have HOZ := hide ((hOz.new (p := ⟨w.heap.size, 0, none⟩) (Nat.le_refl _) (.string ⟨t.toArray⟩)).new (p := ⟨w.heap.size, 1, none⟩) (Nat.le_refl _) (.string ⟨#[]⟩))
            have HRZ := hide ((hrz.other (p := ⟨w.heap.size, 0, none⟩) hRN (.string ⟨t.toArray⟩)).other (p := ⟨w.heap.size, 1, none⟩) hRN (.string ⟨#[]⟩))
            clear hbz hOz hrz hbox4 hO4 hrd4 hX4
            go_wp2
            have hr0 := HRB.out.cell0
            have hr1 := HRB.out.cell1
            exact bodyPost_ret (v := .agg #[.string ⟨t.toArray⟩, .string ⟨#[]⟩]) (by simp [results, Tryz.results148, go_sem, hr0, hr1]) rfl (.inr ⟨HD.out, ⟨t.toArray⟩, ⟨#[]⟩, by show t.length ≤ 1000; omega, by decide, rfl, HOZ.out, k2, hk2, HRZ.out⟩)
        · have HD : Hid (D = none) := by show D = _; rw [HD0.out, if_neg h16, if_neg h8, if_pos hc00, decC, hT]
          have hX3 := Ext.only hX2 hO hR
          have hO3 := hO2.trans hO
          have hbox3 := hbox2.only hO hRN
          clear hX2 hO2 hbox2 hO
          clear hrd2 HD0 hT
          go_wp2_with fail
          refine (mText_bad R _ l kk w0 _ hX3 hR HV.out hl hkk hrd3).mono ?_
          rintro e w4 ⟨rfl, hO, k2, hk2, hrd4⟩
          clear hrd3
          have hX4 := Ext.only hX3 hO hR
          have hO4 := hO3.trans hO
          have hbox4 := hbox3.only hO hRN
          clear hX3 hO3 hbox3 hO
          have hx0 := hbox4.cell0
          have hx1 := hbox4.cell1
          have hf0 := hbox4.free0
          have hf1 := hbox4.free1
          have hc2' := hrd4.cell2
          have hf2 := hrd4.free2
          have hbz := hbox4
          have hOz := hO4
          have hrz := hrd4
          have HRB := hide ((hbz.set0 ⟨#[]⟩).set1 ⟨#[]⟩)
          have HOZ := hide ((hOz.new (p := ⟨w.heap.size, 0, none⟩) (Nat.le_refl _) (.string ⟨#[]⟩)).new (p := ⟨w.heap.size, 1, none⟩) (Nat.le_refl _) (.string ⟨#[]⟩))
          have HRZ := hide ((hrz.other (p := ⟨w.heap.size, 0, none⟩) hRN (.string ⟨#[]⟩)).other (p := ⟨w.heap.size, 1, none⟩) hRN (.string ⟨#[]⟩))
          clear hbz hOz hrz hbox4 hO4 hrd4 hX4
          go_wp2
          have hr0 := HRB.out.cell0
          have hr1 := HRB.out.cell1
          exact bodyPost_ret (v := .agg #[.string ⟨#[]⟩, .string ⟨#[]⟩]) (by simp [results, Tryz.results148, go_sem, hr0, hr1]) rfl (.inr ⟨HD.out, ⟨#[]⟩, ⟨#[]⟩, by decide, by decide, rfl, HOZ.out, k2, hk2, HRZ.out⟩)
      · have HD : Hid (D = none) := by show D = _; rw [HD0.out, if_neg h16, if_neg h8, if_neg hc00]
        have hq0 : (0 : Int) < (c.toNat : Int) := by omega
        clear HD0
        have hx0 := hbox1.cell0
        have hx1 := hbox1.cell1
        have hf0 := hbox1.free0
        have hf1 := hbox1.free1
        have hc2' := hrd1.cell2
        have hf2 := hrd1.free2
        have hbz := hbox1.other (p := ⟨R, 2, none⟩) (Ne.symm hRN) (.bool true)
        have hOz := hO1.set 2 (.bool true)
        have hrz := hrd1.set2 true
        have HRB := hide ((hbz.set0 ⟨#[]⟩).set1 ⟨#[]⟩)
        have HOZ := hide ((hOz.new (p := ⟨w.heap.size, 0, none⟩) (Nat.le_refl _) (.string ⟨#[]⟩)).new (p := ⟨w.heap.size, 1, none⟩) (Nat.le_refl _) (.string ⟨#[]⟩))
        have HRZ := hide ((hrz.other (p := ⟨w.heap.size, 0, none⟩) hRN (.string ⟨#[]⟩)).other (p := ⟨w.heap.size, 1, none⟩) hRN (.string ⟨#[]⟩))
        clear hbz hOz hrz hbox1 hO1 hrd1 hX1
        go_wp2
        have hr0 := HRB.out.cell0
        have hr1 := HRB.out.cell1
        exact bodyPost_ret (v := .agg #[.string ⟨#[]⟩, .string ⟨#[]⟩]) (by simp [results, Tryz.results148, go_sem, hr0, hr1]) rfl (.inr ⟨HD.out, ⟨#[]⟩, ⟨#[]⟩, by decide, by decide, rfl, HOZ.out, pos, (by omega), HRZ.out⟩)

end Go.Proofs.YtoijpogadkogcaaGreat
