/-
  An entry, and a header, taken from the front of bytes.
-/
import Derived.Test.YtoijpogadkogcaaGreatText
import Derived.Test.YtoijpogadkogcaaGreatPack
namespace Go.Proofs.YtoijpogadkogcaaGreat
open Go.RowKit
set_option maxRecDepth 100000

/-- A block of two texts. -/
def Box (w : World) (b : Nat) (x y : ByteArray) : Prop := w.heap[b]? = some (.cells #[.string x, .string y] 122 (0, 0))
theorem Box.new (w : World) (x y : ByteArray) : Box (w.alloc (.cells #[.string x, .string y] 122)) w.heap.size x y := heap_alloc_new w _
theorem Box.lt {w : World} {b : Nat} {x y : ByteArray} (h : Box w b x y) : b < w.heap.size := (Array.getElem?_eq_some_iff.1 h).1
theorem Box.ext {w w' : World} {b : Nat} {x y : ByteArray} (h : Box w b x y) (e : Ext w w') : Box w' b x y := (e.block b h.lt).trans h
theorem Box.cell0 {w : World} {b : Nat} {x y : ByteArray} (h : Box w b x y) : w.cell? ⟨b, 0, none⟩ = some (.string x) := by unfold Box at h; simp [World.cell?, h]
theorem Box.cell1 {w : World} {b : Nat} {x y : ByteArray} (h : Box w b x y) : w.cell? ⟨b, 1, none⟩ = some (.string y) := by unfold Box at h; simp [World.cell?, h]
theorem Box.free0 {w : World} {b : Nat} {x y : ByteArray} (h : Box w b x y) : w.frozen? ⟨b, 0, none⟩ = false := by unfold Box at h; simp [World.frozen?, h]
theorem Box.free1 {w : World} {b : Nat} {x y : ByteArray} (h : Box w b x y) : w.frozen? ⟨b, 1, none⟩ = false := by unfold Box at h; simp [World.frozen?, h]
theorem Box.set0 {w : World} {b : Nat} {x y : ByteArray} (h : Box w b x y) (u : ByteArray) : Box (w.setCell ⟨b, 0, none⟩ (.string u)) b u y := by
  have hlt := h.lt
  have h' : w.heap[b] = .cells #[.string x, .string y] 122 (0, 0) := (Array.getElem?_eq_some_iff.1 h).2
  show (w.heap.modify b _)[b]? = _
  rw [Array.getElem?_eq_getElem (by simpa using hlt), Array.getElem_modify_self, h']
  rfl
theorem Box.set1 {w : World} {b : Nat} {x y : ByteArray} (h : Box w b x y) (u : ByteArray) : Box (w.setCell ⟨b, 1, none⟩ (.string u)) b x u := by
  have hlt := h.lt
  have h' : w.heap[b] = .cells #[.string x, .string y] 122 (0, 0) := (Array.getElem?_eq_some_iff.1 h).2
  show (w.heap.modify b _)[b]? = _
  rw [Array.getElem?_eq_getElem (by simpa using hlt), Array.getElem_modify_self, h']
  rfl
theorem Ext.setCell {a w : World} (h : Ext a w) {p : Addr} (hp : a.heap.size ≤ p.block) (u : Value) : Ext a (w.setCell p u) := Below.setCell h hp u

/-- A text's cell is none of the bytes'. -/
theorem IsBytes.set {w : World} {v : Value} {l : List UInt8} (h : IsBytes w v l) {p : Addr} {s : ByteArray} (hp : w.cell? p = some (.string s)) (u : Value) : IsBytes (w.setCell p u) v l := by
  obtain ⟨a, cap, rfl, h1, h2, h3⟩ := h
  refine ⟨a, cap, rfl, h1, h2, ?_⟩
  rcases h3 with h3 | ⟨b, o, rfl, hc⟩
  · exact .inl h3
  · refine .inr ⟨b, o, rfl, fun i hi => ?_⟩
    have := hc i hi
    rw [World.cell?_setCell_other]
    · exact this
    · intro e
      rw [← e, hp] at this
      simp at this
/-- Both texts of a box written. -/
theorem IsBytes.box {w : World} {v : Value} {l : List UInt8} (h : IsBytes w v l) {b : Nat} {x y : ByteArray} (hb : Box w b x y) (u u' : ByteArray) : IsBytes ((w.setCell ⟨b, 0, none⟩ (.string u)).setCell ⟨b, 1, none⟩ (.string u')) v l :=
  (h.set hb.cell0 _).set (hb.set0 u).cell1 _

set_option maxHeartbeats 3200000 in
theorem cutEntry_any (v vt : Value) (l : List UInt8) (w0 w : World) (h0 : Ext w0 w) (h : IsBytes w0 v l) (hl : l.length ≤ 100000) (ht : IsPairs w vt tbl) :
    Calls Tryz.prog 195 #[v, vt] w fun e w' => Ext w w' ∧ ((∃ p rest v', decE l = some (p, rest) ∧ e = .returned (.tuple #[.agg #[.string ⟨p.1.toArray⟩, .string ⟨p.2.toArray⟩], v', .bool true]) ∧ IsBytes w0 v' rest) ∨ (decE l = none ∧ e = .returned (.tuple #[.agg #[.string ⟨#[]⟩, .string ⟨#[]⟩], .slice none 0 0, .bool false]))) := by
  have hE0 := (Ext.refl w).alloc (.cells #[.string ⟨#[]⟩, .string ⟨#[]⟩] 122)
  have hbox := Box.new w ⟨#[]⟩ ⟨#[]⟩
  have ht0 := ht.ext hE0
  clear ht
  go_enter Tryz.func195, Tryz.ntmps195
  go_wp2_with fail
  refine (cutNumber3_any _ l w0 _ (h0.trans hE0) h hl).mono ?_
  rintro e w2 ⟨hE2, hor⟩
  have hbox := hbox.ext hE2
  have hx0 := hbox.cell0
  have hx1 := hbox.cell1
  have hf0 := hbox.free0
  have hf1 := hbox.free1
  have hN : w.heap.size < w2.heap.size := hbox.lt
  have hEE := hE0.trans hE2
  have hEE0 := (hEE.setCell (p := ⟨w.heap.size, 0, none⟩) (Nat.le_refl _) (.string ⟨#[]⟩)).setCell (p := ⟨w.heap.size, 1, none⟩) (Nat.le_refl _) (.string ⟨#[]⟩)
  have HX := hide (And.intro hEE hEE0)
  obtain ⟨at', capt, rfl, ht1, ht2, ht3⟩ := ht0.ext hE2
  rw [show tbl.length = 16 from rfl] at *
  have HT := hide ht3
  have HBX := hide hbox
  clear ht0 hE2 ht3 hbox hEE hEE0 hE0
  rcases hor with ⟨n, rest, v2, hd, rfl, hB2⟩ | ⟨hd, rfl⟩
  · have hn : n ≤ 9999 := decN_le 7 n _ _ (by omega) hd
    have HB2 := hide hB2
    clear hB2
    by_cases hlo : n < 1 ∨ 16 < n
    · have HD : Hid (decE l = none) := by show decE l = none; simp only [decE, hd]; rw [if_pos (by omega)]
      clear hd
      by_cases h1 : n < 1
      all_goals
        go_wp2
        refine bodyPost_ret (v := .tuple #[.agg #[.string ⟨#[]⟩, .string ⟨#[]⟩], .slice none 0 0, .bool false]) (by simp [results, Tryz.results195, go_sem, *]) rfl ⟨HX.out.2, .inr ⟨HD.out, rfl⟩⟩
    · have HD : Hid (decE l = some (tbl.getD (n - 1) ([], []), rest)) := by show decE l = _; simp only [decE, hd]; rw [if_neg (by omega)]
      clear hd
      obtain ⟨b, o, rfl, hcc⟩ : ∃ b o, at' = some ⟨b, o, none⟩ ∧ ∀ i, i < 16 → w2.cell? ⟨b, o + i * 2, none⟩ = some (.string ⟨(tbl.getD i ([], [])).1.toArray⟩) ∧ w2.cell? ⟨b, o + i * 2 + 1, none⟩ = some (.string ⟨(tbl.getD i ([], [])).2.toArray⟩) := by
        rcases HT.out with h | h
        · cases h
        · exact h
      obtain ⟨hcA, hcB⟩ := hcc (n - 1) (by omega)
      clear hcc
      obtain ⟨j, hj⟩ : ∃ j, n = j + 1 := ⟨n - 1, by omega⟩
      subst hj
      rw [Nat.add_sub_cancel] at hcA hcB HD
      generalize tbl.getD j ([], []) = p at hcA hcB HD
      clear HT
      go_wp2
      refine bodyPost_ret (v := .tuple #[.agg #[.string ⟨p.1.toArray⟩, .string ⟨p.2.toArray⟩], v2, .bool true]) (by simp [results, Tryz.results195, go_sem, *]) rfl ⟨(HX.out.1.setCell (Nat.le_refl _) _).setCell (Nat.le_refl _) _, .inl ⟨p, rest, v2, HD.out, rfl, HB2.out⟩⟩
  · have HD : Hid (decE l = none) := by show decE l = none; simp only [decE, hd]
    clear hd
    go_wp2
    refine bodyPost_ret (v := .tuple #[.agg #[.string ⟨#[]⟩, .string ⟨#[]⟩], .slice none 0 0, .bool false]) (by simp [results, Tryz.results195, go_sem, *]) rfl ⟨HX.out.2, .inr ⟨HD.out, rfl⟩⟩

theorem decE_small (l rest : List UInt8) (p : List UInt8 × List UInt8) (h : decE l = some (p, rest)) : p.1.length ≤ 60 ∧ p.2.length ≤ 60 := by
  obtain ⟨n, h1, h2, rfl, _⟩ := decE_of l rest p h
  have : ∀ k : Fin 16, (tbl.getD k.val ([], [])).1.length ≤ 60 ∧ (tbl.getD k.val ([], [])).2.length ≤ 60 := by decide
  exact this ⟨n - 1, by omega⟩

set_option maxHeartbeats 3200000 in
theorem cutHeader_any (v vt : Value) (c : UInt8) (r : List UInt8) (w0 w : World) (h0 : Ext w0 w) (hb0 : IsBytes w0 v (c :: r)) (hl : r.length ≤ 50000) (ht : IsPairs w vt tbl) :
    Calls Tryz.prog 179 #[v, vt] w fun e w' => Ext w w' ∧ ((∃ p rest v', decH (c :: r) = some (p, rest) ∧ e = .returned (.tuple #[.agg #[.string ⟨p.1.toArray⟩, .string ⟨p.2.toArray⟩], v', .bool true]) ∧ IsBytes w0 v' rest) ∨ (decH (c :: r) = none ∧ e = .returned (.tuple #[.agg #[.string ⟨#[]⟩, .string ⟨#[]⟩], .slice none 0 0, .bool false]))) := by
  have hE0 := (Ext.refl w).alloc (.cells #[.string ⟨#[]⟩, .string ⟨#[]⟩] 122)
  have hbox := Box.new w ⟨#[]⟩ ⟨#[]⟩
  have hW0 := h0.trans hE0
  have ht0 := ht.ext hE0
  obtain ⟨a, cap, rfl, hc1, hc2, hcell⟩ := hb0.ext h0
  obtain ⟨b, o, rfl, hcc⟩ : ∃ b o, a = some ⟨b, o, none⟩ ∧ ∀ i, i < (c :: r).length → w.cell? ⟨b, o + i, none⟩ = some (.int .u8 (((c :: r).getD i 0).toNat : Int)) := by
    rcases hcell with h | h
    · cases h
    · exact h
  have hc0 : w.cell? ⟨b, o, none⟩ = some (.int .u8 (c.toNat : Int)) := hcc 0 (by simp)
  have hc0 := hE0.cell hc0
  clear hcell hcc ht
  have hcb : c.toNat < 256 := c.toNat_lt
  rw [List.length_cons] at hc1 hb0 ⊢
  by_cases h16 : c.toNat / 8 = 16
  · have hraw : decRaw (c :: r) = decA (c :: r) := by simp only [decRaw]; rw [if_pos h16]
    go_enter Tryz.func179, Tryz.ntmps179
    go_wp2_with fail
    refine (cutEntry_any _ vt (c :: r) w0 _ hW0 hb0 (by simp; omega) ht0).mono ?_
    rintro e w2 ⟨hE2, ⟨p, rest, v2, hd, rfl, hB2⟩ | ⟨hd, rfl⟩⟩
    · obtain ⟨hp1, hp2⟩ := decE_small _ _ _ hd
      have HSZ : Hid ((ByteArray.size ⟨p.1.toArray⟩) ≤ maxLen ∧ (ByteArray.size ⟨p.2.toArray⟩) ≤ maxLen) := ⟨by show p.1.length ≤ _; unfold maxLen; omega, by show p.2.length ≤ _; unfold maxLen; omega⟩
      have hbz := hbox.ext hE2
      have hEz := hE0.trans hE2
      have HEW := hide ((hEz.setCell (p := ⟨w.heap.size, 0, none⟩) (Nat.le_refl _) (.string ⟨p.1.toArray⟩)).setCell (p := ⟨w.heap.size, 1, none⟩) (Nat.le_refl _) (.string ⟨p.2.toArray⟩))
      have HBW := hide ((hbz.set0 ⟨p.1.toArray⟩).set1 ⟨p.2.toArray⟩)
      have hx0 := hbz.cell0
      have hx1 := hbz.cell1
      have hf0 := hbz.free0
      have hf1 := hbz.free1
      have HYW := hide hB2
      clear hbz hEz hB2 hbox hE2 hE0 hb0 ht0
      by_cases hv : p.2 = []
      · have HD : Hid (decH (c :: r) = none) := by
          show decH (c :: r) = none
          unfold decH
          rw [hraw, decA, hd]
          simp only
          rw [if_pos hv]
        have HVV : Hid (p.2 = []) := hv
        clear hraw hd hv
        have hbe : (!(p.2.isEmpty)) = false := by rw [HVV.out]; rfl
        have HRR := hide (((HBW.out).set0 ⟨#[]⟩).set1 ⟨#[]⟩)
        have hr0 := HRR.out.cell0
        have hr1 := HRR.out.cell1
        go_wp2
        exact bodyPost_ret (v := .tuple #[.agg #[.string ⟨#[]⟩, .string ⟨#[]⟩], .slice none 0 0, .bool false]) (by simp [results, Tryz.results179, go_sem, hr0, hr1]) rfl ⟨(HEW.out.setCell (Nat.le_refl _) _).setCell (Nat.le_refl _) _, .inr ⟨HD.out, rfl⟩⟩
      · have HR : Hid (decRaw (c :: r) = some (p, rest)) := by
          show decRaw (c :: r) = _
          rw [hraw, decA, hd]
          simp only
          rw [if_neg hv]
        clear hraw hd
        have hbe : (!(p.2.isEmpty)) = true := by simp [hv]
        go_wp2_with fail
        have hs : (ByteArray.size ⟨p.1.toArray⟩) ≤ maxLen ∧ (ByteArray.size ⟨p.2.toArray⟩) ≤ maxLen := HSZ.out
        refine (isHeader_any ⟨p.1.toArray⟩ ⟨p.2.toArray⟩ _ hs.1 hs.2).mono ?_
        rintro e w9 ⟨rfl, hE9⟩
        have hEz := HEW.out.trans hE9
        have hbz := HBW.out.ext hE9
        cases hok : okPair (pairOf ⟨p.1.toArray⟩ ⟨p.2.toArray⟩)
        · have HD : Hid (decH (c :: r) = none) := by
            show decH (c :: r) = none
            unfold decH
            rw [HR.out]
            simp only
            rw [if_neg (by show ¬ okPair (pairOf ⟨p.1.toArray⟩ ⟨p.2.toArray⟩) = true; rw [hok]; simp)]
          clear hok
          have hy0 := hbz.cell0
          have hy1 := hbz.cell1
          have hg0 := hbz.free0
          have hg1 := hbz.free1
          have HEZ := hide ((hEz.setCell (p := ⟨w.heap.size, 0, none⟩) (Nat.le_refl _) (.string ⟨#[]⟩)).setCell (p := ⟨w.heap.size, 1, none⟩) (Nat.le_refl _) (.string ⟨#[]⟩))
          have HR0 := hide ((hbz.set0 ⟨#[]⟩).set1 ⟨#[]⟩)
          clear hbz hEz
          go_wp2
          have hr0 := HR0.out.cell0
          have hr1 := HR0.out.cell1
          exact bodyPost_ret (v := .tuple #[.agg #[.string ⟨#[]⟩, .string ⟨#[]⟩], .slice none 0 0, .bool false]) (by simp [results, Tryz.results179, go_sem, hr0, hr1]) rfl ⟨HEZ.out, .inr ⟨HD.out, rfl⟩⟩
        · have HD : Hid (decH (c :: r) = some (p, rest)) := by
            show decH (c :: r) = _
            unfold decH
            rw [HR.out]
            simp only
            rw [if_pos (by show okPair (pairOf ⟨p.1.toArray⟩ ⟨p.2.toArray⟩) = true; exact hok)]
          clear hok
          have hy0 := hbz.cell0
          have hy1 := hbz.cell1
          have hg0 := hbz.free0
          have hg1 := hbz.free1
          have HEZ := hide ((hEz.setCell (p := ⟨w.heap.size, 0, none⟩) (Nat.le_refl _) (.string ⟨p.1.toArray⟩)).setCell (p := ⟨w.heap.size, 1, none⟩) (Nat.le_refl _) (.string ⟨p.2.toArray⟩))
          have HR0 := hide ((hbz.set0 ⟨p.1.toArray⟩).set1 ⟨p.2.toArray⟩)
          clear hbz hEz
          go_wp2
          have hr0 := HR0.out.cell0
          have hr1 := HR0.out.cell1
          exact bodyPost_ret (v := .tuple #[.agg #[.string ⟨p.1.toArray⟩, .string ⟨p.2.toArray⟩], v2, .bool true]) (by simp [results, Tryz.results179, go_sem, hr0, hr1]) rfl ⟨HEZ.out, .inl ⟨p, rest, v2, HD.out, rfl, HYW.out⟩⟩
    · skip
      have hbz := hbox.ext hE2
      have hEz := hE0.trans hE2
      have HEW := hide ((hEz.setCell (p := ⟨w.heap.size, 0, none⟩) (Nat.le_refl _) (.string ⟨#[]⟩)).setCell (p := ⟨w.heap.size, 1, none⟩) (Nat.le_refl _) (.string ⟨#[]⟩))
      have HBW := hide ((hbz.set0 ⟨#[]⟩).set1 ⟨#[]⟩)
      have hx0 := hbz.cell0
      have hx1 := hbz.cell1
      have hf0 := hbz.free0
      have hf1 := hbz.free1
      have HD : Hid (decH (c :: r) = none) := by
        show decH (c :: r) = none
        unfold decH
        rw [hraw, decA, hd]
      clear hd hraw hc0 hb0 ht0 hbox hE0 hE2 hbz hEz
      have HRR := hide (((HBW.out).set0 ⟨#[]⟩).set1 ⟨#[]⟩)
      have hr0 := HRR.out.cell0
      have hr1 := HRR.out.cell1
      go_wp2
      exact bodyPost_ret (v := .tuple #[.agg #[.string ⟨#[]⟩, .string ⟨#[]⟩], .slice none 0 0, .bool false]) (by simp [results, Tryz.results179, go_sem, hr0, hr1]) rfl ⟨(HEW.out.setCell (Nat.le_refl _) _).setCell (Nat.le_refl _) _, .inr ⟨HD.out, rfl⟩⟩
  · skip
    by_cases h8 : c.toNat / 8 = 8
    · have hraw : decRaw (c :: r) = decB (c :: r) := by simp only [decRaw]; rw [if_neg h16, if_pos h8]
      go_enter Tryz.func179, Tryz.ntmps179
      go_wp2_with fail
      refine (cutEntry_any _ vt (c :: r) w0 _ hW0 hb0 (by simp; omega) ht0).mono ?_
      rintro e w2 ⟨hE2, ⟨p, rest, v2, hd, rfl, hB2⟩ | ⟨hd, rfl⟩⟩
      · obtain ⟨hp1, hp2⟩ := decE_small _ _ _ hd
        have hrl : rest.length ≤ r.length + 1 := by obtain ⟨n, _, _, _, hx⟩ := decE_of _ _ _ hd; have := hx 64; rw [List.length_cons] at this; omega
        have hbz := hbox.ext hE2
        have hEz := hE0.trans hE2
        have HEW := hide ((hEz.setCell (p := ⟨w.heap.size, 0, none⟩) (Nat.le_refl _) (.string ⟨p.1.toArray⟩)).setCell (p := ⟨w.heap.size, 1, none⟩) (Nat.le_refl _) (.string ⟨p.2.toArray⟩))
        have HBW := hide ((hbz.set0 ⟨p.1.toArray⟩).set1 ⟨p.2.toArray⟩)
        have hx0 := hbz.cell0
        have hx1 := hbz.cell1
        have hf0 := hbz.free0
        have hf1 := hbz.free1
        have hBW := hB2
        clear hbz hEz hB2 hbox hE2 hE0 hb0 ht0
        go_wp2_with fail
        refine (cutText_any v2 rest w0 _ (h0.trans HEW.out) hBW (by omega)).mono ?_
        rintro e w3 ⟨hE3, ⟨t, rest2, v3, ht, rfl, hB3⟩ | ⟨ht, rfl⟩⟩
        · have htl : t.length ≤ 100000 := by have := decT_len _ _ _ ht; have := encT_len t; split at this <;> omega
          have HSZ : Hid ((ByteArray.size ⟨p.1.toArray⟩) ≤ maxLen ∧ (ByteArray.size ⟨t.toArray⟩) ≤ maxLen) := ⟨by show p.1.length ≤ _; unfold maxLen; omega, by show t.length ≤ _; unfold maxLen; omega⟩
          have HR : Hid (decRaw (c :: r) = some ((p.1, t), rest2)) := by
            show decRaw (c :: r) = _
            rw [hraw, decB, hd]
            simp only [ht]
          clear hraw hd ht
          have hb3 := HBW.out.ext hE3
          have hx0 := hb3.cell0
          have hx1 := hb3.cell1
          have hf0 := hb3.free0
          have hf1 := hb3.free1
          have HYW := hide hB3
          have HEW := hide ((HEW.out.trans hE3).setCell (p := ⟨w.heap.size, 1, none⟩) (Nat.le_refl _) (.string ⟨t.toArray⟩))
          have HBW := hide (hb3.set1 ⟨t.toArray⟩)
          clear hb3 hB3 hE3 hBW
          go_wp2_with fail
          have hs : (ByteArray.size ⟨p.1.toArray⟩) ≤ maxLen ∧ (ByteArray.size ⟨t.toArray⟩) ≤ maxLen := HSZ.out
          refine (isHeader_any ⟨p.1.toArray⟩ ⟨t.toArray⟩ _ hs.1 hs.2).mono ?_
          rintro e w9 ⟨rfl, hE9⟩
          have hEz := HEW.out.trans hE9
          have hbz := HBW.out.ext hE9
          cases hok : okPair (pairOf ⟨p.1.toArray⟩ ⟨t.toArray⟩)
          · have HD : Hid (decH (c :: r) = none) := by
              show decH (c :: r) = none
              unfold decH
              rw [HR.out]
              simp only
              rw [if_neg (by show ¬ okPair (pairOf ⟨p.1.toArray⟩ ⟨t.toArray⟩) = true; rw [hok]; simp)]
            clear hok
            have hy0 := hbz.cell0
            have hy1 := hbz.cell1
            have hg0 := hbz.free0
            have hg1 := hbz.free1
            have HEZ := hide ((hEz.setCell (p := ⟨w.heap.size, 0, none⟩) (Nat.le_refl _) (.string ⟨#[]⟩)).setCell (p := ⟨w.heap.size, 1, none⟩) (Nat.le_refl _) (.string ⟨#[]⟩))
            have HR0 := hide ((hbz.set0 ⟨#[]⟩).set1 ⟨#[]⟩)
            clear hbz hEz
            go_wp2
            have hr0 := HR0.out.cell0
            have hr1 := HR0.out.cell1
            exact bodyPost_ret (v := .tuple #[.agg #[.string ⟨#[]⟩, .string ⟨#[]⟩], .slice none 0 0, .bool false]) (by simp [results, Tryz.results179, go_sem, hr0, hr1]) rfl ⟨HEZ.out, .inr ⟨HD.out, rfl⟩⟩
          · have HD : Hid (decH (c :: r) = some ((p.1, t), rest2)) := by
              show decH (c :: r) = _
              unfold decH
              rw [HR.out]
              simp only
              rw [if_pos (by show okPair (pairOf ⟨p.1.toArray⟩ ⟨t.toArray⟩) = true; exact hok)]
            clear hok
            have hy0 := hbz.cell0
            have hy1 := hbz.cell1
            have hg0 := hbz.free0
            have hg1 := hbz.free1
            have HEZ := hide ((hEz.setCell (p := ⟨w.heap.size, 0, none⟩) (Nat.le_refl _) (.string ⟨p.1.toArray⟩)).setCell (p := ⟨w.heap.size, 1, none⟩) (Nat.le_refl _) (.string ⟨t.toArray⟩))
            have HR0 := hide ((hbz.set0 ⟨p.1.toArray⟩).set1 ⟨t.toArray⟩)
            clear hbz hEz
            go_wp2
            have hr0 := HR0.out.cell0
            have hr1 := HR0.out.cell1
            exact bodyPost_ret (v := .tuple #[.agg #[.string ⟨p.1.toArray⟩, .string ⟨t.toArray⟩], v3, .bool true]) (by simp [results, Tryz.results179, go_sem, hr0, hr1]) rfl ⟨HEZ.out, .inl ⟨(p.1, t), rest2, v3, HD.out, rfl, HYW.out⟩⟩
        · have HD : Hid (decH (c :: r) = none) := by
            show decH (c :: r) = none
            unfold decH
            rw [hraw, decB, hd]
            simp only [ht]
          clear hraw hd ht
          have hb3 := HBW.out.ext hE3
          have hx0 := hb3.cell0
          have hx1 := hb3.cell1
          have hf0 := hb3.free0
          have hf1 := hb3.free1
          have HEW := hide ((HEW.out.trans hE3).setCell (p := ⟨w.heap.size, 1, none⟩) (Nat.le_refl _) (.string ⟨#[]⟩))
          have HBW := hide (hb3.set1 ⟨#[]⟩)
          clear hb3 hE3 hBW
          have HRR := hide (((HBW.out).set0 ⟨#[]⟩).set1 ⟨#[]⟩)
          have hr0 := HRR.out.cell0
          have hr1 := HRR.out.cell1
          go_wp2
          exact bodyPost_ret (v := .tuple #[.agg #[.string ⟨#[]⟩, .string ⟨#[]⟩], .slice none 0 0, .bool false]) (by simp [results, Tryz.results179, go_sem, hr0, hr1]) rfl ⟨(HEW.out.setCell (Nat.le_refl _) _).setCell (Nat.le_refl _) _, .inr ⟨HD.out, rfl⟩⟩
      · skip
        have hbz := hbox.ext hE2
        have hEz := hE0.trans hE2
        have HEW := hide ((hEz.setCell (p := ⟨w.heap.size, 0, none⟩) (Nat.le_refl _) (.string ⟨#[]⟩)).setCell (p := ⟨w.heap.size, 1, none⟩) (Nat.le_refl _) (.string ⟨#[]⟩))
        have HBW := hide ((hbz.set0 ⟨#[]⟩).set1 ⟨#[]⟩)
        have hx0 := hbz.cell0
        have hx1 := hbz.cell1
        have hf0 := hbz.free0
        have hf1 := hbz.free1
        have HD : Hid (decH (c :: r) = none) := by
          show decH (c :: r) = none
          unfold decH
          rw [hraw, decB, hd]
        clear hd hraw hc0 hb0 ht0 hbox hE0 hE2 hbz hEz
        have HRR := hide (((HBW.out).set0 ⟨#[]⟩).set1 ⟨#[]⟩)
        have hr0 := HRR.out.cell0
        have hr1 := HRR.out.cell1
        go_wp2
        exact bodyPost_ret (v := .tuple #[.agg #[.string ⟨#[]⟩, .string ⟨#[]⟩], .slice none 0 0, .bool false]) (by simp [results, Tryz.results179, go_sem, hr0, hr1]) rfl ⟨(HEW.out.setCell (Nat.le_refl _) _).setCell (Nat.le_refl _) _, .inr ⟨HD.out, rfl⟩⟩
    · by_cases hc00 : c.toNat = 0
      · have hraw : decRaw (c :: r) = decC r := by simp only [decRaw]; rw [if_neg h16, if_neg h8, if_pos hc00]
        obtain ⟨S, hsl, hS⟩ := cut_from hb0 1 (by simp)
        rw [show r.length + 1 - 1 = r.length by omega, show (c :: r).drop 1 = r from rfl] at hS
        rw [show r.length + 1 - 1 = r.length by omega, show ((1 : Nat) : Int) = 1 from rfl] at hsl
        go_enter Tryz.func179, Tryz.ntmps179
        go_wp2_with fail
        clear hsl
        refine (cutText_any _ r w0 _ hW0 hS (by omega)).mono ?_
        rintro e w2 ⟨hE2, ⟨n, rest, v2, hd, rfl, hB2⟩ | ⟨hd, rfl⟩⟩
        · have hnl : n.length ≤ 100000 ∧ rest.length ≤ 50000 := by have h1 := decT_len _ _ _ hd; have h2 := encT_len n; split at h2 <;> omega
          have hbz := hbox.ext hE2
          have hEz := hE0.trans hE2
          have HEW := hide (hEz.setCell (p := ⟨w.heap.size, 0, none⟩) (Nat.le_refl _) (.string ⟨n.toArray⟩))
          have HBW := hide (hbz.set0 ⟨n.toArray⟩)
          have hx0 := hbz.cell0
          have hx1 := hbz.cell1
          have hf0 := hbz.free0
          have hf1 := hbz.free1
          have hBW := hB2
          clear hbz hEz hB2 hbox hE2 hE0 hb0 ht0 hS
          go_wp2_with fail
          refine (cutText_any v2 rest w0 _ (h0.trans HEW.out) hBW (by omega)).mono ?_
          rintro e w3 ⟨hE3, ⟨t, rest2, v3, ht, rfl, hB3⟩ | ⟨ht, rfl⟩⟩
          · have htl : t.length ≤ 100000 := by have := decT_len _ _ _ ht; have := encT_len t; split at this <;> omega
            have HSZ : Hid ((ByteArray.size ⟨n.toArray⟩) ≤ maxLen ∧ (ByteArray.size ⟨t.toArray⟩) ≤ maxLen) := ⟨by show n.length ≤ _; unfold maxLen; omega, by show t.length ≤ _; unfold maxLen; omega⟩
            have HR : Hid (decRaw (c :: r) = some ((n, t), rest2)) := by
              show decRaw (c :: r) = _
              rw [hraw, decC, hd]
              simp only [ht]
            clear hraw hd ht
            have hb3 := HBW.out.ext hE3
            have hx0 := hb3.cell0
            have hx1 := hb3.cell1
            have hf0 := hb3.free0
            have hf1 := hb3.free1
            have HYW := hide hB3
            have HEW := hide ((HEW.out.trans hE3).setCell (p := ⟨w.heap.size, 1, none⟩) (Nat.le_refl _) (.string ⟨t.toArray⟩))
            have HBW := hide (hb3.set1 ⟨t.toArray⟩)
            clear hb3 hB3 hE3 hBW
            go_wp2_with fail
            have hs : (ByteArray.size ⟨n.toArray⟩) ≤ maxLen ∧ (ByteArray.size ⟨t.toArray⟩) ≤ maxLen := HSZ.out
            refine (isHeader_any ⟨n.toArray⟩ ⟨t.toArray⟩ _ hs.1 hs.2).mono ?_
            rintro e w9 ⟨rfl, hE9⟩
            have hEz := HEW.out.trans hE9
            have hbz := HBW.out.ext hE9
            cases hok : okPair (pairOf ⟨n.toArray⟩ ⟨t.toArray⟩)
            · have HD : Hid (decH (c :: r) = none) := by
                show decH (c :: r) = none
                unfold decH
                rw [HR.out]
                simp only
                rw [if_neg (by show ¬ okPair (pairOf ⟨n.toArray⟩ ⟨t.toArray⟩) = true; rw [hok]; simp)]
              clear hok
              have hy0 := hbz.cell0
              have hy1 := hbz.cell1
              have hg0 := hbz.free0
              have hg1 := hbz.free1
              have HEZ := hide ((hEz.setCell (p := ⟨w.heap.size, 0, none⟩) (Nat.le_refl _) (.string ⟨#[]⟩)).setCell (p := ⟨w.heap.size, 1, none⟩) (Nat.le_refl _) (.string ⟨#[]⟩))
              have HR0 := hide ((hbz.set0 ⟨#[]⟩).set1 ⟨#[]⟩)
              clear hbz hEz
              go_wp2
              have hr0 := HR0.out.cell0
              have hr1 := HR0.out.cell1
              exact bodyPost_ret (v := .tuple #[.agg #[.string ⟨#[]⟩, .string ⟨#[]⟩], .slice none 0 0, .bool false]) (by simp [results, Tryz.results179, go_sem, hr0, hr1]) rfl ⟨HEZ.out, .inr ⟨HD.out, rfl⟩⟩
            · have HD : Hid (decH (c :: r) = some ((n, t), rest2)) := by
                show decH (c :: r) = _
                unfold decH
                rw [HR.out]
                simp only
                rw [if_pos (by show okPair (pairOf ⟨n.toArray⟩ ⟨t.toArray⟩) = true; exact hok)]
              clear hok
              have hy0 := hbz.cell0
              have hy1 := hbz.cell1
              have hg0 := hbz.free0
              have hg1 := hbz.free1
              have HEZ := hide ((hEz.setCell (p := ⟨w.heap.size, 0, none⟩) (Nat.le_refl _) (.string ⟨n.toArray⟩)).setCell (p := ⟨w.heap.size, 1, none⟩) (Nat.le_refl _) (.string ⟨t.toArray⟩))
              have HR0 := hide ((hbz.set0 ⟨n.toArray⟩).set1 ⟨t.toArray⟩)
              clear hbz hEz
              go_wp2
              have hr0 := HR0.out.cell0
              have hr1 := HR0.out.cell1
              exact bodyPost_ret (v := .tuple #[.agg #[.string ⟨n.toArray⟩, .string ⟨t.toArray⟩], v3, .bool true]) (by simp [results, Tryz.results179, go_sem, hr0, hr1]) rfl ⟨HEZ.out, .inl ⟨(n, t), rest2, v3, HD.out, rfl, HYW.out⟩⟩
          · have HD : Hid (decH (c :: r) = none) := by
              show decH (c :: r) = none
              unfold decH
              rw [hraw, decC, hd]
              simp only [ht]
            clear hraw hd ht
            have hb3 := HBW.out.ext hE3
            have hx0 := hb3.cell0
            have hx1 := hb3.cell1
            have hf0 := hb3.free0
            have hf1 := hb3.free1
            have HEW := hide ((HEW.out.trans hE3).setCell (p := ⟨w.heap.size, 1, none⟩) (Nat.le_refl _) (.string ⟨#[]⟩))
            have HBW := hide (hb3.set1 ⟨#[]⟩)
            clear hb3 hE3 hBW
            have HRR := hide (((HBW.out).set0 ⟨#[]⟩).set1 ⟨#[]⟩)
            have hr0 := HRR.out.cell0
            have hr1 := HRR.out.cell1
            go_wp2
            exact bodyPost_ret (v := .tuple #[.agg #[.string ⟨#[]⟩, .string ⟨#[]⟩], .slice none 0 0, .bool false]) (by simp [results, Tryz.results179, go_sem, hr0, hr1]) rfl ⟨(HEW.out.setCell (Nat.le_refl _) _).setCell (Nat.le_refl _) _, .inr ⟨HD.out, rfl⟩⟩
        · have HD : Hid (decH (c :: r) = none) := by
            show decH (c :: r) = none
            unfold decH
            rw [hraw, decC, hd]
          have hbz := hbox.ext hE2
          have hEz := hE0.trans hE2
          have HEW := hide (hEz.setCell (p := ⟨w.heap.size, 0, none⟩) (Nat.le_refl _) (.string ⟨#[]⟩))
          have HBW := hide (hbz.set0 ⟨#[]⟩)
          have hx0 := hbz.cell0
          have hx1 := hbz.cell1
          have hf0 := hbz.free0
          have hf1 := hbz.free1
          clear hd hraw hc0 hb0 ht0 hbox hE0 hE2 hbz hEz
          have HRR := hide (((HBW.out).set0 ⟨#[]⟩).set1 ⟨#[]⟩)
          have hr0 := HRR.out.cell0
          have hr1 := HRR.out.cell1
          go_wp2
          exact bodyPost_ret (v := .tuple #[.agg #[.string ⟨#[]⟩, .string ⟨#[]⟩], .slice none 0 0, .bool false]) (by simp [results, Tryz.results179, go_sem, hr0, hr1]) rfl ⟨(HEW.out.setCell (Nat.le_refl _) _).setCell (Nat.le_refl _) _, .inr ⟨HD.out, rfl⟩⟩
      · have HD : Hid (decH (c :: r) = none) := by
          show decH (c :: r) = none
          unfold decH
          simp only [decRaw]
          rw [if_neg h16, if_neg h8, if_neg hc00]
        have hbz := hbox
        have HEW := hide hE0
        have HBW := hide hbz
        have hx0 := hbz.cell0
        have hx1 := hbz.cell1
        have hf0 := hbz.free0
        have hf1 := hbz.free1
        clear hb0 ht0 hbox hE0 hbz
        go_enter Tryz.func179, Tryz.ntmps179
        go_wp2
        exact bodyPost_ret (v := .tuple #[.agg #[.string ⟨#[]⟩, .string ⟨#[]⟩], .slice none 0 0, .bool false]) (by simp [results, Tryz.results179, go_sem]) rfl ⟨HEW.out, .inr ⟨HD.out, rfl⟩⟩
end Go.Proofs.YtoijpogadkogcaaGreat
