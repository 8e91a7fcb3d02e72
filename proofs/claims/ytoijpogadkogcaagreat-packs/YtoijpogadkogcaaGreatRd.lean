/-
  The document's own answer: a reader of packed headers; a number.
-/
import Derived.Test.YtoijpogadkogcaaGreatRefC
namespace Go.Proofs.YtoijpogadkogcaaGreat
open Go.RowKit
set_option maxRecDepth 100000

/-- A reader: its bytes, its place, did anything go wrong. -/
def Rd (w : World) (R : Nat) (v : Value) (at' : Nat) (bad : Bool) : Prop := w.heap[R]? = some (.cells #[v, .int .i64 (at' : Int), .bool bad] 184 (0, 0))
theorem Rd.lt {w : World} {R : Nat} {v : Value} {n : Nat} {b : Bool} (h : Rd w R v n b) : R < w.heap.size := (Array.getElem?_eq_some_iff.1 h).1
theorem Rd.cell0 {w : World} {R : Nat} {v : Value} {n : Nat} {b : Bool} (h : Rd w R v n b) : w.cell? ⟨R, 0, none⟩ = some v := by unfold Rd at h; simp [World.cell?, h]
theorem Rd.cell1 {w : World} {R : Nat} {v : Value} {n : Nat} {b : Bool} (h : Rd w R v n b) : w.cell? ⟨R, 1, none⟩ = some (.int .i64 (n : Int)) := by unfold Rd at h; simp [World.cell?, h]
theorem Rd.cell2 {w : World} {R : Nat} {v : Value} {n : Nat} {b : Bool} (h : Rd w R v n b) : w.cell? ⟨R, 2, none⟩ = some (.bool b) := by unfold Rd at h; simp [World.cell?, h]
theorem Rd.free1 {w : World} {R : Nat} {v : Value} {n : Nat} {b : Bool} (h : Rd w R v n b) : w.frozen? ⟨R, 1, none⟩ = false := by unfold Rd at h; simp [World.frozen?, h]
theorem Rd.free2 {w : World} {R : Nat} {v : Value} {n : Nat} {b : Bool} (h : Rd w R v n b) : w.frozen? ⟨R, 2, none⟩ = false := by unfold Rd at h; simp [World.frozen?, h]
theorem Rd.ext {w w' : World} {R : Nat} {v : Value} {n : Nat} {b : Bool} (h : Rd w R v n b) (e : Ext w w') : Rd w' R v n b := (e.block R h.lt).trans h
theorem Rd.drewN {w : World} {R : Nat} {v : Value} {n : Nat} {b : Bool} (h : Rd w R v n b) (q : Nat) : Rd (w.drewN q) R v n b := h.ext (drewN_ext w q)
theorem Rd.set1 {w : World} {R : Nat} {v : Value} {n : Nat} {b : Bool} (h : Rd w R v n b) (m : Nat) (x : Int) (hx : (m : Int) = x) : Rd (w.setCell ⟨R, 1, none⟩ (.int .i64 x)) R v m b := by
  subst hx
  have hlt := h.lt
  have h' : w.heap[R] = .cells #[v, .int .i64 (n : Int), .bool b] 184 (0, 0) := (Array.getElem?_eq_some_iff.1 h).2
  show (w.heap.modify R _)[R]? = _
  rw [Array.getElem?_eq_getElem (by simpa using hlt), Array.getElem_modify_self, h']
  rfl
theorem Rd.set2 {w : World} {R : Nat} {v : Value} {n : Nat} {b : Bool} (h : Rd w R v n b) (c : Bool) : Rd (w.setCell ⟨R, 2, none⟩ (.bool c)) R v n c := by
  have hlt := h.lt
  have h' : w.heap[R] = .cells #[v, .int .i64 (n : Int), .bool b] 184 (0, 0) := (Array.getElem?_eq_some_iff.1 h).2
  show (w.heap.modify R _)[R]? = _
  rw [Array.getElem?_eq_getElem (by simpa using hlt), Array.getElem_modify_self, h']
  rfl
/-- As it was but for one block, and new ones. -/
abbrev Only (R : Nat) (w w' : World) : Prop := w.grownBy w' (some R)
theorem Only.refl (R : Nat) (w : World) : Only R w w := World.grownBy.refl _ _
theorem Only.trans {R : Nat} {a b c : World} (h : Only R a b) (k : Only R b c) : Only R a c :=
  ⟨k.os.trans h.os, k.tape.trans h.tape, k.output.trans h.output, Nat.le_trans h.size k.size, fun i hi hne => (k.block i (Nat.lt_of_lt_of_le hi h.size) hne).trans (h.block i hi hne)⟩
theorem Only.ext {R : Nat} {a b c : World} (h : Only R a b) (k : Ext b c) : Only R a c := h.trans ⟨k.os, k.tape, k.output, k.size, fun i hi _ => k.block i hi⟩
theorem Only.set {R : Nat} {a b : World} (h : Only R a b) (o : Nat) (u : Value) : Only R a (b.setCell ⟨R, o, none⟩ u) :=
  h.trans ⟨rfl, rfl, rfl, by simp, fun k _ hne => Below.heap_setCell b _ u k (fun e => hne (by rw [e]))⟩
theorem Ext.only {R : Nat} {a b c : World} (h : Ext a b) (k : Only R b c) (hR : a.heap.size ≤ R) : Ext a c := Below.trans h (Below.grown (Below.refl _ _) k h.size (fun i e => by injection e with e; omega))

theorem rPower0 (w : World) : Calls Tryz.prog 178 #[.int .i64 0] w fun e w' => e = .returned (.int .i64 1) ∧ w' = w := rPower_any 0 w (by omega)
theorem rPower7 (w : World) : Calls Tryz.prog 178 #[.int .i64 7] w fun e w' => e = .returned (.int .i64 128) ∧ w' = w := rPower_any 7 w (by omega)
theorem rPower14 (w : World) : Calls Tryz.prog 178 #[.int .i64 14] w fun e w' => e = .returned (.int .i64 16384) ∧ w' = w := rPower_any 14 w (by omega)

theorem drop_at (l : List UInt8) (k : Nat) (h : k < l.length) : l.drop k = l.getD k 0 :: l.drop (k + 1) := by
  rw [List.getD_eq_getElem?_getD, List.getElem?_eq_getElem h]
  exact List.drop_eq_getElem_cons h

/-- What a reader's step leaves: the bytes left, or that it went wrong. -/
def After (R : Nat) (v : Value) (l : List UInt8) (bad : Bool) (w w' : World) (rest : Option (List UInt8)) : Prop :=
  Only R w w' ∧ match rest with
    | some r => ∃ k, k ≤ l.length ∧ r = l.drop k ∧ Rd w' R v k bad
    | none => ∃ k, k ≤ l.length ∧ Rd w' R v k true

set_option maxHeartbeats 12800000 in
theorem mNumber3_any (R : Nat) (v : Value) (l : List UInt8) (pos : Nat) (bad : Bool) (w0 w : World) (h0 : Ext w0 w) (hR : w0.heap.size ≤ R) (hv : IsBytes w0 v l) (hl : l.length ≤ 1000) (hp : pos ≤ l.length) (hrd : Rd w R v pos bad) :
    Calls Tryz.prog 180 #[.pointer (some ⟨R, 0, none⟩), .int .i64 3] w fun e w' => (∃ n rest, decN 7 (l.drop pos) = some (n, rest) ∧ e = .returned (.int .i64 (n : Int)) ∧ After R v l bad w w' (some rest)) ∨ (decN 7 (l.drop pos) = none ∧ ∃ n : Nat, n ≤ 100000000 ∧ e = .returned (.int .i64 (n : Int)) ∧ After R v l bad w w' none) := by
  obtain ⟨a, cap, rfl, hc1, hc2, hcell⟩ := hv
  have HR := hide hrd
  have hX := h0
  have HO := hide (Only.refl R w)
  have hc0 := HR.out.cell0
  have hc1' := HR.out.cell1
  have hc2' := HR.out.cell2
  have hf1 := HR.out.free1
  have hf2 := HR.out.free2
  clear hrd h0
  by_cases hlt : pos < l.length
  · obtain ⟨b, o, rfl, hcc⟩ : ∃ b o, a = some ⟨b, o, none⟩ ∧ ∀ i, i < l.length → w0.cell? ⟨b, o + i, none⟩ = some (.int .u8 ((l.getD i 0).toNat : Int)) := by
      rcases hcell with h | h
      · rw [h] at hlt; simp at hlt
      · exact h
    have HCC := hide hcc
    have hcx := hcc pos hlt
    have hd := drop_at l pos hlt
    have hxl := (l.getD pos 0).toNat_lt
    obtain ⟨c, hcE⟩ : ∃ c, l.getD pos 0 = c := ⟨_, rfl⟩
    have HCE := hide hcE
    rw [hcE] at hcx hd hxl
    clear hcE
    obtain ⟨q, hq⟩ : ∃ q, q = c.toNat % 8 := ⟨_, rfl⟩
    have f1 : ((c.toNat : Int)).tmod 8 = (q : Int) := by rw [Int.tmod_eq_emod_of_nonneg (by omega)]; omega
    have hql : q ≤ 7 := by omega
    have hpl : (pos : Int) < (l.length : Int) := by omega
    have HN : Hid (decN 7 (l.drop pos) = if q < 7 then some (q, l.drop (pos + 1)) else decTail 3 7 0 (l.drop (pos + 1))) := by
      show decN 7 (l.drop pos) = _
      rw [hd]
      simp only [decN]
      rw [← hq]
    clear hq hd hcell hcc
    generalize decN 7 (l.drop pos) = D at HN ⊢
    go_enter Tryz.func180, Tryz.ntmps180
    go_wp2_with fail
    go_quiet (fail)
    have hq0 := drewN_ext w nq
    generalize w.drewN nq = w1 at hq0 ⊢
    have hs0 := HR.out.ext hq0
    have hs1 := HO.out.ext hq0
    have hs2 := hX.trans hq0
    clear hc0 hc1' hc2' hf1 hf2 hq0 HR HO hX
    have HR := hide hs0
    have HO := hide hs1
    have hX := hs2
    clear hs0 hs1 hs2
    have hc0 := HR.out.cell0
    have hc1' := HR.out.cell1
    have hc2' := HR.out.cell2
    have hf1 := HR.out.free1
    have hf2 := HR.out.free2
    clear hcx
    have hcx : w1.cell? ⟨b, o + pos, none⟩ = some (.int .u8 (c.toNat : Int)) := by rw [hX.cell (HCC.out pos hlt), HCE.out]
    go_wp2_with (go_at_call 178; refine (rPower3 _).mono ?_; rintro e w' ⟨rfl, hw⟩; replace hw := hw.symm; subst hw)
    go_quiet (fail)
    have hq0 := drewN_ext w1 nq
    generalize w1.drewN nq = w2 at hq0 ⊢
    have hs0 := HR.out.ext hq0
    have hs1 := HO.out.ext hq0
    have hs2 := hX.trans hq0
    clear hc0 hc1' hc2' hf1 hf2 hq0 HR HO hX
    have HR := hide hs0
    have HO := hide hs1
    have hX := hs2
    clear hs0 hs1 hs2
    have hc0 := HR.out.cell0
    have hc1' := HR.out.cell1
    have hc2' := HR.out.cell2
    have hf1 := HR.out.free1
    have hf2 := HR.out.free2
    clear hcx f1
    by_cases hlow : q < 7
    · have HD : Hid (D = some (q, l.drop (pos + 1))) := by show D = _; rw [HN.out, if_pos hlow]
      go_wp2
      go_ret
      exact .inl ⟨q, l.drop (pos + 1), HD.out, rfl, HO.out.set 1 _, pos + 1, by omega, rfl, HR.out.set1 (pos + 1) _ (by omega)⟩
    · have hqf : q = 7 := by omega
      subst hqf
      have HD : Hid (D = decTail 3 7 0 (l.drop (pos + 1))) := by show D = _; rw [HN.out, if_neg hlow]
      clear HN hlow hql
      go_wp2_with fail
      have hs0 := HR.out.set1 (pos + 1) ((pos : Int) + 1) (by omega)
      have hs1 := HO.out.set 1 (.int .i64 ((pos : Int) + 1))
      have hs2 := Ext.only hX ((Only.refl R _).set 1 (.int .i64 ((pos : Int) + 1))) hR
      generalize w2.setCell ⟨R, 1, none⟩ (.int .i64 ((pos : Int) + 1)) = w3 at hs0 hs1 hs2 ⊢
      clear hc0 hc1' hc2' hf1 hf2 HR HO hX
      have HR := hide hs0
      have HO := hide hs1
      have hX := hs2
      clear hs0 hs1 hs2
      have hc0 := HR.out.cell0
      have hc1' := HR.out.cell1
      have hc2' := HR.out.cell2
      have hf1 := HR.out.free1
      have hf2 := HR.out.free2
      go_loopw [6, 7] (fun n i wr => ∃ k acc : Nat, k ≤ 3 ∧ pos + 1 + k ≤ l.length ∧ i = .int .i64 k ∧ n = .int .i64 acc ∧ acc ≤ 31 + k * 3000000 ∧ Only R w wr ∧ Ext w0 wr ∧ Rd wr R (.slice (some ⟨b, o, none⟩) l.length cap) (pos + 1 + k) bad ∧ Hid (D = decTail (3 - k) acc k (l.drop (pos + 1 + k)))) (fun _ i _ => 3 - (intOf i).toNat)
      case atStart => exact ⟨0, 7, by omega, by omega, rfl, rfl, by omega, HO.out, hX, HR.out, HD⟩
      case round =>
        clear hc0 hc1' hc2' hf1 hf2 HR HO hX HD
        obtain ⟨k, acc, hk3, hkl, rfl, rfl, hacc, hO, hX, hrd, HD⟩ := hrel
        have HO := hide hO
        have HR := hide hrd
        clear hO hrd
        have hc0 := HR.out.cell0
        have hc1' := HR.out.cell1
        have hc2' := HR.out.cell2
        have hf1 := HR.out.free1
        have hf2 := HR.out.free2
        by_cases h3 : k < 3
        · by_cases hlt2 : pos + 1 + k < l.length
          · have hpl2 : ((pos + 1 + k : Nat) : Int) < (l.length : Int) := by omega
            have HCX := hide (HCC.out (pos + 1 + k) hlt2)
            have hdrop := drop_at l (pos + 1 + k) hlt2
            have hxl2 := (l.getD (pos + 1 + k) 0).toNat_lt
            generalize l.getD (pos + 1 + k) 0 = x at HCX hdrop hxl2
            obtain ⟨y, hy⟩ : ∃ y, y = x.toNat % 128 := ⟨_, rfl⟩
            have hyl : y ≤ 127 := by omega
            have f2 : ((x.toNat : Int)) % 128 = (y : Int) := by omega
            have hD := HD.out
            rw [hdrop, show 3 - k = 3 - (k + 1) + 1 by omega] at hD
            simp only [decTail] at hD
            rw [← hy] at hD
            clear HD
            have HD := hide hD
            clear hD hdrop hy
            obtain ⟨t, ht⟩ : ∃ t : Nat, t = pos + 1 + k := ⟨_, rfl⟩
            have HT := hide ht
            rw [← ht] at hpl2 hc1' HCX
            have HR2 : Hid (Rd wr R (.slice (some ⟨b, o, none⟩) l.length cap) t bad) := by show Rd _ _ _ _ _; rw [ht]; exact HR.out
            clear HR
            have HR := HR2
            clear HR2
            have htl : t < l.length := by omega
            have htp : t ≤ 1000 := by omega
            clear ht
            go_wp2_with fail
            go_quiet (fail)
            have hq0 := drewN_ext wr nq
            generalize wr.drewN nq = w4 at hq0 ⊢
            have hs0 := HR.out.ext hq0
            have hs1 := HO.out.ext hq0
            have hs2 := hX.trans hq0
            clear hc0 hc1' hc2' hf1 hf2 hq0 HR HO hX
            have HR := hide hs0
            have HO := hide hs1
            have hX := hs2
            clear hs0 hs1 hs2
            have hc0 := HR.out.cell0
            have hc1' := HR.out.cell1
            have hc2' := HR.out.cell2
            have hf1 := HR.out.free1
            have hf2 := HR.out.free2
            go_wp2_with fail
            have hcx2 := hX.cell HCX.out
            go_quiet (fail)
            have hq0 := drewN_ext w4 nq
            generalize w4.drewN nq = w5 at hq0 ⊢
            have hs0 := HR.out.ext hq0
            have hs1 := HO.out.ext hq0
            have hs2 := hX.trans hq0
            clear hc0 hc1' hc2' hf1 hf2 hq0 HR HO hX
            have HR := hide hs0
            have HO := hide hs1
            have hX := hs2
            clear hs0 hs1 hs2
            have hc0 := HR.out.cell0
            have hc1' := HR.out.cell1
            have hc2' := HR.out.cell2
            have hf1 := HR.out.free1
            have hf2 := HR.out.free2
            clear hcx2
            go_wp2_with fail
            have hs0 := HR.out.set1 (t + 1) ((t : Int) + 1) (by omega)
            have hs1 := HO.out.set 1 (.int .i64 ((t : Int) + 1))
            have hs2 := Ext.only hX ((Only.refl R _).set 1 (.int .i64 ((t : Int) + 1))) hR
            generalize w5.setCell ⟨R, 1, none⟩ (.int .i64 ((t : Int) + 1)) = w6 at hs0 hs1 hs2 ⊢
            clear hc0 hc1' hc2' hf1 hf2 HR HO hX
            have HR := hide hs0
            have HO := hide hs1
            have hX := hs2
            clear hs0 hs1 hs2
            have hc0 := HR.out.cell0
            have hc1' := HR.out.cell1
            have hc2' := HR.out.cell2
            have hf1 := HR.out.free1
            have hf2 := HR.out.free2
            rcases (by omega : k = 0 ∨ k = 1 ∨ k = 2) with rfl | rfl | rfl
            · refine (rPower0 _).mono ?_
              rintro e w7 ⟨rfl, hw⟩
              replace hw := hw.symm
              subst hw
              by_cases hbig : 128 ≤ x.toNat
              · have HD2 : Hid (D = decTail (3 - (0 + 1)) (acc + y * 1) (0 + 1) (l.drop (pos + 1 + 0 + 1))) := by show D = _; rw [HD.out, if_pos hbig]
                go_wp2
                go_roundw
                case rel =>
                  repeat apply Exists.intro
                  refine ⟨⟨0 + 1, acc + y * 1, by omega, by have := HT.out; omega, by go_num, by go_num, by omega, HO.out, hX, by have := HR.out; rw [HT.out] at this; exact this, HD2⟩, rfl⟩
                case measure => simp [intOf]
              · by_cases hover : 9999 < acc + y * 1
                · have HD2 : Hid (D = none) := by show D = _; rw [HD.out, if_neg hbig, if_pos hover]
                  go_wp2
                  all_goals go_ret
                  all_goals exact .inr ⟨HD2.out, acc + y * 1, by omega, ret_int (by omega), HO.out.set 2 _, t + 1, by omega, HR.out.set2 true⟩
                · have HD2 : Hid (D = some (acc + y * 1, l.drop (pos + 1 + 0 + 1))) := by show D = _; rw [HD.out, if_neg hbig, if_neg hover]
                  go_wp2
                  go_ret
                  exact .inl ⟨acc + y * 1, l.drop (pos + 1 + 0 + 1), HD2.out, ret_int (by omega), HO.out, t + 1, by omega, by rw [HT.out], HR.out⟩
            · refine (rPower7 _).mono ?_
              rintro e w7 ⟨rfl, hw⟩
              replace hw := hw.symm
              subst hw
              by_cases hbig : 128 ≤ x.toNat
              · have HD2 : Hid (D = decTail (3 - (1 + 1)) (acc + y * 128) (1 + 1) (l.drop (pos + 1 + 1 + 1))) := by show D = _; rw [HD.out, if_pos hbig]
                go_wp2
                go_roundw
                case rel =>
                  repeat apply Exists.intro
                  refine ⟨⟨1 + 1, acc + y * 128, by omega, by have := HT.out; omega, by go_num, by go_num, by omega, HO.out, hX, by have := HR.out; rw [HT.out] at this; exact this, HD2⟩, rfl⟩
                case measure => simp [intOf]
              · by_cases hover : 9999 < acc + y * 128
                · have HD2 : Hid (D = none) := by show D = _; rw [HD.out, if_neg hbig, if_pos hover]
                  go_wp2
                  all_goals go_ret
                  all_goals exact .inr ⟨HD2.out, acc + y * 128, by omega, ret_int (by omega), HO.out.set 2 _, t + 1, by omega, HR.out.set2 true⟩
                · have HD2 : Hid (D = some (acc + y * 128, l.drop (pos + 1 + 1 + 1))) := by show D = _; rw [HD.out, if_neg hbig, if_neg hover]
                  go_wp2
                  go_ret
                  exact .inl ⟨acc + y * 128, l.drop (pos + 1 + 1 + 1), HD2.out, ret_int (by omega), HO.out, t + 1, by omega, by rw [HT.out], HR.out⟩
            · refine (rPower14 _).mono ?_
              rintro e w7 ⟨rfl, hw⟩
              replace hw := hw.symm
              subst hw
              by_cases hbig : 128 ≤ x.toNat
              · have HD2 : Hid (D = decTail (3 - (2 + 1)) (acc + y * 16384) (2 + 1) (l.drop (pos + 1 + 2 + 1))) := by show D = _; rw [HD.out, if_pos hbig]
                go_wp2
                go_roundw
                case rel =>
                  repeat apply Exists.intro
                  refine ⟨⟨2 + 1, acc + y * 16384, by omega, by have := HT.out; omega, by go_num, by go_num, by omega, HO.out, hX, by have := HR.out; rw [HT.out] at this; exact this, HD2⟩, rfl⟩
                case measure => simp [intOf]
              · by_cases hover : 9999 < acc + y * 16384
                · have HD2 : Hid (D = none) := by show D = _; rw [HD.out, if_neg hbig, if_pos hover]
                  go_wp2
                  all_goals go_ret
                  all_goals exact .inr ⟨HD2.out, acc + y * 16384, by omega, ret_int (by omega), HO.out.set 2 _, t + 1, by omega, HR.out.set2 true⟩
                · have HD2 : Hid (D = some (acc + y * 16384, l.drop (pos + 1 + 2 + 1))) := by show D = _; rw [HD.out, if_neg hbig, if_neg hover]
                  go_wp2
                  go_ret
                  exact .inl ⟨acc + y * 16384, l.drop (pos + 1 + 2 + 1), HD2.out, ret_int (by omega), HO.out, t + 1, by omega, by rw [HT.out], HR.out⟩
          · have HD2 : Hid (D = none) := by
              show D = _
              rw [HD.out, List.drop_of_length_le (by omega), show 3 - k = 3 - (k + 1) + 1 by omega]
              rfl
            obtain ⟨t, ht⟩ : ∃ t : Nat, t = pos + 1 + k := ⟨_, rfl⟩
            have HT := hide ht
            rw [← ht] at hc1'
            have HR2 : Hid (Rd wr R (.slice (some ⟨b, o, none⟩) l.length cap) t bad) := by show Rd _ _ _ _ _; rw [ht]; exact HR.out
            clear HR
            have HR := HR2
            clear HR2
            have hge : (l.length : Int) ≤ (t : Int) := by omega
            have htl : t ≤ l.length := by omega
            clear ht
            go_wp2_with fail
            go_quiet (fail)
            have hq0 := drewN_ext wr nq
            generalize wr.drewN nq = w4 at hq0 ⊢
            have hs0 := HR.out.ext hq0
            have hs1 := HO.out.ext hq0
            have hs2 := hX.trans hq0
            clear hc0 hc1' hc2' hf1 hf2 hq0 HR HO hX
            have HR := hide hs0
            have HO := hide hs1
            have hX := hs2
            clear hs0 hs1 hs2
            have hc0 := HR.out.cell0
            have hc1' := HR.out.cell1
            have hc2' := HR.out.cell2
            have hf1 := HR.out.free1
            have hf2 := HR.out.free2
            go_wp2
            go_ret
            exact .inr ⟨HD2.out, 0, by omega, rfl, HO.out.set 2 _, t, htl, HR.out.set2 true⟩
        · have hk : k = 3 := by omega
          subst hk
          have HD2 : Hid (D = none) := by show D = _; rw [HD.out]; rfl
          go_wp2
          go_ret
          exact .inr ⟨HD2.out, 0, by omega, rfl, HO.out.set 2 _, pos + 1 + 3, by omega, HR.out.set2 true⟩
  · have HD : Hid (decN 7 (l.drop pos) = none) := by show decN 7 (l.drop pos) = none; rw [List.drop_of_length_le (by omega)]; rfl
    generalize decN 7 (l.drop pos) = D at HD ⊢
    have hge : (l.length : Int) ≤ (pos : Int) := by omega
    clear hcell
    go_enter Tryz.func180, Tryz.ntmps180
    go_wp2_with fail
    go_quiet (fail)
    have hq0 := drewN_ext w nq
    generalize w.drewN nq = w1 at hq0 ⊢
    have hs0 := HR.out.ext hq0
    have hs1 := HO.out.ext hq0
    have hs2 := hX.trans hq0
    clear hc0 hc1' hc2' hf1 hf2 hq0 HR HO hX
    have HR := hide hs0
    have HO := hide hs1
    have hX := hs2
    clear hs0 hs1 hs2
    have hc0 := HR.out.cell0
    have hc1' := HR.out.cell1
    have hc2' := HR.out.cell2
    have hf1 := HR.out.free1
    have hf2 := HR.out.free2
    go_wp2
    go_ret
    exact .inr ⟨HD.out, 0, by omega, rfl, HO.out.set 2 _, pos, hp, HR.out.set2 true⟩

end Go.Proofs.YtoijpogadkogcaaGreat
