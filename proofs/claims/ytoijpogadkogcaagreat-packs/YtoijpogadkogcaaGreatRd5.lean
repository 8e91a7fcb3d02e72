/-
  The document's own answer: a number with a prefix of five bits.
-/
import Derived.Test.YtoijpogadkogcaaGreatRd
namespace Go.Proofs.YtoijpogadkogcaaGreat
open Go.RowKit
set_option maxRecDepth 100000

set_option maxHeartbeats 12800000 in
theorem mNumber5_any (R : Nat) (v : Value) (l : List UInt8) (pos : Nat) (bad : Bool) (w0 w : World) (h0 : Ext w0 w) (hR : w0.heap.size ≤ R) (hv : IsBytes w0 v l) (hl : l.length ≤ 1000) (hp : pos ≤ l.length) (hrd : Rd w R v pos bad) :
    Calls Tryz.prog 180 #[.pointer (some ⟨R, 0, none⟩), .int .i64 5] w fun e w' => (∃ n rest, decN 31 (l.drop pos) = some (n, rest) ∧ e = .returned (.int .i64 (n : Int)) ∧ After R v l bad w w' (some rest)) ∨ (decN 31 (l.drop pos) = none ∧ ∃ n : Nat, n ≤ 100000000 ∧ e = .returned (.int .i64 (n : Int)) ∧ After R v l bad w w' none) := by
  obtain ⟨a, cap, rfl, hc1, hc2, hcell⟩ := hv
  have HR := hide hrd
  have hX := h0
  have HO := hide (Only.refl R w)
  have hc0 := HR.out.cell0
  have hc1' := HR.out.cell1
  have hc2' := HR.out.cell2
  have hf1 := HR.out.free1
  have hf2 := HR.out.free2
  clear hrd h0
  by_cases hlt : pos < l.length
  · obtain ⟨b, o, rfl, hcc⟩ : ∃ b o, a = some ⟨b, o, none⟩ ∧ ∀ i, i < l.length → w0.cell? ⟨b, o + i, none⟩ = some (.int .u8 ((l.getD i 0).toNat : Int)) := by
      rcases hcell with h | h
      · rw [h] at hlt; simp at hlt
      · exact h
    have HCC := hide hcc
    have hcx := hcc pos hlt
    have hd := drop_at l pos hlt
    have hxl := (l.getD pos 0).toNat_lt
    obtain ⟨c, hcE⟩ : ∃ c, l.getD pos 0 = c := ⟨_, rfl⟩
    have HCE := hide hcE
    rw [hcE] at hcx hd hxl
    clear hcE
    obtain ⟨q, hq⟩ : ∃ q, q = c.toNat % 32 := ⟨_, rfl⟩
    have f1 : ((c.toNat : Int)).tmod 32 = (q : Int) := by rw [Int.tmod_eq_emod_of_nonneg (by omega)]; omega
    have hql : q ≤ 31 := by omega
    have hpl : (pos : Int) < (l.length : Int) := by omega
    have HN : Hid (decN 31 (l.drop pos) = if q < 31 then some (q, l.drop (pos + 1)) else decTail 3 31 0 (l.drop (pos + 1))) := by
      show decN 31 (l.drop pos) = _
      rw [hd]
      simp only [decN]
      rw [← hq]
    clear hq hd hcell hcc
    generalize decN 31 (l.drop pos) = D at HN ⊢
    go_enter Tryz.func180, Tryz.ntmps180
    go_wp2_with fail
    go_quiet (fail)
    have hq0 := drewN_ext w nq
    generalize w.drewN nq = w1 at hq0 ⊢
    have hs0 := HR.out.ext hq0
    have hs1 := HO.out.ext hq0
    have hs2 := hX.trans hq0
    clear hc0 hc1' hc2' hf1 hf2 hq0 HR HO hX
    have HR := hide hs0
    have HO := hide hs1
    have hX := hs2
    clear hs0 hs1 hs2
    have hc0 := HR.out.cell0
    have hc1' := HR.out.cell1
    have hc2' := HR.out.cell2
    have hf1 := HR.out.free1
    have hf2 := HR.out.free2
    clear hcx
    have hcx : w1.cell? ⟨b, o + pos, none⟩ = some (.int .u8 (c.toNat : Int)) := by rw [hX.cell (HCC.out pos hlt), HCE.out]
    go_wp2_with (go_at_call 178; refine (rPower5 _).mono ?_; rintro e w' ⟨rfl, hw⟩; replace hw := hw.symm; subst hw)
    go_quiet (fail)
    have hq0 := drewN_ext w1 nq
    generalize w1.drewN nq = w2 at hq0 ⊢
    have hs0 := HR.out.ext hq0
    have hs1 := HO.out.ext hq0
    have hs2 := hX.trans hq0
    clear hc0 hc1' hc2' hf1 hf2 hq0 HR HO hX
    have HR := hide hs0
    have HO := hide hs1
    have hX := hs2
    clear hs0 hs1 hs2
    have hc0 := HR.out.cell0
    have hc1' := HR.out.cell1
    have hc2' := HR.out.cell2
    have hf1 := HR.out.free1
    have hf2 := HR.out.free2
    clear hcx f1
    by_cases hlow : q < 31
    · have HD : Hid (D = some (q, l.drop (pos + 1))) := by show D = _; rw [HN.out, if_pos hlow]
      go_wp2
      go_ret
      exact .inl ⟨q, l.drop (pos + 1), HD.out, rfl, HO.out.set 1 _, pos + 1, by omega, rfl, HR.out.set1 (pos + 1) _ (by omega)⟩
    · have hqf : q = 31 := by omega
      subst hqf
      have HD : Hid (D = decTail 3 31 0 (l.drop (pos + 1))) := by show D = _; rw [HN.out, if_neg hlow]
      clear HN hlow hql
      go_wp2_with fail
      have hs0 := HR.out.set1 (pos + 1) ((pos : Int) + 1) (by omega)
      have hs1 := HO.out.set 1 (.int .i64 ((pos : Int) + 1))
      have hs2 := Ext.only hX ((Only.refl R _).set 1 (.int .i64 ((pos : Int) + 1))) hR
      generalize w2.setCell ⟨R, 1, none⟩ (.int .i64 ((pos : Int) + 1)) = w3 at hs0 hs1 hs2 ⊢
      clear hc0 hc1' hc2' hf1 hf2 HR HO hX
      have HR := hide hs0
      have HO := hide hs1
      have hX := hs2
      clear hs0 hs1 hs2
      have hc0 := HR.out.cell0
      have hc1' := HR.out.cell1
      have hc2' := HR.out.cell2
      have hf1 := HR.out.free1
      have hf2 := HR.out.free2
      go_loopw [6, 7] (fun n i wr => ∃ k acc : Nat, k ≤ 3 ∧ pos + 1 + k ≤ l.length ∧ i = .int .i64 k ∧ n = .int .i64 acc ∧ acc ≤ 31 + k * 3000000 ∧ Only R w wr ∧ Ext w0 wr ∧ Rd wr R (.slice (some ⟨b, o, none⟩) l.length cap) (pos + 1 + k) bad ∧ Hid (D = decTail (3 - k) acc k (l.drop (pos + 1 + k)))) (fun _ i _ => 3 - (intOf i).toNat)
      case atStart => exact ⟨0, 31, by omega, by omega, rfl, rfl, by omega, HO.out, hX, HR.out, HD⟩
      case round =>
        clear hc0 hc1' hc2' hf1 hf2 HR HO hX HD
        obtain ⟨k, acc, hk3, hkl, rfl, rfl, hacc, hO, hX, hrd, HD⟩ := hrel
        have HO := hide hO
        have HR := hide hrd
        clear hO hrd
        have hc0 := HR.out.cell0
        have hc1' := HR.out.cell1
        have hc2' := HR.out.cell2
        have hf1 := HR.out.free1
        have hf2 := HR.out.free2
        by_cases h3 : k < 3
        · by_cases hlt2 : pos + 1 + k < l.length
          · have hpl2 : ((pos + 1 + k : Nat) : Int) < (l.length : Int) := by omega
            have HCX := hide (HCC.out (pos + 1 + k) hlt2)
            have hdrop := drop_at l (pos + 1 + k) hlt2
            have hxl2 := (l.getD (pos + 1 + k) 0).toNat_lt
            generalize l.getD (pos + 1 + k) 0 = x at HCX hdrop hxl2
            obtain ⟨y, hy⟩ : ∃ y, y = x.toNat % 128 := ⟨_, rfl⟩
            have hyl : y ≤ 127 := by omega
            have f2 : ((x.toNat : Int)) % 128 = (y : Int) := by omega
            have hD := HD.out
            rw [hdrop, show 3 - k = 3 - (k + 1) + 1 by omega] at hD
            simp only [decTail] at hD
            rw [← hy] at hD
            clear HD
            have HD := hide hD
            clear hD hdrop hy
            obtain ⟨t, ht⟩ : ∃ t : Nat, t = pos + 1 + k := ⟨_, rfl⟩
            have HT := hide ht
            rw [← ht] at hpl2 hc1' HCX
            have HR2 : Hid (Rd wr R (.slice (some ⟨b, o, none⟩) l.length cap) t bad) := by show Rd _ _ _ _ _; rw [ht]; exact HR.out
            clear HR
            have HR := HR2
            clear HR2
            have htl : t < l.length := by omega
            have htp : t ≤ 1000 := by omega
            clear ht
            go_wp2_with fail
            go_quiet (fail)
            have hq0 := drewN_ext wr nq
            generalize wr.drewN nq = w4 at hq0 ⊢
            have hs0 := HR.out.ext hq0
            have hs1 := HO.out.ext hq0
            have hs2 := hX.trans hq0
            clear hc0 hc1' hc2' hf1 hf2 hq0 HR HO hX
            have HR := hide hs0
            have HO := hide hs1
            have hX := hs2
            clear hs0 hs1 hs2
            have hc0 := HR.out.cell0
            have hc1' := HR.out.cell1
            have hc2' := HR.out.cell2
            have hf1 := HR.out.free1
            have hf2 := HR.out.free2
            go_wp2_with fail
            have hcx2 := hX.cell HCX.out
            go_quiet (fail)
            have hq0 := drewN_ext w4 nq
            generalize w4.drewN nq = w5 at hq0 ⊢
            have hs0 := HR.out.ext hq0
            have hs1 := HO.out.ext hq0
            have hs2 := hX.trans hq0
            clear hc0 hc1' hc2' hf1 hf2 hq0 HR HO hX
            have HR := hide hs0
            have HO := hide hs1
            have hX := hs2
            clear hs0 hs1 hs2
            have hc0 := HR.out.cell0
            have hc1' := HR.out.cell1
            have hc2' := HR.out.cell2
            have hf1 := HR.out.free1
            have hf2 := HR.out.free2
            clear hcx2
            go_wp2_with fail
            have hs0 := HR.out.set1 (t + 1) ((t : Int) + 1) (by omega)
            have hs1 := HO.out.set 1 (.int .i64 ((t : Int) + 1))
            have hs2 := Ext.only hX ((Only.refl R _).set 1 (.int .i64 ((t : Int) + 1))) hR
            generalize w5.setCell ⟨R, 1, none⟩ (.int .i64 ((t : Int) + 1)) = w6 at hs0 hs1 hs2 ⊢
            clear hc0 hc1' hc2' hf1 hf2 HR HO hX
            have HR := hide hs0
            have HO := hide hs1
            have hX := hs2
            clear hs0 hs1 hs2
            have hc0 := HR.out.cell0
            have hc1' := HR.out.cell1
            have hc2' := HR.out.cell2
            have hf1 := HR.out.free1
            have hf2 := HR.out.free2
            rcases (by omega : k = 0 ∨ k = 1 ∨ k = 2) with rfl | rfl | rfl
            · refine (rPower0 _).mono ?_
              rintro e w7 ⟨rfl, hw⟩
              replace hw := hw.symm
              subst hw
              by_cases hbig : 128 ≤ x.toNat
              · have HD2 : Hid (D = decTail (3 - (0 + 1)) (acc + y * 1) (0 + 1) (l.drop (pos + 1 + 0 + 1))) := by show D = _; rw [HD.out, if_pos hbig]
                go_wp2
                go_roundw
                case rel =>
                  repeat apply Exists.intro
                  refine ⟨⟨0 + 1, acc + y * 1, by omega, by have := HT.out; omega, by go_num, by go_num, by omega, HO.out, hX, by have := HR.out; rw [HT.out] at this; exact this, HD2⟩, rfl⟩
                case measure => simp [intOf]
              · by_cases hover : 9999 < acc + y * 1
                · have HD2 : Hid (D = none) := by show D = _; rw [HD.out, if_neg hbig, if_pos hover]
                  go_wp2
                  all_goals go_ret
                  all_goals exact .inr ⟨HD2.out, acc + y * 1, by omega, ret_int (by omega), HO.out.set 2 _, t + 1, by omega, HR.out.set2 true⟩
                · have HD2 : Hid (D = some (acc + y * 1, l.drop (pos + 1 + 0 + 1))) := by show D = _; rw [HD.out, if_neg hbig, if_neg hover]
                  go_wp2
                  go_ret
                  exact .inl ⟨acc + y * 1, l.drop (pos + 1 + 0 + 1), HD2.out, ret_int (by omega), HO.out, t + 1, by omega, by rw [HT.out], HR.out⟩
            · refine (rPower7 _).mono ?_
              rintro e w7 ⟨rfl, hw⟩
              replace hw := hw.symm
              subst hw
              by_cases hbig : 128 ≤ x.toNat
              · have HD2 : Hid (D = decTail (3 - (1 + 1)) (acc + y * 128) (1 + 1) (l.drop (pos + 1 + 1 + 1))) := by show D = _; rw [HD.out, if_pos hbig]
                go_wp2
                go_roundw
                case rel =>
                  repeat apply Exists.intro
                  refine ⟨⟨1 + 1, acc + y * 128, by omega, by have := HT.out; omega, by go_num, by go_num, by omega, HO.out, hX, by have := HR.out; rw [HT.out] at this; exact this, HD2⟩, rfl⟩
                case measure => simp [intOf]
              · by_cases hover : 9999 < acc + y * 128
                · have HD2 : Hid (D = none) := by show D = _; rw [HD.out, if_neg hbig, if_pos hover]
                  go_wp2
                  all_goals go_ret
                  all_goals exact .inr ⟨HD2.out, acc + y * 128, by omega, ret_int (by omega), HO.out.set 2 _, t + 1, by omega, HR.out.set2 true⟩
                · have HD2 : Hid (D = some (acc + y * 128, l.drop (pos + 1 + 1 + 1))) := by show D = _; rw [HD.out, if_neg hbig, if_neg hover]
                  go_wp2
                  go_ret
                  exact .inl ⟨acc + y * 128, l.drop (pos + 1 + 1 + 1), HD2.out, ret_int (by omega), HO.out, t + 1, by omega, by rw [HT.out], HR.out⟩
            · refine (rPower14 _).mono ?_
              rintro e w7 ⟨rfl, hw⟩
              replace hw := hw.symm
              subst hw
              by_cases hbig : 128 ≤ x.toNat
              · have HD2 : Hid (D = decTail (3 - (2 + 1)) (acc + y * 16384) (2 + 1) (l.drop (pos + 1 + 2 + 1))) := by show D = _; rw [HD.out, if_pos hbig]
                go_wp2
                go_roundw
                case rel =>
                  repeat apply Exists.intro
                  refine ⟨⟨2 + 1, acc + y * 16384, by omega, by have := HT.out; omega, by go_num, by go_num, by omega, HO.out, hX, by have := HR.out; rw [HT.out] at this; exact this, HD2⟩, rfl⟩
                case measure => simp [intOf]
              · by_cases hover : 9999 < acc + y * 16384
                · have HD2 : Hid (D = none) := by show D = _; rw [HD.out, if_neg hbig, if_pos hover]
                  go_wp2
                  all_goals go_ret
                  all_goals exact .inr ⟨HD2.out, acc + y * 16384, by omega, ret_int (by omega), HO.out.set 2 _, t + 1, by omega, HR.out.set2 true⟩
                · have HD2 : Hid (D = some (acc + y * 16384, l.drop (pos + 1 + 2 + 1))) := by show D = _; rw [HD.out, if_neg hbig, if_neg hover]
                  go_wp2
                  go_ret
                  exact .inl ⟨acc + y * 16384, l.drop (pos + 1 + 2 + 1), HD2.out, ret_int (by omega), HO.out, t + 1, by omega, by rw [HT.out], HR.out⟩
          · have HD2 : Hid (D = none) := by
              show D = _
              rw [HD.out, List.drop_of_length_le (by omega), show 3 - k = 3 - (k + 1) + 1 by omega]
              rfl
            obtain ⟨t, ht⟩ : ∃ t : Nat, t = pos + 1 + k := ⟨_, rfl⟩
            have HT := hide ht
            rw [← ht] at hc1'
            have HR2 : Hid (Rd wr R (.slice (some ⟨b, o, none⟩) l.length cap) t bad) := by show Rd _ _ _ _ _; rw [ht]; exact HR.out
            clear HR
            have HR := HR2
            clear HR2
            have hge : (l.length : Int) ≤ (t : Int) := by omega
            have htl : t ≤ l.length := by omega
            clear ht
            go_wp2_with fail
            go_quiet (fail)
            have hq0 := drewN_ext wr nq
            generalize wr.drewN nq = w4 at hq0 ⊢
            have hs0 := HR.out.ext hq0
            have hs1 := HO.out.ext hq0
            have hs2 := hX.trans hq0
            clear hc0 hc1' hc2' hf1 hf2 hq0 HR HO hX
            have HR := hide hs0
            have HO := hide hs1
            have hX := hs2
            clear hs0 hs1 hs2
            have hc0 := HR.out.cell0
            have hc1' := HR.out.cell1
            have hc2' := HR.out.cell2
            have hf1 := HR.out.free1
            have hf2 := HR.out.free2
            go_wp2
            go_ret
            exact .inr ⟨HD2.out, 0, by omega, rfl, HO.out.set 2 _, t, htl, HR.out.set2 true⟩
        · have hk : k = 3 := by omega
          subst hk
          have HD2 : Hid (D = none) := by show D = _; rw [HD.out]; rfl
          go_wp2
          go_ret
          exact .inr ⟨HD2.out, 0, by omega, rfl, HO.out.set 2 _, pos + 1 + 3, by omega, HR.out.set2 true⟩
  · have HD : Hid (decN 31 (l.drop pos) = none) := by show decN 31 (l.drop pos) = none; rw [List.drop_of_length_le (by omega)]; rfl
    generalize decN 31 (l.drop pos) = D at HD ⊢
    have hge : (l.length : Int) ≤ (pos : Int) := by omega
    clear hcell
    go_enter Tryz.func180, Tryz.ntmps180
    go_wp2_with fail
    go_quiet (fail)
    have hq0 := drewN_ext w nq
    generalize w.drewN nq = w1 at hq0 ⊢
    have hs0 := HR.out.ext hq0
    have hs1 := HO.out.ext hq0
    have hs2 := hX.trans hq0
    clear hc0 hc1' hc2' hf1 hf2 hq0 HR HO hX
    have HR := hide hs0
    have HO := hide hs1
    have hX := hs2
    clear hs0 hs1 hs2
    have hc0 := HR.out.cell0
    have hc1' := HR.out.cell1
    have hc2' := HR.out.cell2
    have hf1 := HR.out.free1
    have hf2 := HR.out.free2
    go_wp2
    go_ret
    exact .inr ⟨HD.out, 0, by omega, rfl, HO.out.set 2 _, pos, hp, HR.out.set2 true⟩

end Go.Proofs.YtoijpogadkogcaaGreat
