/-
  The document's own answer: a reader's entry, a reader's text.
-/
import Derived.Test.YtoijpogadkogcaaGreatRd5
namespace Go.Proofs.YtoijpogadkogcaaGreat
open Go.RowKit
set_option maxRecDepth 100000

set_option maxHeartbeats 3200000 in
theorem mKnown_yes (R : Nat) (v : Value) (pos n : Nat) (w : World) (hrd : Rd w R v pos false) (h1 : 1 ≤ n) (h16 : n ≤ 16) :
    Calls Tryz.prog 181 #[.pointer (some ⟨R, 0, none⟩), .int .i64 (n : Int)] w fun e w' => e = .returned (.agg #[.string ⟨(tbl.getD (n - 1) ([], [])).1.toArray⟩, .string ⟨(tbl.getD (n - 1) ([], [])).2.toArray⟩]) ∧ Ext w w' := by
  obtain ⟨j, hj⟩ : ∃ j, n = j + 1 := ⟨n - 1, by omega⟩
  subst hj
  rw [Nat.add_sub_cancel]
  obtain ⟨p, hp⟩ : ∃ p, tbl.getD j ([], []) = p := ⟨_, rfl⟩
  rw [hp]
  have HP := hide hp
  clear hp
  have hE := (Ext.refl w).alloc (.cells #[.string ⟨#[]⟩, .string ⟨#[]⟩] 122)
  have hbox := Box.new w ⟨#[]⟩ ⟨#[]⟩
  have hrd := hrd.ext hE
  go_enter Tryz.func181, Tryz.ntmps181
  go_wp2_with fail
  refine (table_any _).mono ?_
  rintro e w1 ⟨vt, rfl, ht1, hE1⟩
  have hrd := hrd.ext hE1
  have hbox := hbox.ext hE1
  have hEw := hE.trans hE1
  have hc2' := hrd.cell2
  have hx0 := hbox.cell0
  have hx1 := hbox.cell1
  have hf0 := hbox.free0
  have hf1 := hbox.free1
  obtain ⟨a, cap, rfl, hc1, hc2, hcell⟩ := ht1
  rw [show tbl.length = 16 from rfl] at *
  obtain ⟨b, o, rfl, hcc⟩ : ∃ b o, a = some ⟨b, o, none⟩ ∧ ∀ i, i < 16 → w1.cell? ⟨b, o + i * 2, none⟩ = some (.string ⟨(tbl.getD i ([], [])).1.toArray⟩) ∧ w1.cell? ⟨b, o + i * 2 + 1, none⟩ = some (.string ⟨(tbl.getD i ([], [])).2.toArray⟩) := by
    rcases hcell with h | h
    · cases h
    · exact h
  obtain ⟨hcA, hcB⟩ := hcc j (by omega)
  rw [HP.out] at hcA hcB
  clear hcc hcell hE hE1
  have HR0 := hide ((hbox.set0 ⟨p.1.toArray⟩).set1 ⟨p.2.toArray⟩)
  have HEZ := hide ((hEw.setCell (p := ⟨w.heap.size, 0, none⟩) (Nat.le_refl _) (.string ⟨p.1.toArray⟩)).setCell (p := ⟨w.heap.size, 1, none⟩) (Nat.le_refl _) (.string ⟨p.2.toArray⟩))
  clear hbox hrd
  go_wp2
  have hr0 := HR0.out.cell0
  have hr1 := HR0.out.cell1
  exact bodyPost_ret (v := .agg #[.string ⟨p.1.toArray⟩, .string ⟨p.2.toArray⟩]) (by simp [results, Tryz.results181, go_sem, hr0, hr1]) rfl ⟨rfl, HEZ.out⟩

set_option maxHeartbeats 3200000 in
theorem mKnown_no (R : Nat) (v : Value) (pos n : Nat) (bad : Bool) (w : World) (hrd : Rd w R v pos bad) (h : bad = true ∨ n < 1 ∨ 16 < n) (hn : n ≤ 100000000) :
    Calls Tryz.prog 181 #[.pointer (some ⟨R, 0, none⟩), .int .i64 (n : Int)] w fun e w' => e = .returned (.agg #[.string ⟨#[]⟩, .string ⟨#[]⟩]) ∧ Only R w w' ∧ Rd w' R v pos true := by
  have hE := (Ext.refl w).alloc (.cells #[.string ⟨#[]⟩, .string ⟨#[]⟩] 122)
  have hbox := Box.new w ⟨#[]⟩ ⟨#[]⟩
  have hne : R ≠ w.heap.size := fun e => by have := hrd.lt; omega
  have hrd := hrd.ext hE
  go_enter Tryz.func181, Tryz.ntmps181
  go_wp2_with fail
  refine (table_any _).mono ?_
  rintro e w1 ⟨vt, rfl, ht1, hE1⟩
  have hrd := hrd.ext hE1
  have hbox := hbox.ext hE1
  have HOw := hide ((Only.refl R w).ext (hE.trans hE1))
  have hc2' := hrd.cell2
  have hf2 := hrd.free2
  have hrs := hrd.set2 true
  have HO2 := hide (HOw.out.set 2 (.bool true))
  have hbs : Box (w1.setCell ⟨R, 2, none⟩ (.bool true)) w.heap.size ⟨#[]⟩ ⟨#[]⟩ := by
    show (w1.setCell ⟨R, 2, none⟩ (.bool true)).heap[w.heap.size]? = _
    rw [Below.heap_setCell w1 _ _ _ (Ne.symm hne)]
    exact hbox
  have hx0 := hbs.cell0
  have hx1 := hbs.cell1
  have hf0 := hbs.free0
  have hf1 := hbs.free1
  obtain ⟨a, cap, rfl, hc1, hc2, hcell⟩ := ht1
  rw [show tbl.length = 16 from rfl] at *
  clear hcell hE hE1
  have HR0 := hide ((hbs.set0 ⟨#[]⟩).set1 ⟨#[]⟩)
  have HRZ : Hid (Rd (((w1.setCell ⟨R, 2, none⟩ (.bool true)).setCell ⟨w.heap.size, 0, none⟩ (.string ⟨#[]⟩)).setCell ⟨w.heap.size, 1, none⟩ (.string ⟨#[]⟩)) R v pos true) := by
    show (((w1.setCell ⟨R, 2, none⟩ (.bool true)).setCell ⟨w.heap.size, 0, none⟩ (.string ⟨#[]⟩)).setCell ⟨w.heap.size, 1, none⟩ (.string ⟨#[]⟩)).heap[R]? = _
    rw [Below.heap_setCell _ _ _ _ (by exact hne), Below.heap_setCell _ _ _ _ (by exact hne)]
    exact hrs
  have HOZ : Hid (Only R w (((w1.setCell ⟨R, 2, none⟩ (.bool true)).setCell ⟨w.heap.size, 0, none⟩ (.string ⟨#[]⟩)).setCell ⟨w.heap.size, 1, none⟩ (.string ⟨#[]⟩))) := by
    refine ⟨HO2.out.os, HO2.out.tape, HO2.out.output, by have := HO2.out.size; simpa using this, fun k hk hk2 => ?_⟩
    rw [Below.heap_setCell _ _ _ _ (by show k ≠ w.heap.size; omega), Below.heap_setCell _ _ _ _ (by show k ≠ w.heap.size; omega)]
    exact HO2.out.block k hk hk2
  clear hbs hbox hrs hrd
  cases bad with
  | true =>
    go_wp2
    have hr0 := HR0.out.cell0
    have hr1 := HR0.out.cell1
    exact bodyPost_ret (v := .agg #[.string ⟨#[]⟩, .string ⟨#[]⟩]) (by simp [results, Tryz.results181, go_sem, hr0, hr1]) rfl ⟨rfl, HOZ.out, HRZ.out⟩
  | false =>
    by_cases hlo : n < 1
    · clear h
      go_wp2
      have hr0 := HR0.out.cell0
      have hr1 := HR0.out.cell1
      exact bodyPost_ret (v := .agg #[.string ⟨#[]⟩, .string ⟨#[]⟩]) (by simp [results, Tryz.results181, go_sem, hr0, hr1]) rfl ⟨rfl, HOZ.out, HRZ.out⟩
    · have hhi : 16 < n := by
        rcases h with h | h | h
        · cases h
        · omega
        · exact h
      clear h
      go_wp2
      have hr0 := HR0.out.cell0
      have hr1 := HR0.out.cell1
      exact bodyPost_ret (v := .agg #[.string ⟨#[]⟩, .string ⟨#[]⟩]) (by simp [results, Tryz.results181, go_sem, hr0, hr1]) rfl ⟨rfl, HOZ.out, HRZ.out⟩

theorem ret_str {a b : ByteArray} (h : a = b) : Ending.returned (.string a) = .returned (.string b) := by rw [h]
theorem wrap_nat (q : Nat) (h : q < 1099511627776) : IntKind.i64.wrap (q : Int) = (q : Int) := by
  have h1 : (q : Int) % 18446744073709551616 = (q : Int) := by omega
  simp only [IntKind.wrap, IntKind.bits, IntKind.signed]
  simp only [show (2 : Int) ^ 64 = 18446744073709551616 from rfl, show (2 : Int) ^ (64 - 1) = 9223372036854775808 from rfl, h1]
  simp
  omega
/-- What a cut from a place to a place comes to. -/
theorem cut_mid {a : Option Addr} {n cap : Nat} {l : List UInt8} {w : World} (h : IsBytes w (.slice a n cap) l) (k m : Nat) (hk : k + m ≤ l.length) :
    ∃ A, (∀ W : World, (Instr.slice 34 (.slice a n cap) (some (.int .i64 (k : Int))) (some (.int .i64 ((k : Int) + (m : Int)))) none).run Tryz.prog W = .ok (.slice A m (cap - k)) W) ∧ IsBytes w (.slice A m (cap - k)) ((l.drop k).take m) := by
  have hn : n = l.length ∧ l.length ≤ cap := by
    obtain ⟨a', cap', he, h1, _⟩ := h
    simp only [Value.slice.injEq] at he
    exact ⟨he.2.1, by omega⟩
  have hb := IsBytes.drop h k (by omega)
  rw [sliced] at hb
  have hb2 := IsBytes.take hb m (by rw [List.length_drop]; omega)
  have e : sliced (if cap = k then a else a.map (·.add (k * 1))) 0 m (cap - k) 1 = .slice (if cap = k then a else a.map (·.add (k * 1))) m (cap - k) := by
    simp only [sliced, Nat.zero_mul, Nat.sub_zero]
    congr 1
    split
    · rfl
    · generalize (if cap = k then a else a.map (·.add (k * 1))) = z
      cases z <;> simp [Addr.add]
  rw [e] at hb2
  refine ⟨_, fun W => ?_, hb2⟩
  rw [run_slice_lh W 34 a n cap (by rw [elem_bytes]; exact Tryz.underlying34) .i64 .i64 (k : Int) ((k : Int) + (m : Int)) (by omega) (by omega) (by omega), elem_bytes, size_bytes]
  simp only [sliced, Result.andThen]
  rw [show ((k : Int) + (m : Int)).toNat = k + m by omega, Int.toNat_natCast, Nat.add_sub_cancel_left]

set_option maxHeartbeats 12800000 in
theorem mText_ok (R : Nat) (v : Value) (l : List UInt8) (pos : Nat) (w0 w : World) (h0 : Ext w0 w) (hR : w0.heap.size ≤ R) (hv : IsBytes w0 v l) (hl : l.length ≤ 1000) (hp : pos ≤ l.length) (hrd : Rd w R v pos false) :
    Calls Tryz.prog 182 #[.pointer (some ⟨R, 0, none⟩)] w fun e w' => (∃ t rest, decT (l.drop pos) = some (t, rest) ∧ e = .returned (.string ⟨t.toArray⟩) ∧ After R v l false w w' (some rest)) ∨ (decT (l.drop pos) = none ∧ e = .returned (.string ⟨#[]⟩) ∧ After R v l false w w' none) := by
  have HV := hide hv
  obtain ⟨a, cap, rfl, hc1, hc2, hcell⟩ := hv
  have HR := hide hrd
  have hX := h0
  have HO := hide (Only.refl R w)
  have hc0 := HR.out.cell0
  have hc1' := HR.out.cell1
  have hc2' := HR.out.cell2
  have hf1 := HR.out.free1
  have hf2 := HR.out.free2
  clear hrd h0
  by_cases hlt : pos < l.length
  · obtain ⟨b, o, rfl, hcc⟩ : ∃ b o, a = some ⟨b, o, none⟩ ∧ ∀ i, i < l.length → w0.cell? ⟨b, o + i, none⟩ = some (.int .u8 ((l.getD i 0).toNat : Int)) := by
      rcases hcell with h | h
      · rw [h] at hlt; simp at hlt
      · exact h
    have HCC := hide hcc
    have hd := drop_at l pos hlt
    obtain ⟨c, hcE⟩ : ∃ c, l.getD pos 0 = c := ⟨_, rfl⟩
    have hcx : w.cell? ⟨b, o + pos, none⟩ = some (.int .u8 (c.toNat : Int)) := by rw [hX.cell (hcc pos hlt), hcE]
    have hxl := c.toNat_lt
    rw [hcE] at hd
    have hpl : (pos : Int) < (l.length : Int) := by omega
    have HD0 : Hid (decT (l.drop pos) = if 31 < c.toNat then none else match decN 31 (l.drop pos) with
        | none => none
        | some (n, rest) => if rest.length < n then none else some (rest.take n, rest.drop n)) := by
      show decT (l.drop pos) = _
      rw [hd]
      rfl
    generalize decT (l.drop pos) = D at HD0 ⊢
    clear hcell hcc hd hcE
    by_cases hbig : 31 < c.toNat
    · have HD : Hid (D = none) := by show D = _; rw [HD0.out, if_pos hbig]
      have hbig' : decide ((32 : Int) ≤ (c.toNat : Int)) = true := by simp; omega
      go_enter Tryz.func182, Tryz.ntmps182
      go_wp2_with fail
      go_quiet (fail)
      have hq0 := drewN_ext w nq
      generalize w.drewN nq = w1 at hq0 ⊢
      have hs0 := HR.out.ext hq0
      have hs1 := HO.out.ext hq0
      have hs2 := hX.trans hq0
      clear hc0 hc1' hc2' hf1 hf2 hq0 HR HO hX
      have HR := hide hs0
      have HO := hide hs1
      have hX := hs2
      clear hs0 hs1 hs2
      have hc0 := HR.out.cell0
      have hc1' := HR.out.cell1
      have hc2' := HR.out.cell2
      have hf1 := HR.out.free1
      have hf2 := HR.out.free2
      clear hcx
      go_wp2_with fail
      have hs0 := HR.out.set2 true
      have hs1 := HO.out.set 2 (.bool true)
      have hs2 := Ext.only hX ((Only.refl R _).set 2 (.bool true)) hR
      generalize w1.setCell ⟨R, 2, none⟩ (.bool true) = w2 at hs0 hs1 hs2 ⊢
      clear hc0 hc1' hc2' hf1 hf2 HR HO hX
      have HR := hide hs0
      have HO := hide hs1
      have hX := hs2
      clear hs0 hs1 hs2
      have hc0 := HR.out.cell0
      have hc1' := HR.out.cell1
      have hc2' := HR.out.cell2
      have hf1 := HR.out.free1
      have hf2 := HR.out.free2
      refine (mNumber5_any R _ l pos true w0 w2 hX hR HV.out hl hp HR.out).mono ?_
      rintro e w3 (⟨n, rest, hn, rfl, hO3, kk, hkk, _, hrk⟩ | ⟨hn, n, hn8, rfl, hO3, kk, hkk, hrk⟩)
      all_goals
        clear hc0 hc1' hc2' hf1 hf2
        have hX3 := Ext.only hX hO3 hR
        have hO4 := HO.out.trans hO3
        have HR3 := hide hrk
        clear HR HO hX hO3 hrk hn
        have HR := HR3
        have HO := hide hO4
        have hX := hX3
        clear HR3 hO4 hX3
        have hc0 := HR.out.cell0
        have hc1' := HR.out.cell1
        have hc2' := HR.out.cell2
        have hf1 := HR.out.free1
        have hf2 := HR.out.free2
        go_wp2_with fail
        go_quiet (fail)
        have hq0 := drewN_ext w3 nq
        generalize w3.drewN nq = w4 at hq0 ⊢
        have hs0 := HR.out.ext hq0
        have hs1 := HO.out.ext hq0
        have hs2 := hX.trans hq0
        clear hc0 hc1' hc2' hf1 hf2 hq0 HR HO hX
        have HR := hide hs0
        have HO := hide hs1
        have hX := hs2
        clear hs0 hs1 hs2
        have hc0 := HR.out.cell0
        have hc1' := HR.out.cell1
        have hc2' := HR.out.cell2
        have hf1 := HR.out.free1
        have hf2 := HR.out.free2
        go_wp2
        go_ret
        exact .inr ⟨HD.out, rfl, HO.out.set 2 _, kk, hkk, HR.out.set2 true⟩
    · have hbig' : decide ((32 : Int) ≤ (c.toNat : Int)) = false := by simp; omega
      go_enter Tryz.func182, Tryz.ntmps182
      go_wp2_with fail
      go_quiet (fail)
      have hq0 := drewN_ext w nq
      generalize w.drewN nq = w1 at hq0 ⊢
      have hs0 := HR.out.ext hq0
      have hs1 := HO.out.ext hq0
      have hs2 := hX.trans hq0
      clear hc0 hc1' hc2' hf1 hf2 hq0 HR HO hX
      have HR := hide hs0
      have HO := hide hs1
      have hX := hs2
      clear hs0 hs1 hs2
      have hc0 := HR.out.cell0
      have hc1' := HR.out.cell1
      have hc2' := HR.out.cell2
      have hf1 := HR.out.free1
      have hf2 := HR.out.free2
      clear hcx
      go_wp2_with fail
      refine (mNumber5_any R _ l pos false w0 w1 hX hR HV.out hl hp HR.out).mono ?_
      rintro e w3 (⟨n, rest, hn, rfl, hO3, kk, hkk, hrest, hrk⟩ | ⟨hn, n, hn8, rfl, hO3, kk, hkk, hrk⟩)
      · have hn9 : n ≤ 9999 := decN_le 31 n _ _ (by omega) hn
        have HD1 : Hid (D = if rest.length < n then none else some (rest.take n, rest.drop n)) := by show D = _; rw [HD0.out, if_neg hbig, hn]
        have hrl : rest.length = l.length - kk := by rw [hrest, List.length_drop]
        clear hc0 hc1' hc2' hf1 hf2
        have hX3 := Ext.only hX hO3 hR
        have hO4 := HO.out.trans hO3
        have HR3 := hide hrk
        clear HR HO hX hO3 hrk hn HD0
        have HR := HR3
        have HO := hide hO4
        have hX := hX3
        clear HR3 hO4 hX3
        have hc0 := HR.out.cell0
        have hc1' := HR.out.cell1
        have hc2' := HR.out.cell2
        have hf1 := HR.out.free1
        have hf2 := HR.out.free2
        have hsub : (l.length : Int) - (kk : Int) = ((l.length - kk : Nat) : Int) := by omega
        have hsubw : IntKind.i64.wrap ((l.length : Int) - (kk : Int)) = (l.length : Int) - (kk : Int) := by rw [hsub]; exact wrap_nat _ (by omega)
        by_cases hshort : rest.length < n
        · have HD : Hid (D = none) := by show D = _; rw [HD1.out, if_pos hshort]
          have hgt : ((l.length : Int) - (kk : Int)) < (n : Int) := by omega
          clear hrl hsub
          go_wp2_with fail
          go_quiet (fail)
          have hq0 := drewN_ext w3 nq
          generalize w3.drewN nq = w4 at hq0 ⊢
          have hs0 := HR.out.ext hq0
          have hs1 := HO.out.ext hq0
          have hs2 := hX.trans hq0
          clear hc0 hc1' hc2' hf1 hf2 hq0 HR HO hX
          have HR := hide hs0
          have HO := hide hs1
          have hX := hs2
          clear hs0 hs1 hs2
          have hc0 := HR.out.cell0
          have hc1' := HR.out.cell1
          have hc2' := HR.out.cell2
          have hf1 := HR.out.free1
          have hf2 := HR.out.free2
          go_wp2
          go_ret
          exact .inr ⟨HD.out, rfl, HO.out.set 2 _, kk, hkk, HR.out.set2 true⟩
        · have HD : Hid (D = some (rest.take n, rest.drop n)) := by show D = _; rw [HD1.out, if_neg hshort]
          have hle : ¬ ((l.length : Int) - (kk : Int)) < (n : Int) := by omega
          have hle' : decide (((l.length : Int) - (kk : Int)) < (n : Int)) = false := by simpa using hle
          have hkn : kk + n ≤ l.length := by omega
          have hadd : IntKind.i64.wrap ((kk : Int) + (n : Int)) = (kk : Int) + (n : Int) := by
            rw [show ((kk : Int) + (n : Int)) = ((kk + n : Nat) : Int) by omega]; exact wrap_nat _ (by omega)
          clear hrl hsub
          go_wp2_with fail
          go_quiet (fail)
          have hq0 := drewN_ext w3 nq
          generalize w3.drewN nq = w4 at hq0 ⊢
          have hs0 := HR.out.ext hq0
          have hs1 := HO.out.ext hq0
          have hs2 := hX.trans hq0
          clear hc0 hc1' hc2' hf1 hf2 hq0 HR HO hX
          have HR := hide hs0
          have HO := hide hs1
          have hX := hs2
          clear hs0 hs1 hs2
          have hc0 := HR.out.cell0
          have hc1' := HR.out.cell1
          have hc2' := HR.out.cell2
          have hf1 := HR.out.free1
          have hf2 := HR.out.free2
          go_wp2_with fail
          obtain ⟨A, hsA, hBA⟩ := cut_mid HV.out kk n hkn
          have hcv : ∀ q, (convert 34 9 (.slice A n (cap - kk))).run Tryz.prog (w4.drewN q) = .ok (.string ⟨(rest.take n).toArray⟩) (w4.drewN q) := fun q => by
            have := conv_bytes (hBA.ext (hX.trans (drewN_ext w4 q)))
            rw [hrest]
            exact this
          go_quiet (fail)
          have hq0 := drewN_ext w4 nq
          generalize w4.drewN nq = w5 at hq0 ⊢
          have hs0 := HR.out.ext hq0
          have hs1 := HO.out.ext hq0
          have hs2 := hX.trans hq0
          clear hc0 hc1' hc2' hf1 hf2 hq0 HR HO hX
          have HR := hide hs0
          have HO := hide hs1
          have hX := hs2
          clear hs0 hs1 hs2
          have hc0 := HR.out.cell0
          have hc1' := HR.out.cell1
          have hc2' := HR.out.cell2
          have hf1 := HR.out.free1
          have hf2 := HR.out.free2
          clear hsA hcv
          go_wp2
          go_ret
          exact .inl ⟨rest.take n, rest.drop n, HD.out, ret_str (by rw [hrest]), HO.out.set 1 _, kk + n, hkn, by rw [hrest, List.drop_drop], HR.out.set1 (kk + n) _ (by omega)⟩
      · have HD : Hid (D = none) := by show D = _; rw [HD0.out, if_neg hbig, hn]
        clear hc0 hc1' hc2' hf1 hf2
        have hX3 := Ext.only hX hO3 hR
        have hO4 := HO.out.trans hO3
        have HR3 := hide hrk
        clear HR HO hX hO3 hrk hn HD0
        have HR := HR3
        have HO := hide hO4
        have hX := hX3
        clear HR3 hO4 hX3
        have hc0 := HR.out.cell0
        have hc1' := HR.out.cell1
        have hc2' := HR.out.cell2
        have hf1 := HR.out.free1
        have hf2 := HR.out.free2
        go_wp2_with fail
        go_quiet (fail)
        have hq0 := drewN_ext w3 nq
        generalize w3.drewN nq = w4 at hq0 ⊢
        have hs0 := HR.out.ext hq0
        have hs1 := HO.out.ext hq0
        have hs2 := hX.trans hq0
        clear hc0 hc1' hc2' hf1 hf2 hq0 HR HO hX
        have HR := hide hs0
        have HO := hide hs1
        have hX := hs2
        clear hs0 hs1 hs2
        have hc0 := HR.out.cell0
        have hc1' := HR.out.cell1
        have hc2' := HR.out.cell2
        have hf1 := HR.out.free1
        have hf2 := HR.out.free2
        go_wp2
        go_ret
        exact .inr ⟨HD.out, rfl, HO.out.set 2 _, kk, hkk, HR.out.set2 true⟩
  · have HD : Hid (decT (l.drop pos) = none) := by show decT (l.drop pos) = none; rw [List.drop_of_length_le (by omega)]; rfl
    generalize hDD : decT (l.drop pos) = D at HD ⊢
    clear hDD
    have HN : Hid (decN 31 (l.drop pos) = none) := by show decN 31 (l.drop pos) = none; rw [List.drop_of_length_le (by omega)]; rfl
    have hge : decide ((pos : Int) < (l.length : Int)) = false := by simp; omega
    clear hcell
    go_enter Tryz.func182, Tryz.ntmps182
    go_wp2_with fail
    go_quiet (fail)
    have hq0 := drewN_ext w nq
    generalize w.drewN nq = w1 at hq0 ⊢
    have hs0 := HR.out.ext hq0
    have hs1 := HO.out.ext hq0
    have hs2 := hX.trans hq0
    clear hc0 hc1' hc2' hf1 hf2 hq0 HR HO hX
    have HR := hide hs0
    have HO := hide hs1
    have hX := hs2
    clear hs0 hs1 hs2
    have hc0 := HR.out.cell0
    have hc1' := HR.out.cell1
    have hc2' := HR.out.cell2
    have hf1 := HR.out.free1
    have hf2 := HR.out.free2
    go_wp2_with fail
    refine (mNumber5_any R _ l pos false w0 w1 hX hR HV.out hl hp HR.out).mono ?_
    rintro e w3 (⟨n, rest, hn, rfl, hO3, kk, hkk, hrest, hrk⟩ | ⟨hn, n, hn8, rfl, hO3, kk, hkk, hrk⟩)
    · rw [HN.out] at hn; cases hn
    · clear hc0 hc1' hc2' hf1 hf2
      have hX3 := Ext.only hX hO3 hR
      have hO4 := HO.out.trans hO3
      have HR3 := hide hrk
      clear HR HO hX hO3 hrk hn HN
      have HR := HR3
      have HO := hide hO4
      have hX := hX3
      clear HR3 hO4 hX3
      have hc0 := HR.out.cell0
      have hc1' := HR.out.cell1
      have hc2' := HR.out.cell2
      have hf1 := HR.out.free1
      have hf2 := HR.out.free2
      go_wp2_with fail
      go_quiet (fail)
      have hq0 := drewN_ext w3 nq
      generalize w3.drewN nq = w4 at hq0 ⊢
      have hs0 := HR.out.ext hq0
      have hs1 := HO.out.ext hq0
      have hs2 := hX.trans hq0
      clear hc0 hc1' hc2' hf1 hf2 hq0 HR HO hX
      have HR := hide hs0
      have HO := hide hs1
      have hX := hs2
      clear hs0 hs1 hs2
      have hc0 := HR.out.cell0
      have hc1' := HR.out.cell1
      have hc2' := HR.out.cell2
      have hf1 := HR.out.free1
      have hf2 := HR.out.free2
      go_wp2
      go_ret
      exact .inr ⟨HD.out, rfl, HO.out.set 2 _, kk, hkk, HR.out.set2 true⟩

set_option maxHeartbeats 12800000 in
theorem mText_bad (R : Nat) (v : Value) (l : List UInt8) (pos : Nat) (w0 w : World) (h0 : Ext w0 w) (hR : w0.heap.size ≤ R) (hv : IsBytes w0 v l) (hl : l.length ≤ 1000) (hp : pos ≤ l.length) (hrd : Rd w R v pos true) :
    Calls Tryz.prog 182 #[.pointer (some ⟨R, 0, none⟩)] w fun e w' => e = .returned (.string ⟨#[]⟩) ∧ After R v l false w w' none := by
  have HV := hide hv
  obtain ⟨a, cap, rfl, hc1, hc2, hcell⟩ := hv
  have HR := hide hrd
  have hX := h0
  have HO := hide (Only.refl R w)
  have hc0 := HR.out.cell0
  have hc1' := HR.out.cell1
  have hc2' := HR.out.cell2
  have hf1 := HR.out.free1
  have hf2 := HR.out.free2
  clear hrd h0
  by_cases hlt : pos < l.length
  · obtain ⟨b, o, rfl, hcc⟩ : ∃ b o, a = some ⟨b, o, none⟩ ∧ ∀ i, i < l.length → w0.cell? ⟨b, o + i, none⟩ = some (.int .u8 ((l.getD i 0).toNat : Int)) := by
      rcases hcell with h | h
      · rw [h] at hlt; simp at hlt
      · exact h
    obtain ⟨c, hcE⟩ : ∃ c, l.getD pos 0 = c := ⟨_, rfl⟩
    have hcx : w.cell? ⟨b, o + pos, none⟩ = some (.int .u8 (c.toNat : Int)) := by rw [hX.cell (hcc pos hlt), hcE]
    have hxl := c.toNat_lt
    have hpl : (pos : Int) < (l.length : Int) := by omega
    clear hcell hcc hcE
    by_cases hbig : 31 < c.toNat
    · have hbig' : decide ((32 : Int) ≤ (c.toNat : Int)) = true := by simp; omega
      go_enter Tryz.func182, Tryz.ntmps182
      go_wp2_with fail
      go_quiet (fail)
      have hq0 := drewN_ext w nq
      generalize w.drewN nq = w1 at hq0 ⊢
      have hs0 := HR.out.ext hq0
      have hs1 := HO.out.ext hq0
      have hs2 := hX.trans hq0
      clear hc0 hc1' hc2' hf1 hf2 hq0 HR HO hX
      have HR := hide hs0
      have HO := hide hs1
      have hX := hs2
      clear hs0 hs1 hs2
      have hc0 := HR.out.cell0
      have hc1' := HR.out.cell1
      have hc2' := HR.out.cell2
      have hf1 := HR.out.free1
      have hf2 := HR.out.free2
      clear hcx
      go_wp2_with fail
      have hs0 := HR.out.set2 true
      have hs1 := HO.out.set 2 (.bool true)
      have hs2 := Ext.only hX ((Only.refl R _).set 2 (.bool true)) hR
      generalize w1.setCell ⟨R, 2, none⟩ (.bool true) = w2 at hs0 hs1 hs2 ⊢
      clear hc0 hc1' hc2' hf1 hf2 HR HO hX
      have HR := hide hs0
      have HO := hide hs1
      have hX := hs2
      clear hs0 hs1 hs2
      have hc0 := HR.out.cell0
      have hc1' := HR.out.cell1
      have hc2' := HR.out.cell2
      have hf1 := HR.out.free1
      have hf2 := HR.out.free2
      refine (mNumber5_any R _ l pos true w0 w2 hX hR HV.out hl hp HR.out).mono ?_
      rintro e w3 (⟨n, rest, hn, rfl, hO3, kk, hkk, _, hrk⟩ | ⟨hn, n, hn8, rfl, hO3, kk, hkk, hrk⟩)
      all_goals
        clear hc0 hc1' hc2' hf1 hf2
        have hX3 := Ext.only hX hO3 hR
        have hO4 := HO.out.trans hO3
        have HR3 := hide hrk
        clear HR HO hX hO3 hrk hn
        have HR := HR3
        have HO := hide hO4
        have hX := hX3
        clear HR3 hO4 hX3
        have hc0 := HR.out.cell0
        have hc1' := HR.out.cell1
        have hc2' := HR.out.cell2
        have hf1 := HR.out.free1
        have hf2 := HR.out.free2
        go_wp2_with fail
        go_quiet (fail)
        have hq0 := drewN_ext w3 nq
        generalize w3.drewN nq = w4 at hq0 ⊢
        have hs0 := HR.out.ext hq0
        have hs1 := HO.out.ext hq0
        have hs2 := hX.trans hq0
        clear hc0 hc1' hc2' hf1 hf2 hq0 HR HO hX
        have HR := hide hs0
        have HO := hide hs1
        have hX := hs2
        clear hs0 hs1 hs2
        have hc0 := HR.out.cell0
        have hc1' := HR.out.cell1
        have hc2' := HR.out.cell2
        have hf1 := HR.out.free1
        have hf2 := HR.out.free2
        go_wp2
        go_ret
        exact ⟨rfl, HO.out.set 2 _, kk, hkk, HR.out.set2 true⟩
    · have hbig' : decide ((32 : Int) ≤ (c.toNat : Int)) = false := by simp; omega
      go_enter Tryz.func182, Tryz.ntmps182
      go_wp2_with fail
      go_quiet (fail)
      have hq0 := drewN_ext w nq
      generalize w.drewN nq = w1 at hq0 ⊢
      have hs0 := HR.out.ext hq0
      have hs1 := HO.out.ext hq0
      have hs2 := hX.trans hq0
      clear hc0 hc1' hc2' hf1 hf2 hq0 HR HO hX
      have HR := hide hs0
      have HO := hide hs1
      have hX := hs2
      clear hs0 hs1 hs2
      have hc0 := HR.out.cell0
      have hc1' := HR.out.cell1
      have hc2' := HR.out.cell2
      have hf1 := HR.out.free1
      have hf2 := HR.out.free2
      clear hcx
      go_wp2_with fail
      refine (mNumber5_any R _ l pos true w0 w1 hX hR HV.out hl hp HR.out).mono ?_
      rintro e w3 (⟨n, rest, hn, rfl, hO3, kk, hkk, _, hrk⟩ | ⟨hn, n, hn8, rfl, hO3, kk, hkk, hrk⟩)
      all_goals
        clear hc0 hc1' hc2' hf1 hf2
        have hX3 := Ext.only hX hO3 hR
        have hO4 := HO.out.trans hO3
        have HR3 := hide hrk
        clear HR HO hX hO3 hrk hn
        have HR := HR3
        have HO := hide hO4
        have hX := hX3
        clear HR3 hO4 hX3
        have hc0 := HR.out.cell0
        have hc1' := HR.out.cell1
        have hc2' := HR.out.cell2
        have hf1 := HR.out.free1
        have hf2 := HR.out.free2
        go_wp2_with fail
        go_quiet (fail)
        have hq0 := drewN_ext w3 nq
        generalize w3.drewN nq = w4 at hq0 ⊢
        have hs0 := HR.out.ext hq0
        have hs1 := HO.out.ext hq0
        have hs2 := hX.trans hq0
        clear hc0 hc1' hc2' hf1 hf2 hq0 HR HO hX
        have HR := hide hs0
        have HO := hide hs1
        have hX := hs2
        clear hs0 hs1 hs2
        have hc0 := HR.out.cell0
        have hc1' := HR.out.cell1
        have hc2' := HR.out.cell2
        have hf1 := HR.out.free1
        have hf2 := HR.out.free2
        go_wp2
        go_ret
        exact ⟨rfl, HO.out.set 2 _, kk, hkk, HR.out.set2 true⟩
  · have hge : decide ((pos : Int) < (l.length : Int)) = false := by simp; omega
    clear hcell
    go_enter Tryz.func182, Tryz.ntmps182
    go_wp2_with fail
    go_quiet (fail)
    have hq0 := drewN_ext w nq
    generalize w.drewN nq = w1 at hq0 ⊢
    have hs0 := HR.out.ext hq0
    have hs1 := HO.out.ext hq0
    have hs2 := hX.trans hq0
    clear hc0 hc1' hc2' hf1 hf2 hq0 HR HO hX
    have HR := hide hs0
    have HO := hide hs1
    have hX := hs2
    clear hs0 hs1 hs2
    have hc0 := HR.out.cell0
    have hc1' := HR.out.cell1
    have hc2' := HR.out.cell2
    have hf1 := HR.out.free1
    have hf2 := HR.out.free2
    go_wp2_with fail
    refine (mNumber5_any R _ l pos true w0 w1 hX hR HV.out hl hp HR.out).mono ?_
    rintro e w3 (⟨n, rest, hn, rfl, hO3, kk, hkk, _, hrk⟩ | ⟨hn, n, hn8, rfl, hO3, kk, hkk, hrk⟩)
    all_goals
      clear hc0 hc1' hc2' hf1 hf2
      have hX3 := Ext.only hX hO3 hR
      have hO4 := HO.out.trans hO3
      have HR3 := hide hrk
      clear HR HO hX hO3 hrk hn
      have HR := HR3
      have HO := hide hO4
      have hX := hX3
      clear HR3 hO4 hX3
      have hc0 := HR.out.cell0
      have hc1' := HR.out.cell1
      have hc2' := HR.out.cell2
      have hf1 := HR.out.free1
      have hf2 := HR.out.free2
      go_wp2_with fail
      go_quiet (fail)
      have hq0 := drewN_ext w3 nq
      generalize w3.drewN nq = w4 at hq0 ⊢
      have hs0 := HR.out.ext hq0
      have hs1 := HO.out.ext hq0
      have hs2 := hX.trans hq0
      clear hc0 hc1' hc2' hf1 hf2 hq0 HR HO hX
      have HR := hide hs0
      have HO := hide hs1
      have hX := hs2
      clear hs0 hs1 hs2
      have hc0 := HR.out.cell0
      have hc1' := HR.out.cell1
      have hc2' := HR.out.cell2
      have hf1 := HR.out.free1
      have hf2 := HR.out.free2
      go_wp2
      go_ret
      exact ⟨rfl, HO.out.set 2 _, kk, hkk, HR.out.set2 true⟩
end Go.Proofs.YtoijpogadkogcaaGreat
