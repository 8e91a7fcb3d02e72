/-
  The book: a list of headers is its owner's.
-/
import Derived.Test.YtoijpogadkogcaaGreatBkE
import Derived.Deep.CutRange
namespace Go.Proofs.YtoijpogadkogcaaGreat
open Go.RowKit
set_option maxRecDepth 100000

set_option maxHeartbeats 12800000 in
theorem bPairs_any (Y base B nA n : Nat) (va vx l : Value) (xs : List Value) (w : World) (hY : w.heap[Y]? = some (.cells #[.slice none 0 0, vx, .slice none 0 0, va] 68 (0, 0)))
    (hP : Part w base 169 43 122 2 FC B va nA) (hown : w.ownsRow B 122 2 l n xs) (hB : B ≤ w.heap.size) (hbB : base ≤ B) (hn : n ≤ 4398046510976) (hnA : nA ≤ 4398046511104) :
    Calls Tryz.prog 146 #[.pointer (some ⟨Y, 1, none⟩), l] w fun e w' => ∃ va', e = .returned (.tuple #[]) ∧ w'.heap[Y]? = some (.cells #[.slice none 0 0, vx, .slice none 0 0, va'] 68 (0, 0)) ∧ Part w' base 169 43 122 2 FC w'.heap.size va' (nA + 1) ∧
      But (fun k => k = Y ∨ va.ownBlock = some k ∨ l.ownBlock = some k) w w' := by
  obtain ⟨i1, hi', hz0', hz1', hz2'⟩ := info_parts Tryz.infoPa
  have hcY : w.cell? ⟨Y, 3, none⟩ = some va := by simp [World.cell?, hY]
  have HP := hide hP
  obtain ⟨ys, hownA, hsA⟩ := hP
  obtain ⟨aa, capA, hva, hva1, hva2, _⟩ := owns_slice hownA
  rw [hva] at hcY
  obtain ⟨al, capl, hll, hl1, hl2, _⟩ := owns_slice hown
  have HOWN := hide hown
  have HL := hide hll
  clear hsA hownA
  subst hll
  unfold maxLen at hva2 hl2
  have HVA := hide hva
  clear hva hown
  have HY := hide hY
  clear hY
  go_enter Tryz.func146, Tryz.ntmps146
  go_upto_region 1 with (go_at_call 125; refine (paper_any nA _ (by omega)).mono ?_; rintro e w1 ⟨rfl, hx1⟩)
  have hbx := Box.new w1 (paperS nA) ⟨#[]⟩
  have hE : Ext w (w1.alloc (.cells #[.string (paperS nA), .string ⟨#[]⟩] 122)) := hx1.alloc _
  have hwb : w.heap.size ≤ w1.heap.size := hx1.size
  generalize w1.alloc (.cells #[.string (paperS nA), .string ⟨#[]⟩] 122) = w0 at hbx hE ⊢
  generalize w1.heap.size = b at hbx hwb ⊢
  generalize hX : paperS nA = X at hbx ⊢
  clear hx1
  have HX := hide hX
  have HEX := hide hE
  have hB0 : B ≤ w0.heap.size := Nat.le_trans hB hE.size
  have hown0 := owns_ext HOWN.out hE
  have hlt0 : ∀ k, (Value.slice al n capl).ownBlock = some k → k < w.heap.size := fun k hk => (HOWN.out.lt k hk).2
  have hh0 : Hold b B n X (.slice al n capl) xs w0 w0 := ⟨hown0, Step.refl _ _, hbx, fun e => by have := hlt0 b e; omega, fun k hk => by have := hlt0 k hk; have := hE.size; omega⟩
  have HH0 := hide hh0
  have HO := hide hh0.own0
  have HBX := hide hbx
  have hlA : (Value.slice aa nA capA).ownBlock ≠ some b := by
    rw [← HVA.out]
    intro e
    obtain ⟨ys', hy', _⟩ := HP.out
    have := (hy'.lt b e).2
    omega
  have hYlt : Y < w.heap.size := (Array.getElem?_eq_some_iff.1 HY.out).1
  have HY0 : Hid (w0.heap[Y]? = some (.cells #[.slice none 0 0, vx, .slice none 0 0, va] 68 (0, 0))) := (hE.block Y hYlt).trans HY.out
  have HP0 : Hid (Part w0 base 169 43 122 2 FC B va nA) := HP.out.keeps (fun k cur Ty hk hc _ => hE.block k (by omega)) (fun g hv => by obtain ⟨ys', hy', _⟩ := HP.out; exact hE.block g (hy'.lt g hv).2)
  clear hX hE hbx hown0 hlt0 hh0 hwb hlA
  go_cut [5] from 14 to 30 (fun s wx => ∃ v1 v2 v3 S, s = .slice (some ⟨S, 0, none⟩) 4 4 ∧ Hid (StartC Y base B nA n va vx (.slice al n capl) v1 v2 v3 (fun k => ((Value.slice al n capl).ownBlock = some k ∨ w0.heap.size ≤ k) ∧ k ≠ S) w0 wx S))
  case first =>
    go_region_held3 (fun wx => wx.cell? ⟨b, 0, none⟩ = some (.string X) ∧ wx.cell? ⟨b, 1, none⟩ = some (.string ⟨#[]⟩) ∧ Hold b B n X (.slice al n capl) xs w0 wx)
      (first | exact HH0.out.drew.keep | assumption | exact held_alloc _ (by assumption))
      (first
        | (refine step_pairs rfl (.tmp 15) (.tmp 17) rfl b B n X (.slice al n capl) xs ?_ rfl _ 1 1 rfl ?_ hn (by omega) hB0 ?_; assumption; (repeat (first | (with_reducible apply ZRow.drew) | ((with_reducible refine ZRow.made 1 _ ?_ _ ?_ ?_); (exact rfl); (first | (with_reducible rfl) | simp); omega) | (with_reducible apply ZRow.alloc) | (with_reducible refine ZRow.step (by assumption) HO.out ?_))); intro a1 cap1 w1 hr1 hst1 hS1; have hzz1 := hS1.2.2.step.but.size)
        | (refine step_pairs rfl (.tmp 19) (.tmp 22) rfl b B n X (.slice al n capl) xs ?_ rfl _ 2 2 rfl ?_ hn (by omega) hB0 ?_; assumption; (repeat (first | (with_reducible apply ZRow.drew) | ((with_reducible refine ZRow.made 2 _ ?_ _ ?_ ?_); (exact rfl); (first | (with_reducible rfl) | simp); omega) | (with_reducible apply ZRow.alloc) | (with_reducible refine ZRow.step (by assumption) HO.out ?_))); intro a2 cap2 w2 hr2 hst2 hS2; have hzz2 := hS2.2.2.step.but.size)
        | (refine step_pairs rfl (.tmp 24) (.tmp 28) rfl b B n X (.slice al n capl) xs ?_ rfl _ 3 3 rfl ?_ hn (by omega) hB0 ?_; assumption; (repeat (first | (with_reducible apply ZRow.drew) | ((with_reducible refine ZRow.made 3 _ ?_ _ ?_ ?_); (exact rfl); (first | (with_reducible rfl) | simp); omega) | (with_reducible apply ZRow.alloc) | (with_reducible refine ZRow.step (by assumption) HO.out ?_))); intro a3 cap3 w3 hr3 hst3 hS3; have hzz3 := hS3.2.2.step.but.size))
    all_goals
      have hq1 : RowIn w2 122 2 (Gx (.slice al n capl) w0) (.slice a1 (n + 1) cap1) (n + 1) := hr1.stepped (l := .slice al n capl) (by first | exact hst2 | exact ((Step.refl _ _).alloc _).trans hst2 | exact (((Step.refl _ _).alloc _).alloc _).trans hst2)
      have hq1 : RowIn w3 122 2 (Gx (.slice al n capl) w0) (.slice a1 (n + 1) cap1) (n + 1) := hq1.stepped (l := .slice al n capl) (by first | exact hst3 | exact ((Step.refl _ _).alloc _).trans hst3)
      have hq2 : RowIn w3 122 2 (Gx (.slice al n capl) w0) (.slice a2 (n + 2) cap2) (n + 2) := hr2.stepped (l := .slice al n capl) (by first | exact hst3 | exact ((Step.refl _ _).alloc _).trans hst3)
      have HST := hide (bPairs_start Y base b B nA n X va vx (.slice al n capl) (.slice a1 (n + 1) cap1) (.slice a2 (n + 2) cap2) (.slice a3 (n + 3) cap3) xs w0 w3 HY0.out HP0.out HH0.out.own hB0 hS3.2.2 hq1 hq2 hr3)
      clear hq1 hq2 hr1 hr2 hr3 hst1 hst2 hst3
      go_wp2_with fail
      go_meet
      exact ⟨_, _, _, _, rfl, HST⟩
  case rest =>
    obtain ⟨v1, v2, v3, S, rfl, HC⟩ := hcut
    obtain ⟨G, hG⟩ : ∃ G : Nat → Prop, G = (fun k => ((Value.slice al n capl).ownBlock = some k ∨ w0.heap.size ≤ k) ∧ k ≠ S) := ⟨_, rfl⟩
    rw [← hG] at HC
    have HGG := hide hG
    have hGS : ¬ G S := by rw [hG]; simp
    have hGb : ¬ G b := by
      rw [hG]
      rintro ⟨h | h, _⟩
      · exact HH0.out.ne h
      · have := HBX.out.lt; omega
    have hWb : Box wc b X ⟨#[]⟩ := (HC.out.but.block b HBX.out.lt HH0.out.ne).trans HBX.out
    have HWB := hide hWb
    clear hG hWb
    go_wp2_with fail
    go_loopw [6] (fun i wr => ∃ J : Nat, J ≤ 4 ∧ i = .int .i64 J ∧ Marks G (FC nA) wc wr ∧ Hid (∀ j, j < J → Full wr 122 2 (FC nA) G (four (.slice al n capl) v1 v2 v3 j) (n + j))) (fun i _ => 4 - (intOf i).toNat)
    case atStart => exact ⟨0, by omega, rfl, Marks.refl _ _ _, fun j hj => by omega⟩
    case round =>
      obtain ⟨J, hJ, rfl, hM, HF⟩ := hrel
      by_cases hJ4 : J < 4
      · have hcS : wr.cell? ⟨S, J, none⟩ = some (four (.slice al n capl) v1 v2 v3 J) := by rw [hM.cell hGS]; exact HC.out.at J hJ4
        obtain ⟨aJ, capJ, hsJ, hnJ, hrow⟩ := HC.out.row J hJ4
        have HSJ := hide hsJ
        rw [hsJ] at hcS
        have HRW := hide hrow
        have hJJ : (J : Int) < 4 := by omega
        have HM := hide hM
        unfold maxLen at hnJ
        clear hsJ hrow hM hcS
        go_wp2_with fail
        go_loopw [7] (fun p wz => ∃ q : Nat, q ≤ n + J ∧ p = .int .i64 q ∧ Marks G (FC nA) wc wz ∧ Hid (∀ j, j < J → Full wz 122 2 (FC nA) G (four (.slice al n capl) v1 v2 v3 j) (n + j)) ∧ Hid (n + J = 0 ∨ ∃ g, aJ = some ⟨g, 0, none⟩ ∧ G g ∧ Done wz 122 (FC nA) g (q * 2))) (fun p _ => n + J - (intOf p).toNat)
        case atStart =>
          refine ⟨0, by omega, rfl, HM.out, HF, ?_⟩
          rcases HRW.out with h | ⟨g, cur, h1, h2, h3, h4⟩
          · exact .inl h
          · obtain ⟨c', h5, h6, _⟩ := HM.out.row g cur 122 h2 h3
            exact .inr ⟨g, h1, h2, c', h5, by omega, fun j hj => by omega⟩
        case round =>
          obtain ⟨q, hq, rfl, hMz, HFz, HDz⟩ := hrel
          have HMz := hide hMz
          have hcS : wr.cell? ⟨S, J, none⟩ = some (.slice aJ (n + J) capJ) := by rw [hMz.cell hGS, HC.out.at J hJ4, HSJ.out]
          have hcb0 : wr.cell? ⟨b, 0, none⟩ = some (.string X) := by rw [hMz.cell hGb]; exact HWB.out.cell0
          have hcb1 : wr.cell? ⟨b, 1, none⟩ = some (.string ⟨#[]⟩) := by rw [hMz.cell hGb]; exact HWB.out.cell1
          clear hMz
          by_cases hqn : q < n + J
          · obtain ⟨g, rfl, hGg, hDg⟩ : ∃ g, aJ = some ⟨g, 0, none⟩ ∧ G g ∧ Done wr 122 (FC nA) g (q * 2) := by
              rcases HDz.out with h | h
              · omega
              · exact h
            obtain ⟨cur, hcw, hcle⟩ : ∃ cur, wc.heap[g]? = some (.cells cur 122 (0, 0)) ∧ (n + J) * 2 ≤ cur.size := by
              rcases HRW.out with h | ⟨g', cur, h1, h2, h3, h4⟩
              · omega
              · simp only [Option.some.injEq, Addr.mk.injEq, and_true] at h1
                subst h1
                exact ⟨cur, h3, h4⟩
            obtain ⟨cz, hz5, hz6, _⟩ := HMz.out.row g cur 122 hGg hcw
            obtain ⟨u, hu⟩ : ∃ u, wr.cell? ⟨g, q * 2, none⟩ = some u := by
              refine ⟨cz[q * 2]'(by omega), ?_⟩
              simp [World.cell?, hz5, show q * 2 < cz.size by omega]
            obtain ⟨u', hu'⟩ : ∃ u, wr.cell? ⟨g, q * 2 + 1, none⟩ = some u := by
              refine ⟨cz[q * 2 + 1]'(by omega), ?_⟩
              simp [World.cell?, hz5, show q * 2 + 1 < cz.size by omega]
            have hfr : wr.frozen? ⟨g, q * 2, none⟩ = false := by simp [World.frozen?, hz5]
            have hfr' : wr.frozen? ⟨g, q * 2 + 1, none⟩ = false := by simp [World.frozen?, hz5]
            have hgb : b ≠ g := fun e => hGb (by rw [e]; exact hGg)
            have e1 : FC nA (q * 2) = .string X := by rw [FC_even, HX.out]
            have e2 : FC nA (q * 2 + 1) = .string ⟨#[]⟩ := FC_odd nA q
            have hm1 := HMz.out.set hGg hcw (q * 2) (by omega)
            have hm2 := hm1.set hGg hcw (q * 2 + 1) (by omega)
            have hd1 := hDg.more hz5 (by omega)
            have hd2 := hd1.more (heap_setCell_at hz5) (by simp; omega)
            rw [e1, e2] at hm2 hd2
            have HM2 := hide hm2
            have HD2 := hide hd2
            have HF2 : Hid (∀ j, j < J → Full ((wr.setCell ⟨g, q * 2, none⟩ (.string X)).setCell ⟨g, q * 2 + 1, none⟩ (.string ⟨#[]⟩)) 122 2 (FC nA) G (four (.slice al n capl) v1 v2 v3 j) (n + j)) := fun j hj => by
              have := ((HFz.out j hj).set g (q * 2)).set g (q * 2 + 1)
              rw [e1, e2] at this
              exact this
            have hqq : (q : Int) < (n : Int) + (J : Int) := by omega
            have HGg := hide hGg
            clear hcw hz5 hz6 hDg hGg HDz HFz HMz hm1 hm2 hd1 hd2 e1 e2
            go_wp2_with fail
            go_region
            all_goals
              go_wp2
              go_roundw
              case rel => exact ⟨q + 1, by omega, by go_num, HM2.out.drew, fun j hj => (HF2.out j hj).drew, .inr ⟨g, rfl, HGg.out, by rw [show (q + 1) * 2 = q * 2 + 1 + 1 by omega]; exact HD2.out.drew⟩⟩
              case measure => simp [intOf]; omega
          · have hqe : q = n + J := by omega
            have HFJ : Hid (∀ j, j < J + 1 → Full wr 122 2 (FC nA) G (four (.slice al n capl) v1 v2 v3 j) (n + j)) := by
              intro j hj
              by_cases ej : j = J
              · subst ej
                rcases HDz.out with h | ⟨g, h1, h2, h3⟩
                · exact .inl h
                · refine .inr ⟨g, capJ, ?_, h2, by rw [← hqe]; exact h3⟩
                  rw [HSJ.out, h1]
              · exact HFz.out j (by omega)
            clear HFz HDz hqe
            go_wp2
            go_roundw
            case rel => exact ⟨J + 1, by omega, by go_num, HMz.out, HFJ⟩
            case measure => simp [intOf]; omega
      · have hJe : J = 4 := by omega
        subst hJe
        have HM := hide hM
        have hGY : ¬ G Y := by
          rw [HGG.out]
          rintro ⟨h | h, _⟩
          · obtain ⟨c, hc⟩ := own_ty HOWN.out Y h
            rw [HY.out] at hc
            simp at hc
          · have := (Array.getElem?_eq_some_iff.1 HY0.out).1
            omega
        have hYr : wr.heap[Y]? = some (.cells #[.slice none 0 0, vx, .slice none 0 0, va] 68 (0, 0)) := (hM.other Y hGY).trans HC.out.heapY
        have hcYr : wr.cell? ⟨Y, 3, none⟩ = some va := by simp [World.cell?, hYr]
        have hfYr : wr.frozen? ⟨Y, 3, none⟩ = false := by simp [World.frozen?, hYr]
        have hPr : Part wr base 169 43 122 2 FC B va nA := HC.out.part.keeps (fun k cur Ty hk hc ht => hM.other k (by
            rw [HGG.out]
            rintro ⟨h | h, _⟩
            · have := (HOWN.out.lt k h).1; omega
            · omega)) (fun g hv => hM.other g (by
            obtain ⟨ys', hy', _⟩ := HP0.out
            rw [HGG.out]
            rintro ⟨h | h, h'⟩
            · obtain ⟨c, hc⟩ := own_ty HH0.out.own g h
              obtain ⟨c', hc'⟩ := own_ty hy' g hv
              rw [hc] at hc'
              simp at hc'
            · have := (hy'.lt g hv).2
              omega))
        have HPR := hide hPr
        obtain ⟨zs, hownZ, hsZ⟩ := hPr
        have hbz : base ≤ wr.heap.size := by
          have h1 := HC.out.but.size
          have h2 := hM.size
          omega
        have HSZ := hide hsZ
        clear hsZ hM
        go_wp2_with (at_builtin; refine wpList_append_more _ rfl (.tmp 57) (.tmp 59) 64 64 rfl base 169 i1 (.slice none 0 0) 1 24 Tryz.underlying64 hi' hz0' hz1' hz2' rfl (by decide) _ _ _ rfl (hownZ.alloc _) _ 1 [.slice (some ⟨S, 0, none⟩) 4 4] rfl (src_one _ _ Tryz.underlying64 _ rfl) ?_ ?_ ?_ ?_)
        · unfold maxLen; omega
        · omega
        · simp; omega
        · intro v6 w6 hown6 hg6 hl6 hs6
          obtain ⟨a6, cap6, hv6, _, _, _⟩ := owns_slice hown6
          subst hv6
          obtain ⟨r1, r2, r3⟩ := bPairs_end Y base B nA n S va vx (.slice al n capl) v1 v2 v3 (.slice a6 (nA + 1) cap6) zs G w0 wc wr w6 _ HC.out HGG.out hB0 HM.out HF.out hYr hownZ HSZ.out hown6 hg6
          have hY6 : w6.heap[Y]? = some (.cells #[.slice none 0 0, vx, .slice none 0 0, va] 68 (0, 0)) := by
            have hYlt : Y < wr.heap.size := (Array.getElem?_eq_some_iff.1 hYr).1
            rw [hg6.grown.block Y (by simp; omega) (fun e => by obtain ⟨c, hc⟩ := own_ty hownZ Y e.symm; rw [hYr] at hc; simp at hc), Below.heap_alloc wr _ Y hYlt]
            exact hYr
          have hc6 : w6.cell? ⟨Y, 3, none⟩ = some va := by simp [World.cell?, hY6]
          have hf6 : w6.frozen? ⟨Y, 3, none⟩ = false := by simp [World.frozen?, hY6]
          have r4 : But (fun k => k = Y ∨ va.ownBlock = some k ∨ (Value.slice al n capl).ownBlock = some k) w (w6.setCell ⟨Y, 3, none⟩ (.slice a6 (nA + 1) cap6)) := (But.ofExt HEX.out).trans (r3.mono fun k _ h => .inl h)
          have R1 := hide r1
          have R2 := hide r2
          have R3 := hide r4
          clear r1 r2 r3 r4 hg6 hown6 hl6 hs6 hY6 hownZ hYr hcYr hfYr
          go_wp2
          go_end0
          exact ⟨_, rfl, R1.out, R2.out, R3.out⟩
end Go.Proofs.YtoijpogadkogcaaGreat
