/-
  The program's end: a Reset frame comes.
-/
import Derived.Test.YtoijpogadkogcaaQj
namespace Go.Proofs.Ytoijpogadkogcaa
open Go.RowKit
set_option maxRecDepth 100000
theorem drop_failed (d : Ds) (s : DS) : (d.drop s).failed = d.failed := by
  unfold Ds.drop
  dsimp only
  split
  · show ((d.setS s.id _).place _).failed = _
    rw [place_failed]; rfl
  · rw [place_failed]; rfl
theorem drop_id (d : Ds) (s : DS) : ∃ t, (d.drop s).str s.id = some t ∧ t.id = s.id := by
  unfold Ds.drop
  dsimp only
  split
  · exact ⟨_, setS1 _ _ _, rfl⟩
  · refine ⟨{ s with block := [], data := [] }, ?_, rfl⟩
    rw [place_str]; exact setS1 _ _ _
theorem Ds.Fits.drop {d : Ds} {m : Nat} (h : d.Fits (m + 3)) {s : DS} (fs : s.Fits) : (d.drop s).Fits m := by
  have h1 : (d.setS s.id { s with block := [], data := [] }).Fits (m + 3) := h.setS _ _ fs.clear
  have h2 := h1.place (m := m + 2) { s with block := [], data := [] }
  have q := fs.to1
  have q0 := fs.to0
  unfold Ds.drop
  dsimp only
  split
  · exact (h2.setS s.id _ fs.clear.clearU).give0 _ (by omega)
  · exact h2.mono (by omega)
section
variable {N : Type} {own : N → Res} {nm : DN → N} {g : Nat} {d : Ds} {v : DV} {wb w : World}

set_option maxHeartbeats 6400000 in
theorem d_doReset_any (h : DevAt own nm g d v) (hs : Sep wb w own) (hf : d.Fits 6) (kind flags id : Nat) (vb : Value) (body : Bytes) (hb : ∀ u, v.rp.ok u → IsBytes u vb body) (hbl : body.length ≤ 64) (hid : id ≤ 65535) :
    Calls Try.prog 74 #[.pointer (some ⟨g, 0, none⟩), frV kind flags id vb] w fun e w' => e = .returned (.tuple #[]) ∧ LeftD nm g wb own d v w' (d.doReset id body) := by
  have h1 : -9223372036854775808 ≤ (id : Int) := by omega
  have h2 : (id : Int) ≤ 9223372036854775807 := by omega
  obtain ⟨ab, kb, hvb, hkb1, hkb2, -⟩ := hb w (hs.get (h.res .inn))
  obtain ⟨n, hnl⟩ : ∃ n, body.length = n := ⟨_, rfl⟩
  rw [hnl] at hvb hkb1 hbl
  subst hvb
  have HN := hide hnl
  have S0 := hs.liftObj (frO kind flags id (.slice ab n kb))
  have H0 := h.lift (.obj w.heap.size (frO kind flags id (.slice ab n kb)))
  obtain ⟨W0, hW0⟩ : ∃ W0, w.alloc (frO kind flags id (.slice ab n kb)) = W0 := ⟨_, rfl⟩
  rw [hW0] at S0
  have hW0' : w.alloc (.cells #[.int .i64 (kind : Int), .int .i64 (flags : Int), .int .i64 (id : Int), .slice ab n kb] 90) = W0 := hW0
  obtain ⟨bx, hbx⟩ : ∃ bx, w.heap.size = bx := ⟨_, rfl⟩
  rw [hbx] at S0 H0
  have b0 : W0.cell? ⟨bx, 0, none⟩ = some (.int .i64 (kind : Int)) := S0.cell (n := none) rfl 0
  have b1 : W0.cell? ⟨bx, 1, none⟩ = some (.int .i64 (flags : Int)) := S0.cell (n := none) rfl 1
  have b2 : W0.cell? ⟨bx, 2, none⟩ = some (.int .i64 (id : Int)) := S0.cell (n := none) rfl 2
  have b3 : W0.cell? ⟨bx, 3, none⟩ = some (.slice ab n kb) := S0.cell (n := none) rfl 3
  unfold frV
  clear hnl hW0
  cases hr : d.real id with
  | none =>
    obtain ⟨z, hz, hz2⟩ := known_z d id
    have efind := find_none hr
    rw [hz] at efind
    obtain ⟨W1, hW1⟩ : ∃ W1, W0.alloc (.cells (zeroSt z) 86) = W1 := ⟨_, rfl⟩
    have kf := d_find_none H0 S0 h1 h2 hr hz hW1
    have S1 := S0.liftObj (.cells (zeroSt z) 86)
    rw [hW1] at S1
    have H1 := H0.lift (.obj W0.heap.size (.cells (zeroSt z) 86))
    have zz : W1.cell? ⟨W0.heap.size, 2, none⟩ = some (.int .i64 (z : Int)) := S1.cell (n := none) rfl 2
    have d3 : W1.cell? ⟨bx, 3, none⟩ = some (.slice ab n kb) := S1.cell (n := some none) rfl 3
    clear hW1
    rcases hz2 with rfl | rfl
    · have HR : d.doReset id body = d.fail 1 := by unfold Ds.doReset; rw [efind]; rfl
      have kx := d_fail_any H1 S1 (hf.mono (by omega)) 1
      clear hr hz efind
      go_enter Try.func74, Try.ntmps74
      go_wp2_with fail
      refine kf.mono ?_
      rintro e w2 ⟨rfl, hw⟩
      replace hw := hw.symm
      subst hw
      go_wp2_with fail
      refine kx.mono ?_
      rintro e w3 ⟨rfl, hL⟩
      have HL := hide (show LeftD nm g wb own d v w3 (d.doReset id body) from by rw [HR]; exact hL.unlift.unlift)
      clear hL HR
      go_wp2
      go_end0
      exact ⟨rfl, HL.out⟩
    · by_cases hn1 : n = 1
      · have HR : d.doReset id body = d := by unfold Ds.doReset; rw [efind, HN.out]; dsimp only; rw [if_neg (by simp), if_neg (by simp [hn1]), if_neg (by simp [stTells]), if_pos (by simp)]
        have kt := d_tells_any 8 (by omega) W1
        have h1b : ((n : Int) != 1) = false := by simp; omega
        clear hr hz efind hn1
        go_enter Try.func74, Try.ntmps74
        go_wp2_with fail
        refine kf.mono ?_
        rintro e w2 ⟨rfl, hw⟩
        replace hw := hw.symm
        subst hw
        go_wp2_with fail
        refine kt.mono ?_
        rintro e w2 ⟨rfl, hw⟩
        replace hw := hw.symm
        subst hw
        have HL := hide (show LeftD nm g wb own d v W1 (d.doReset id body) from by rw [HR]; exact (H1.left S1).unlift.unlift)
        clear HR
        go_wp2
        go_end0
        exact ⟨rfl, HL.out⟩
      · have HR : d.doReset id body = d.fail 3 := by unfold Ds.doReset; rw [efind, HN.out]; dsimp only; rw [if_neg (by simp), if_pos hn1]
        have kx := d_fail_any H1 S1 (hf.mono (by omega)) 3
        have h1b : ((n : Int) != 1) = true := by simp; omega
        clear hr hz efind hn1
        go_enter Try.func74, Try.ntmps74
        go_wp2_with fail
        refine kf.mono ?_
        rintro e w2 ⟨rfl, hw⟩
        replace hw := hw.symm
        subst hw
        go_wp2_with fail
        refine kx.mono ?_
        rintro e w3 ⟨rfl, hL⟩
        have HL := hide (show LeftD nm g wb own d v w3 (d.doReset id body) from by rw [HR]; exact hL.unlift.unlift)
        clear hL HR
        go_wp2
        go_end0
        exact ⟨rfl, HL.out⟩
  | some s =>
    have hst := real_str h hr
    have fs := hf.st _ _ hst
    have efind := find_some hr
    have kf := d_find_some H0 S0 h1 h2 hr
    have f2 : W0.cell? ⟨v.ptr s.id, 2, none⟩ = some (.int .i64 (s.state : Int)) := H0.s2 S0 hst
    by_cases hz : s.state = 0
    · have HR : d.doReset id body = d.fail 1 := by unfold Ds.doReset; rw [efind]; dsimp only; rw [if_pos hz]
      have kx := d_fail_any H0 S0 (hf.mono (by omega)) 1
      rw [hz] at f2
      clear hr efind
      go_enter Try.func74, Try.ntmps74
      go_wp2_with fail
      refine kf.mono ?_
      rintro e w2 ⟨rfl, hw⟩
      replace hw := hw.symm
      subst hw
      go_wp2_with fail
      refine kx.mono ?_
      rintro e w3 ⟨rfl, hL⟩
      have HL := hide (show LeftD nm g wb own d v w3 (d.doReset id body) from by rw [HR]; exact hL.unlift)
      clear hL HR
      go_wp2
      go_end0
      exact ⟨rfl, HL.out⟩
    have hzb : ((s.state : Int) == 0) = false := by simp; omega
    by_cases hn1 : n = 1
    · have h1b : ((n : Int) != 1) = false := by simp; omega
      have HN1 := hide hn1
      have kt := d_tells_any s.state fs.state W0
      cases htl : stTells s.state with
      | true =>
        have HR : d.doReset id body = d.move s 7 := by unfold Ds.doReset; rw [efind, HN.out]; dsimp only; rw [if_neg hz, if_neg (by simp [hn1]), if_pos htl]
        rw [htl] at kt
        have kx := d_move_any H0 S0 (hf.mono (by omega)) hst 7 (by omega)
        clear hr efind hn1
        go_enter Try.func74, Try.ntmps74
        go_wp2_with fail
        refine kf.mono ?_
        rintro e w2 ⟨rfl, hw⟩
        replace hw := hw.symm
        subst hw
        go_wp2_with fail
        refine kt.mono ?_
        rintro e w2 ⟨rfl, hw⟩
        replace hw := hw.symm
        subst hw
        go_wp2_with fail
        refine kx.mono ?_
        rintro e w3 ⟨rfl, hL⟩
        have HL := hide (show LeftD nm g wb own d v w3 (d.doReset id body) from by rw [HR]; exact hL.unlift)
        clear hL HR
        go_wp2
        go_end0
        exact ⟨rfl, HL.out⟩
      | false =>
        rw [htl] at kt
        by_cases h48 : s.state = 4 ∨ s.state = 8
        · have HR : d.doReset id body = d := by unfold Ds.doReset; rw [efind, HN.out]; dsimp only; rw [if_neg hz, if_neg (by simp [hn1]), if_neg (by rw [htl]; simp), if_pos h48]
          rcases h48 with h4 | h8
          · have h4b : ((s.state : Int) != 4) = false := by simp; omega
            clear hr efind hn1 h4
            go_enter Try.func74, Try.ntmps74
            go_wp2_with fail
            refine kf.mono ?_
            rintro e w2 ⟨rfl, hw⟩
            replace hw := hw.symm
            subst hw
            go_wp2_with fail
            refine kt.mono ?_
            rintro e w2 ⟨rfl, hw⟩
            replace hw := hw.symm
            subst hw
            have HL := hide (show LeftD nm g wb own d v W0 (d.doReset id body) from by rw [HR]; exact (H0.left S0).unlift)
            clear HR
            go_wp2
            go_end0
            exact ⟨rfl, HL.out⟩
          · have h4b : ((s.state : Int) != 4) = true := by simp; omega
            have h8b : ((s.state : Int) != 8) = false := by simp; omega
            clear hr efind hn1 h8
            go_enter Try.func74, Try.ntmps74
            go_wp2_with fail
            refine kf.mono ?_
            rintro e w2 ⟨rfl, hw⟩
            replace hw := hw.symm
            subst hw
            go_wp2_with fail
            refine kt.mono ?_
            rintro e w2 ⟨rfl, hw⟩
            replace hw := hw.symm
            subst hw
            have HL := hide (show LeftD nm g wb own d v W0 (d.doReset id body) from by rw [HR]; exact (H0.left S0).unlift)
            clear HR
            go_wp2
            go_end0
            exact ⟨rfl, HL.out⟩
        · have h4b : ((s.state : Int) != 4) = true := by simp; omega
          have h8b : ((s.state : Int) != 8) = true := by simp; omega
          obtain ⟨gb, ob, rfl⟩ := isB_some (hb W0 (S0.get (H0.res .inn))) (by rw [HN.out]; omega)
          obtain ⟨x, hx⟩ : ∃ x, (body.getD 0 0).toNat = x := ⟨_, rfl⟩
          have hx2 : x ≤ 255 := by rw [← hx]; have := (body.getD 0 0).toNat_lt; omega
          have hwx : IntKind.i64.wrap (x : Int) = (x : Int) := wrap_i64 _ (by omega) (by omega)
          have HX := hide hx
          have HR : d.doReset id body = ((d.move s 8).drop (Ds.moved s 8)).tell 3 s.id x := by unfold Ds.doReset; rw [efind, HN.out, hx]; dsimp only; rw [if_neg hz, if_neg (by simp [hn1]), if_neg (by rw [htl]; simp), if_neg h48]
          have km := d_move_any H0 S0 (hf.mono (by omega)) hst 8 (by omega)
          have FM : (d.move s 8).Fits 5 := Ds.Fits.move (m := 5) hf fs (by omega)
          have NM : (d.move s 8).str s.id = some (Ds.moved s 8) := move_str d s 8
          have FD : ((d.move s 8).drop (Ds.moved s 8)).Fits 2 := Ds.Fits.drop (m := 2) FM (fs.moved (by omega))
          obtain ⟨t, ht, hti⟩ := drop_id (d.move s 8) (Ds.moved s 8)
          have hfm : (d.move s 8).failed = d.failed := move_failed d s 8
          have hfd : ((d.move s 8).drop (Ds.moved s 8)).failed = d.failed := (drop_failed _ _).trans hfm
          have HFM := hide hfm
          have HFD := hide hfd
          clear hr efind hn1 h48 hx hfm hfd
          go_enter Try.func74, Try.ntmps74
          go_wp2_with fail
          refine kf.mono ?_
          rintro e w2 ⟨rfl, hw⟩
          replace hw := hw.symm
          subst hw
          go_wp2_with fail
          refine kt.mono ?_
          rintro e w2 ⟨rfl, hw⟩
          replace hw := hw.symm
          subst hw
          go_wp2_with fail
          refine km.mono ?_
          rintro e w2 ⟨rfl, own2, v2, S2, H2, E2, r2, i2, p2⟩
          have hp := (p2 s.id (by rw [hst]; rfl)).1
          have kd := d_drop_any (s := Ds.moved s 8) H2 S2 (FM.mono (by omega)) NM
          rw [show v2.ptr (Ds.moved s 8).id = v.ptr s.id from hp] at kd
          clear S2 H2
          go_wp2_with fail
          refine kd.mono ?_
          rintro e w3 ⟨rfl, own3, v3, S3, H3, E3, r3, i3, p3⟩
          have hp3 : v3.ptr s.id = v.ptr s.id := ((p3 s.id (by rw [NM]; rfl)).1).trans hp
          have E23 := E2.trans E3
          have hbox := E23.kept
          have c3 : w3.cell? ⟨bx, 3, none⟩ = some (.slice (some ⟨gb, ob, none⟩) n kb) := S3.cell hbox 3
          have g0 := H3.s0 S3 (n := s.id) ht
          rw [hp3, hti] at g0
          have g0' : w3.cell? ⟨v.ptr s.id, 0, none⟩ = some (.int .i64 (s.id : Int)) := g0
          have S3d := S3.ext (Ext.refl w3).drew
          have cx := isB_cell (hb w3 (by have := S3.get (H3.res .inn); rw [show devRes g _ v3 .inn = v3.rp from rfl, r3, r2] at this; exact this)) 0 (by rw [HN.out, HN1.out]; omega)
          rw [HX.out, Nat.add_zero] at cx
          have hn1' : (0 : Int) < (n : Int) := by have := HN1.out; omega
          have kt3 := d_tell_any H3 S3d (FD.mono (by omega)) 3 s.id x
          have HKL := hide (fun w4 (hL : LeftD (fun x => some (nm x)) g wb own3 ((d.move s 8).drop (Ds.moved s 8)) v3 w4 (((d.move s 8).drop (Ds.moved s 8)).tell 3 s.id x)) => (show LeftD nm g wb own d v w4 (d.doReset id body) from by
            rw [HR]
            exact (hL.trans (own := lift own (.obj bx (frO kind flags id (.slice (some ⟨gb, ob, none⟩) n kb)))) (d := d) (v := v) E23 (r3.trans r2) (fun hx => (i3 hx).trans (i2 (by rw [HFM.out, ← HFD.out]; exact hx))) (fun k hk => ⟨(p3 k (p2 k hk).2).1.trans (p2 k hk).1, (p3 k (p2 k hk).2).2⟩)).unlift))
          clear S3 H3 g0 hbox E23 HR
          go_wp2_with fail
          go_region_with (go_at_call 70; refine kt3.mono ?_; rintro e w4 ⟨rfl, hL⟩)
          all_goals
            have HL := hide (HKL.out w4 hL)
            clear hL
            go_wp2
            go_end0
            exact ⟨rfl, HL.out⟩
    · have HR : d.doReset id body = d.fail 3 := by unfold Ds.doReset; rw [efind, HN.out]; dsimp only; rw [if_neg hz, if_pos hn1]
      have kx := d_fail_any H0 S0 (hf.mono (by omega)) 3
      have h1b : ((n : Int) != 1) = true := by simp; omega
      clear hr efind hn1
      go_enter Try.func74, Try.ntmps74
      go_wp2_with fail
      refine kf.mono ?_
      rintro e w2 ⟨rfl, hw⟩
      replace hw := hw.symm
      subst hw
      go_wp2_with fail
      refine kx.mono ?_
      rintro e w3 ⟨rfl, hL⟩
      have HL := hide (show LeftD nm g wb own d v w3 (d.doReset id body) from by rw [HR]; exact hL.unlift)
      clear hL HR
      go_wp2
      go_end0
      exact ⟨rfl, HL.out⟩

end
end Go.Proofs.Ytoijpogadkogcaa
