/-
  The program's end: an Away frame comes.
-/
import Derived.Test.YtoijpogadkogcaaQj
import Derived.Deep.RegionHeld3
namespace Go.Proofs.Ytoijpogadkogcaa
open Go.RowKit
set_option maxRecDepth 100000
section
variable {N : Type} {own : N → Res} {nm : DN → N} {g : Nat} {d : Ds} {v : DV} {wb w : World}

set_option maxHeartbeats 6400000 in
theorem d_doAway_any (h : DevAt own nm g d v) (hs : Sep wb w own) (hf : d.Fits 4) (kind flags id : Nat) (vb : Value) (body : Bytes) (hb : ∀ u, v.rp.ok u → IsBytes u vb body) (hbl : body.length ≤ 64) :
    Calls Try.prog 77 #[.pointer (some ⟨g, 0, none⟩), frV kind flags id vb] w fun e w' => e = .returned (.tuple #[]) ∧ LeftD nm g wb own d v w' (d.doAway id body) := by
  obtain ⟨ab, kb, hvb, hkb1, hkb2, -⟩ := hb w (hs.get (h.res .inn))
  obtain ⟨n, hnl⟩ : ∃ n, body.length = n := ⟨_, rfl⟩
  rw [hnl] at hvb hkb1 hbl
  subst hvb
  have HN := hide hnl
  have S0 := hs.liftObj (frO kind flags id (.slice ab n kb))
  have H0 := h.lift (.obj w.heap.size (frO kind flags id (.slice ab n kb)))
  obtain ⟨W0, hW0⟩ : ∃ W0, w.alloc (frO kind flags id (.slice ab n kb)) = W0 := ⟨_, rfl⟩
  rw [hW0] at S0
  have hW0' : w.alloc (.cells #[.int .i64 (kind : Int), .int .i64 (flags : Int), .int .i64 (id : Int), .slice ab n kb] 90) = W0 := hW0
  obtain ⟨bx, hbx⟩ : ∃ bx, w.heap.size = bx := ⟨_, rfl⟩
  rw [hbx] at S0 H0
  have b0 : W0.cell? ⟨bx, 0, none⟩ = some (.int .i64 (kind : Int)) := S0.cell (n := none) rfl 0
  have b1 : W0.cell? ⟨bx, 1, none⟩ = some (.int .i64 (flags : Int)) := S0.cell (n := none) rfl 1
  have b2 : W0.cell? ⟨bx, 2, none⟩ = some (.int .i64 (id : Int)) := S0.cell (n := none) rfl 2
  have b3 : W0.cell? ⟨bx, 3, none⟩ = some (.slice ab n kb) := S0.cell (n := none) rfl 3
  unfold frV
  clear hnl hW0
  by_cases h0 : id = 0
  · have h0b : ((id : Int) != 0) = false := by simp; omega
    have HZ := hide h0
    clear h0
    by_cases h2 : n = 3
    · subst h2
      obtain ⟨gb, ob, rfl⟩ := isB_some (hb W0 (S0.get (H0.res .inn))) (by rw [HN.out]; omega)
      obtain ⟨x, hx⟩ : ∃ x, (body.getD 2 0).toNat = x := ⟨_, rfl⟩
      have hx2 : x ≤ 255 := by rw [← hx]; have := (body.getD 2 0).toNat_lt; omega
      have hwx : IntKind.i64.wrap (x : Int) = (x : Int) := wrap_i64 _ (by omega) (by omega)
      have HX := hide hx
      clear hx
      have HR : d.doAway id body = ({ d with peerLeaves := true } : Ds).tell 5 (Cs.num body 0) x := by unfold Ds.doAway; rw [HN.out, HX.out, if_neg (by rw [HZ.out]; simp), if_neg (by simp)]
      have t19 := H0.thaw S0 19
      have f19 := H0.c19 S0
      have S1 := S0.setObj H0.conn 19 (.bool true)
      rw [connD_left] at S1
      have H1 := DevAt.scal (d' := { d with peerLeaves := true }) H0 rfl rfl rfl rfl rfl
      have F1 := (hf.mono (show 1 ≤ 4 by omega)).left
      have E1 : SameD (fun x => some (nm x)) (lift own (.obj bx (frO kind flags id (.slice (some ⟨gb, ob, none⟩) 3 kb)))) _ := (SameD.refl _ _).upd .conn (.obj g (.cells (connD { d with peerLeaves := true } v) 78 (0, 0)))
      obtain ⟨W1, hW1⟩ : ∃ W1, W0.setCell ⟨g, 19, none⟩ (.bool true) = W1 := ⟨_, rfl⟩
      rw [hW1] at S1
      have c3 : W1.cell? ⟨bx, 3, none⟩ = some (.slice (some ⟨gb, ob, none⟩) 3 kb) := S1.cell E1.kept 3
      have S1d := S1.ext (Ext.refl W1).drew
      have cx : W1.cell? ⟨gb, ob + 2, none⟩ = some (.int .u8 (x : Int)) := by rw [← HX.out]; exact isB_cell (hb W1 (S1.get (H1.res .inn))) 2 (by rw [HN.out]; omega)
      have k2 := d_Two_any W1.drew _ body (hb W1.drew (S1d.get (H1.res .inn))) (by rw [HN.out]; omega)
      generalize Cs.num body 0 = y at *
      have c3d : W1.drew.cell? ⟨bx, 3, none⟩ = some (.slice (some ⟨gb, ob, none⟩) 3 kb) := c3
      have cxd : W1.drew.cell? ⟨gb, ob + 2, none⟩ = some (.int .u8 (x : Int)) := cx
      have cc : ∀ w2, Ext W1.drew w2 → w2.cell? ⟨bx, 3, none⟩ = some (.slice (some ⟨gb, ob, none⟩) 3 kb) ∧ w2.cell? ⟨gb, ob + 2, none⟩ = some (.int .u8 (x : Int)) := fun w2 he2 => ⟨he2.cell c3d, he2.cell cxd⟩
      have kt : ∀ w2, Ext W1.drew w2 → Calls Try.prog 70 #[.pointer (some ⟨g, 0, none⟩), .int .i64 5, .int .i64 (y : Int), .int .i64 (x : Int)] w2 fun e w' => e = .returned (.tuple #[]) ∧ LeftD nm g wb own d v w' (d.doAway id body) := fun w2 he2 => (d_tell_any H1 (S1d.ext he2) F1 5 y x).mono (by
        rintro e w' ⟨rfl, hL⟩
        refine ⟨rfl, ?_⟩
        rw [HR]
        exact (LeftD.trans (own := lift own (.obj bx (frO kind flags id (.slice (some ⟨gb, ob, none⟩) 3 kb)))) (d := d) (v := v) hL E1 rfl (fun _ => rfl) (fun _ hn => ⟨rfl, hn⟩)).unlift)
      have CC := hide cc
      have KT := hide kt
      clear cc kt S1 S1d H1 S0 H0 HR c3d cxd E1
      go_enter Try.func77, Try.ntmps77
      go_wp2_with fail
      go_region_with (first | (go_at_call 69; refine k2.mono ?_; rintro e w2 ⟨rfl, he2⟩; obtain ⟨g3, gx⟩ := CC.out w2 he2) | (go_at_call 70; refine (KT.out w2 he2).mono ?_; rintro e w3 ⟨rfl, hL⟩))
      all_goals
        go_wp2
        go_end0
        exact ⟨rfl, hL⟩
    · have HR : d.doAway id body = d.fail 3 := by unfold Ds.doAway; rw [HN.out, if_neg (by rw [HZ.out]; simp), if_pos h2]
      have h2' : ((n : Int) != 3) = true := by simp; omega
      have kx := d_fail_any H0 S0 (hf.mono (by omega)) 3
      go_enter Try.func77, Try.ntmps77
      go_wp2_with fail
      refine kx.mono ?_
      rintro e w3 ⟨rfl, hL⟩
      have HL := hide (show LeftD nm g wb own d v w3 (d.doAway id body) from by rw [HR]; exact hL.unlift)
      clear hL HR
      go_wp2
      go_end0
      exact ⟨rfl, HL.out⟩
  · have HR : d.doAway id body = d.fail 1 := by unfold Ds.doAway; rw [if_pos h0]
    have h0' : ((id : Int) != 0) = true := by simp; omega
    have kx := d_fail_any H0 S0 (hf.mono (by omega)) 1
    go_enter Try.func77, Try.ntmps77
    go_wp2_with fail
    refine kx.mono ?_
    rintro e w3 ⟨rfl, hL⟩
    have HL := hide (show LeftD nm g wb own d v w3 (d.doAway id body) from by rw [HR]; exact hL.unlift)
    clear hL HR
    go_wp2
    go_end0
    exact ⟨rfl, HL.out⟩

end
end Go.Proofs.Ytoijpogadkogcaa
