/-
  The law of pieces: its walk.
-/
import Derived.Test.YtoijpogadkogcaaQv
import Derived.Test.YtoijpogadkogcaaQw
import Derived.Deep.CutBlock
namespace Go.Proofs.Ytoijpogadkogcaa
open Go.RowKit
set_option maxRecDepth 100000

/-- The parts of two ends, and what they have answered. -/
inductive PN
  | x (n : DN) | y (n : DN) | first | again | l | u | v | one | two
  deriving DecidableEq
theorem PN.xi : ∀ a b : DN, PN.x a = PN.x b → a = b := fun _ _ e => by injection e
theorem PN.yi : ∀ a b : DN, PN.y a = PN.y b → a = b := fun _ _ e => by injection e
theorem sep_none (w : World) : Sep w w (fun _ : PN => Res.none) := ⟨Ext.refl w, fun _ => trivial, fun _ _ _ h => h.elim, fun _ _ h => h.elim⟩
/-- The end behind its first frame. -/
def pEnd (client : Bool) : Ds := { (Ds.new client 3) with ctl := [] }
theorem pEnd_ok (client : Bool) : (pEnd client).Ok 3000000 2 3000001 := (new_ok client 3000000 (by omega)).ctl0
theorem pEnd_inn (client : Bool) : (pEnd client).inn = [] := rfl
/-- Behind some bytes. -/
theorem pTakes_ok (client : Bool) (b : Bytes) (hb : b.length ≤ 1048576) : ((pEnd client).takes b).Ok (2999998 - b.length) 2 3000001 := by
  refine Ds.Ok.takes b ?_ ?_
  · refine (pEnd_ok client).mono ?_
    rw [pEnd_inn]
    show 2999998 - b.length + 0 + b.length + 2 ≤ 3000000
    omega
  · rw [pEnd_inn]
    show 0 + b.length ≤ _
    omega
theorem pGood (client : Bool) (a c : Bytes) (h : a.length + c.length ≤ 1048576) (hf : ((pEnd client).takes a).failed = false) : GoodB 2 3000001 { ((pEnd client).takes a) with inn := ((pEnd client).takes a).inn ++ c } := by
  have h1 := takes_inn (pEnd client) a rfl hf
  have h2 := pTakes_ok client a (by omega)
  unfold GoodB
  refine (h2.inn _ ?_).mono ?_
  · rw [List.length_append]; omega
  · show 6 + (((pEnd client).takes a).inn ++ c).length ≤ _
    rw [List.length_append]; omega
theorem pLen (client : Bool) (a c : Bytes) (h : a.length + c.length ≤ 1048576) (hf : ((pEnd client).takes a).failed = false) : ((pEnd client).takes a).inn.length + c.length ≤ 68719476736 := by
  have h1 := takes_inn (pEnd client) a rfl hf
  omega

theorem sliced_zero (a : Option Addr) (n cap : Nat) : sliced a 0 n cap 1 = .slice a n cap := by
  unfold sliced
  cases a with
  | none => simp
  | some x => simp [Addr.add]
theorem IsBytes.mid {w : World} {a : Option Addr} {n cap : Nat} {l : Bytes} (h : IsBytes w (.slice a n cap) l) (k m : Nat) (hk : k ≤ m) (hm : m ≤ l.length) : IsBytes w (sliced a k m cap 1) ((l.take m).drop k) := by
  have h1 := IsBytes.take h m hm
  rw [sliced_zero] at h1
  exact IsBytes.drop h1 k (by rw [List.length_take]; omega)
theorem run_mid (W : World) (a : Option Addr) (n cap k m : Nat) (hk : k ≤ m) (hm : m ≤ cap) : (Instr.slice 22 (.slice a n cap) (some (.int .i64 (k : Int))) (some (.int .i64 (m : Int))) none).run Try.prog W = .ok (sliced a k m cap 1) W := by
  rw [run_slice_lh W 22 _ n cap (by rw [elem_bytes]; exact Try.underlying22) .i64 .i64 (k : Int) (m : Int) (by omega) (by omega) (by omega), elem_bytes, size_bytes]
  simp [Result.andThen]
theorem run_from (W : World) (a : Option Addr) (n cap k : Nat) (hk : k ≤ n) : (Instr.slice 22 (.slice a n cap) (some (.int .i64 (k : Int))) none none).run Try.prog W = .ok (sliced a k n cap 1) W := by
  rw [run_slice_l W 22 _ n cap (by rw [elem_bytes]; exact Try.underlying22) .i64 (k : Int) (by omega) (by omega), elem_bytes, size_bytes]
  simp [Result.andThen]
theorem take_mid (b : Bytes) (k m : Nat) (h : k ≤ m) : b.take k ++ (b.take m).drop k = b.take m := by
  have e : b.take k = (b.take m).take k := by rw [List.take_take, Nat.min_eq_left h]
  rw [e, List.take_append_drop]
theorem evCells_get : ∀ (l : List (Nat × Nat × Nat)) (k : Nat), k < l.length → (evCells l)[k * 3]? = some (.int .i64 ((l.getD k (0, 0, 0)).1 : Int)) ∧ (evCells l)[k * 3 + 1]? = some (.int .i64 ((l.getD k (0, 0, 0)).2.1 : Int)) ∧ (evCells l)[k * 3 + 2]? = some (.int .i64 ((l.getD k (0, 0, 0)).2.2 : Int))
  | [], k, h => by simp at h
  | (a, b, c) :: r, 0, _ => ⟨rfl, rfl, rfl⟩
  | (a, b, c) :: r, k + 1, h => by
    have ih := evCells_get r k (by simpa using h)
    have e : evCells ((a, b, c) :: r) = .int .i64 (a : Int) :: .int .i64 (b : Int) :: .int .i64 (c : Int) :: evCells r := rfl
    rw [e, show (k + 1) * 3 = k * 3 + 1 + 1 + 1 by omega, show k * 3 + 1 + 1 + 1 + 1 = (k * 3 + 1) + 1 + 1 + 1 by omega, show k * 3 + 1 + 1 + 1 + 2 = (k * 3 + 2) + 1 + 1 + 1 by omega]
    simp only [List.getElem?_cons_succ]
    exact ih
/-- An end's first frame. -/
def hello : Bytes := [0, 1, 4, 0, 0, 0, 3]
theorem pOut (client : Bool) : (Ds.new client 3).out 99 = (pEnd client, hello) := new_out client
/-- Two ends, the bytes, and what went out first. -/
structure PSt (w W : World) (own : PN → Res) (gx gy : Nat) (dx dy : Ds) (vl v1 v2 : Value) (b : Bytes) : Prop where
  sep : Sep w W own
  ex : EndAt own PN.x gx dx
  ey : EndAt own PN.y gy dy
  nl : own .l = .row 5 1 vl b.length (bcells b)
  n1 : own .first = .row 5 1 v1 hello.length (bcells hello)
  n2 : own .again = .row 5 1 v2 hello.length (bcells hello)
section
variable {w W : World} {own : PN → Res} {gx gy : Nat} {dx dy : Ds} {vl v1 v2 : Value} {b : Bytes}
theorem PSt.ext (h : PSt w W own gx gy dx dy vl v1 v2 b) {W' : World} (e : Ext W W') : PSt w W' own gx gy dx dy vl v1 v2 b := ⟨h.sep.ext e, h.ex, h.ey, h.nl, h.n1, h.n2⟩
theorem PSt.inX (h : PSt w W own gx gy dx dy vl v1 v2 b) (Good : Ds → Prop) (hG : GoodD Good) (vc : Value) (c : Bytes) (hb : IsBytes W vc c) (hl : dx.failed = false → dx.inn.length + c.length ≤ 68719476736) (hc : dx.failed = false → Good { dx with inn := dx.inn ++ c }) :
    Calls Try.prog 19 #[.pointer (some ⟨gx, 0, none⟩), vc] W fun e w' => e = .returned (.tuple #[]) ∧ ∃ own', PSt w w' own' gx gy (dx.takes c) dy vl v1 v2 b := by
  refine (d_In_at Good hG h.ex h.sep vc c hb hl hc).mono ?_
  rintro e w' ⟨rfl, own', S, X, E⟩
  exact ⟨rfl, own', S, X, h.ey.alike (fun z => E (.y z) (fun _ e => by cases e)), (E .l (fun _ e => by cases e)).trans h.nl, (E .first (fun _ e => by cases e)).trans h.n1, (E .again (fun _ e => by cases e)).trans h.n2⟩
theorem PSt.inY (h : PSt w W own gx gy dx dy vl v1 v2 b) (Good : Ds → Prop) (hG : GoodD Good) (vc : Value) (c : Bytes) (hb : IsBytes W vc c) (hl : dy.failed = false → dy.inn.length + c.length ≤ 68719476736) (hc : dy.failed = false → Good { dy with inn := dy.inn ++ c }) :
    Calls Try.prog 19 #[.pointer (some ⟨gy, 0, none⟩), vc] W fun e w' => e = .returned (.tuple #[]) ∧ ∃ own', PSt w w' own' gx gy dx (dy.takes c) vl v1 v2 b := by
  refine (d_In_at Good hG h.ey h.sep vc c hb hl hc).mono ?_
  rintro e w' ⟨rfl, own', S, Y, E⟩
  exact ⟨rfl, own', S, h.ex.alike (fun z => E (.x z) (fun _ e => by cases e)), Y, (E .l (fun _ e => by cases e)).trans h.nl, (E .first (fun _ e => by cases e)).trans h.n1, (E .again (fun _ e => by cases e)).trans h.n2⟩
theorem PSt.bytes (h : PSt w W own gx gy dx dy vl v1 v2 b) : IsBytes W vl b := OwnAt.isBytes (h.sep.get h.nl)
end

set_option maxHeartbeats 12800000 in
theorem pieces_any (client : Bool) (vb : Value) (b : Bytes) (ap : Option Addr) (np cp : Nat) (zs : List Int) (w : World) (hb : IsBytes w vb b) (hlen : b.length ≤ 1048576)
    (hnp : np ≤ 9223372036854775807) (hpc : ∀ i, i < np → ∃ x o, ap = some ⟨x, o, none⟩ ∧ w.cell? ⟨x, o + i, none⟩ = some (.int .i64 (zs.getD i 0)) ∧ -9223372036854775808 ≤ zs.getD i 0 ∧ zs.getD i 0 ≤ 9223372036854775807) :
    Calls Try.prog 5 #[.bool client, vb, .slice ap np cp] w fun e w' => e = .returned (.bool true) ∧ Ext w w' := by
  obtain ⟨i0, hi0, hz0, hz1, hz2⟩ := info_parts' Try.infoU
  have HB := hide hb
  obtain ⟨ab, cb, hvb, hcb1, hcb2, -⟩ := hb
  subst hvb
  have HPC := hide hpc
  clear hpc
  have kx := d_New_at (nm := PN.x) PN.xi (fun _ => rfl) (sep_none w) client 3 (by omega)
  have hc3 : ((3 : Nat) : Int) = 3 := rfl
  rw [hc3] at kx
  go_enter Try.func5, Try.ntmps5
  go_wp2_with fail
  refine kx.mono ?_
  rintro e w1 ⟨gx, own1, rfl, S1, X1, E1⟩
  have ky := d_New_at (nm := PN.y) PN.yi (fun z => E1 (.y z) (fun _ e => by cases e)) S1 client 3 (by omega)
  rw [hc3] at ky
  go_wp2_with fail
  refine ky.mono ?_
  rintro e w2 ⟨gy, own2, rfl, S2, Y2, E2⟩
  have X2 : EndAt own2 PN.x gx (Ds.new client 3) := X1.alike (fun z => E2 (.x z) (fun _ e => by cases e))
  clear S1 X1 E1 E2 kx ky
  have NOK := new_ok client 3000000 (by omega)
  have k1 := d_Out_at X2 S2 (NOK.outOk (by omega) (by omega)) NOK.ck 99 (by omega) (by omega) .first (fun _ e => by cases e)
  rw [pOut] at k1
  dsimp only at k1
  go_wp2_with fail
  refine k1.mono ?_
  rintro e w3 ⟨vo1, own3, rfl, S3, X3, n3, E3⟩
  have Y3 : EndAt own3 PN.y gy (Ds.new client 3) := Y2.alike (fun z => E3 (.y z) (fun e => by cases e) (fun _ e => by cases e))
  have k2 := d_Out_at Y3 S3 (NOK.outOk (by omega) (by omega)) NOK.ck 99 (by omega) (by omega) .again (fun _ e => by cases e)
  rw [pOut] at k2
  dsimp only at k2
  have hs1 := (show OwnAt w3 5 1 vo1 hello.length _ from S3.get n3)
  obtain ⟨ao1, co1, hvo1, -, -⟩ := hs1.slice
  clear hs1 S2 Y2 X2 E3 k1
  subst hvo1
  go_wp2_with fail
  refine k2.mono ?_
  rintro e w4 ⟨vo2, own4, rfl, S4, Y4, n4, E4⟩
  have hs2 := (show OwnAt w4 5 1 vo2 hello.length _ from S4.get n4)
  obtain ⟨ao2, co2, hvo2, -, -⟩ := hs2.slice
  clear hs2
  subst hvo2
  have S4' := S4.nilRow .l 5 1
  have X4 : EndAt (upd own4 .l (.row 5 1 (.slice none 0 0) 0 [])) PN.x gx (pEnd client) := (X3.alike (fun z => E4 (.x z) (fun e => by cases e) (fun _ e => by cases e))).updO (fun _ e => by cases e) _
  have Y4' : EndAt (upd own4 .l (.row 5 1 (.slice none 0 0) 0 [])) PN.y gy (pEnd client) := Y4.updO (fun _ e => by cases e) _
  have n14 : own4 .first = .row 5 1 (.slice ao1 hello.length co1) hello.length (bcells hello) := (E4 .first (fun e => by cases e) (fun _ e => by cases e)).trans n3
  have hsrc := src_isB (HB.out.ext S4.base)
  have HST : Hid (∀ (v5 : Value) (w5 : World), OwnAt w5 5 1 v5 b.length (bcells b) → Grew w4 (.slice none 0 0) w5 v5 → ∃ own5, PSt w w5 own5 gx gy (pEnd client) (pEnd client) v5 (.slice ao1 hello.length co1) (.slice ao2 hello.length co2) b) := fun v5 w5 hO hG => by
    have S5 := S4'.grew (upd_at own4 .l _) hG hO
    exact ⟨_, S5, X4.updO (fun _ e => by cases e) _, Y4'.updO (fun _ e => by cases e) _, upd_at _ _ _, by rw [upd_ne _ _ (fun e => by cases e), upd_ne _ _ (fun e => by cases e)]; exact n14, by rw [upd_ne _ _ (fun e => by cases e), upd_ne _ _ (fun e => by cases e)]; exact n4⟩
  clear S4 S4' X4 Y4 Y4' n14 n4 E4 S3 X3 Y3 n3 k2 NOK
  go_wp2_with (at_builtin; refine wpList_append_at _ rfl (.tmp 51) (.tmp 52) 22 22 rfl 5 i0 (.int .u8 0) 1 1 Try.underlying22 hi0 hz0 hz1 hz2 rfl _ _ _ rfl (OwnAt.nil w4 5 1) _ _ _ rfl hsrc ?_ ?_ ?_)
  · unfold maxLen; omega
  · omega
  intro v5 w5 hO5 hG5
  have hO6 := cut_len (m := b.length) (ys := bcells b) hO5 (by omega) (List.nil_append _)
  obtain ⟨own5, P5⟩ := HST.out v5 w5 hO6 hG5
  obtain ⟨al, cl, hvl, hcl1, hcl2⟩ := hO6.slice
  subst hvl
  clear hO5 hO6 hG5 hsrc HST
  have hG := good_is 2 3000001
  have k3 := P5.inX (GoodB 2 3000001) hG (.slice al b.length cl) b P5.bytes (fun _ => by rw [pEnd_inn]; show 0 + b.length ≤ _; omega) (fun hf => by
    have := pGood client [] b (by simp; omega) (by rw [takes_nil _ rfl]; exact hf)
    rw [takes_nil _ rfl] at this
    exact this)
  have HNL : b.length = b.length := rfl
  generalize hbn : b.length = bn at *
  have HBN := hide hbn
  clear hbn HNL
  go_wp2_with fail
  refine k3.mono ?_
  rintro e w6 ⟨rfl, own6, P6⟩
  have HP0 : Hid (PSt w w6 own6 gx gy ((pEnd client).takes b) ((pEnd client).takes (b.take 0)) (.slice al bn cl) (.slice ao1 hello.length co1) (.slice ao2 hello.length co2) b) := by
    show PSt _ _ _ _ _ _ _ _ _ _ _
    rw [List.take_zero, takes_nil _ rfl]; exact P6
  clear P6 P5 k3
  go_upto_block 0 with fail
  go_cut [14, 15, 16] from 57 to 85 (fun s14 _ _ wx => ∃ (fr : Nat) (own7 : PN → Res), fr ≤ bn ∧ s14 = .int .i64 (fr : Int) ∧ Hid (PSt w wx own7 gx gy ((pEnd client).takes b) ((pEnd client).takes (b.take fr)) (.slice al bn cl) (.slice ao1 hello.length co1) (.slice ao2 hello.length co2) b))
  case first =>
    go_wp2
    go_loopw [14, 15] (fun s14 s15 wr => ∃ (fr ii : Nat) (own7 : PN → Res), fr ≤ bn ∧ ii ≤ np ∧ s14 = .int .i64 (fr : Int) ∧ s15 = .int .i64 (ii : Int) ∧ Hid (PSt w wr own7 gx gy ((pEnd client).takes b) ((pEnd client).takes (b.take fr)) (.slice al bn cl) (.slice ao1 hello.length co1) (.slice ao2 hello.length co2) b)) (fun _ s15 _ => np - (intOf s15).toNat)
    case atStart => exact ⟨0, 0, own6, Nat.zero_le _, Nat.zero_le _, rfl, rfl, HP0⟩
    case round =>
      obtain ⟨fr, ii, own7, hfr, hii, rfl, rfl, HP⟩ := hrel
      clear HP0
      by_cases hi : ii < np
      · by_cases hf : fr < bn
        · obtain ⟨px, po, hap, hcell, hz1', hz2'⟩ := HPC.out ii hi
          subst hap
          have hc := HP.out.sep.base.cell hcell
          have hi' : (ii : Int) < (np : Int) := by omega
          have hf' : (fr : Int) < (bn : Int) := by omega
          generalize zs.getD ii 0 = z at *
          go_wp2_with fail
          refine (pick_any z 12 wr hz1' hz2' (by omega) (by omega)).mono ?_
          rintro e w7 ⟨n, hn0, hn12, rfl, hw⟩
          replace hw := hw.symm
          subst hw
          obtain ⟨nn, rfl⟩ : ∃ nn : Nat, n = (nn : Int) := ⟨n.toNat, by omega⟩
          clear HPC hcell hc
          by_cases hmn : fr + nn < bn
          · have hmn' : (fr : Int) + (nn : Int) < (bn : Int) := by omega
            have hNb : (fr + nn) ≤ b.length := by rw [HBN.out]; omega
            have hfN : fr ≤ (fr + nn) := by omega
            have hBm := IsBytes.mid HP.out.bytes fr (fr + nn) hfN hNb
            have hrun := fun W => run_mid W al bn cl fr (fr + nn) hfN (by omega)
            have hml : ((b.take (fr + nn)).drop fr).length = (fr + nn) - fr := by rw [List.length_drop, List.length_take]; omega
            have htl : (b.take fr).length = fr := by rw [List.length_take]; omega
            have hsum : (b.take fr).length + ((b.take (fr + nn)).drop fr).length ≤ 1048576 := by omega
            have k4 := HP.out.inY (GoodB 2 3000001) hG _ _ hBm (pLen client _ _ hsum) (pGood client _ _ hsum)
            rw [← dtakes_append, take_mid b fr (fr + nn) hfN] at k4
            obtain ⟨am, cm, hvm, -, -, -⟩ := hBm
            rw [hvm] at hrun k4
            rw [hml] at hrun k4
            clear hvm hml htl hsum hNb
            generalize (fr + nn) - fr = mm at *
            have HK4 := hide k4
            clear k4
            have hcst : ((fr + nn : Nat) : Int) = (fr : Int) + (nn : Int) := by omega
            simp only [hcst] at hrun
            clear hcst
            go_wp2_with fail
            have k4 := HK4.out
            refine k4.mono ?_
            rintro e w8 ⟨rfl, own8, P8⟩
            have HP8 := hide P8
            clear P8 k4 HK4
            go_wp2
            go_roundw
            case rel => exact ⟨(fr + nn), ii + 1, own8, by omega, by omega, by go_num, by go_num, HP8⟩
            case measure => simp [intOf]; omega
          · have hmn' : ¬ (fr : Int) + (nn : Int) < (bn : Int) := by omega
            have hNb : bn ≤ b.length := by rw [HBN.out]; omega
            have hfN : fr ≤ bn := by omega
            have hBm := IsBytes.mid HP.out.bytes fr bn hfN hNb
            have hrun := fun W => run_mid W al bn cl fr bn hfN (by omega)
            have hml : ((b.take bn).drop fr).length = bn - fr := by rw [List.length_drop, List.length_take]; omega
            have htl : (b.take fr).length = fr := by rw [List.length_take]; omega
            have hsum : (b.take fr).length + ((b.take bn).drop fr).length ≤ 1048576 := by omega
            have k4 := HP.out.inY (GoodB 2 3000001) hG _ _ hBm (pLen client _ _ hsum) (pGood client _ _ hsum)
            rw [← dtakes_append, take_mid b fr bn hfN] at k4
            obtain ⟨am, cm, hvm, -, -, -⟩ := hBm
            rw [hvm] at hrun k4
            rw [hml] at hrun k4
            clear hvm hml htl hsum hNb
            generalize bn - fr = mm at *
            have HK4 := hide k4
            clear k4
            go_wp2_with fail
            have k4 := HK4.out
            refine k4.mono ?_
            rintro e w8 ⟨rfl, own8, P8⟩
            have HP8 := hide P8
            clear P8 k4 HK4
            go_wp2
            go_roundw
            case rel => exact ⟨bn, ii + 1, own8, by omega, by omega, by go_num, by go_num, HP8⟩
            case measure => simp [intOf]; omega
        · have hi' : (ii : Int) < (np : Int) := by omega
          have hf' : decide ((fr : Int) < (bn : Int)) = false := by simp; omega
          go_wp2
          go_meet
          case rel => exact ⟨fr, own7, hfr, rfl, HP⟩
      · have hi' : decide ((ii : Int) < (np : Int)) = false := by simp; omega
        go_wp2
        go_meet
        case rel => exact ⟨fr, own7, hfr, rfl, HP⟩
  case rest =>
    obtain ⟨fr, own7, hfr, rfl, HP⟩ := hcut
    clear HP0 HPC
    have hBd := IsBytes.drop HP.out.bytes fr (by rw [HBN.out]; exact hfr)
    have hrun := fun W => run_from W al bn cl fr hfr
    have hdl : (b.drop fr).length = bn - fr := by rw [List.length_drop, HBN.out]
    have htl : (b.take fr).length = fr := by rw [List.length_take, HBN.out]; omega
    have hsum : (b.take fr).length + (b.drop fr).length ≤ 1048576 := by omega
    have k5 := HP.out.inY (GoodB 2 3000001) hG _ _ hBd (pLen client _ _ hsum) (pGood client _ _ hsum)
    rw [← dtakes_append, List.take_append_drop] at k5
    obtain ⟨am, cm, hvm, -, -, -⟩ := hBd
    rw [hvm] at hrun k5
    rw [hdl] at hrun k5
    clear hvm hdl htl hsum
    generalize bn - fr = mm at *
    go_wp2_with fail
    refine k5.mono ?_
    rintro e w8 ⟨rfl, own8, P8⟩
    have kE := d_Events_at P8.ex P8.sep .u (fun _ e => by cases e)
    clear HP k5
    obtain ⟨D, hD⟩ : ∃ D, D = (pEnd client).takes b := ⟨_, rfl⟩
    have hDok := pTakes_ok client b (by rw [HBN.out]; omega)
    rw [← hD] at P8 kE hDok
    have HOK := hide hDok
    have hen : D.ev.length ≤ 68719476736 := by have := hDok.fits.ev; omega
    clear hD hDok
    go_wp2_with fail
    refine kE.mono ?_
    rintro e w9 ⟨vu, own9, rfl, S9, X9, nu9, E9⟩
    have Y9 : EndAt own9 PN.y gy D := P8.ey.alike (fun z => E9 (.y z) (fun e => by cases e) (fun _ e => by cases e))
    have n19 := (E9 .first (fun e => by cases e) (fun _ e => by cases e)).trans P8.n1
    have n29 := (E9 .again (fun e => by cases e) (fun _ e => by cases e)).trans P8.n2
    have kF := d_Events_at Y9 S9 .v (fun _ e => by cases e)
    have hsu := (show OwnAt w9 55 3 vu D.ev.length _ from S9.get nu9)
    obtain ⟨au, cu, hvu, -, -⟩ := hsu.slice
    clear hsu E9 P8 kE
    subst hvu
    go_wp2_with fail
    refine kF.mono ?_
    rintro e w10 ⟨vv, own10, rfl, S10, Y10, nv10, E10⟩
    have X10 : EndAt own10 PN.x gx D.asked := X9.alike (fun z => E10 (.x z) (fun e => by cases e) (fun _ e => by cases e))
    have nu10 := (E10 .u (fun e => by cases e) (fun _ e => by cases e)).trans nu9
    have n110 := (E10 .first (fun e => by cases e) (fun _ e => by cases e)).trans n19
    have n210 := (E10 .again (fun e => by cases e) (fun _ e => by cases e)).trans n29
    have hsv := (show OwnAt w10 55 3 vv D.ev.length _ from S10.get nv10)
    obtain ⟨av, cv, hvv, -, -⟩ := hsv.slice
    clear E10 Y9 X9 S9 nu9 n19 n29 kF
    subst hvv
    have hsu := (show OwnAt w10 55 3 (.slice au D.ev.length cu) D.ev.length _ from S10.get nu10)
    have HU := hide hsu
    have HV := hide hsv
    clear hsu hsv nu10 nv10
    generalize hev : D.ev = evs at *
    clear hev
    generalize hn : evs.length = n at *
    have HN := hide hn
    clear hn
    go_upto_block 2 with fail
    go_cut [19, 20] from 100 to 117 (fun s19 _ wx => s19 = .bool true ∧ Hid (Ext w10 wx))
    case first =>
      go_wp2
      go_loopw [19, 20] (fun s19 s20 wr => ∃ k : Nat, k ≤ n ∧ s19 = .bool true ∧ s20 = .int .i64 (k : Int) ∧ Hid (Ext w10 wr)) (fun _ s20 _ => n - (intOf s20).toNat)
      case atStart => exact ⟨0, Nat.zero_le _, by simp, rfl, Ext.refl _⟩
      case round =>
        obtain ⟨k, hk, rfl, rfl, HE⟩ := hrel
        by_cases hlt : k < n
        · obtain ⟨a1, o1, c1, e1, -, -, hc1⟩ := HU.out.at (by omega)
          obtain ⟨a2, o2, c2, e2, -, -, hc2⟩ := HV.out.at (by omega)
          simp only [Value.slice.injEq] at e1 e2
          obtain ⟨rfl, -, rfl⟩ := e1
          obtain ⟨rfl, -, rfl⟩ := e2
          obtain ⟨g1, g2, g3⟩ := evCells_get evs k (by rw [HN.out]; exact hlt)
          have x1 := HE.out.cell ((hc1 (k * 3) (by omega)).trans g1)
          have x2 := HE.out.cell ((hc1 (k * 3 + 1) (by omega)).trans g2)
          have x3 := HE.out.cell ((hc1 (k * 3 + 2) (by omega)).trans g3)
          have y1 := HE.out.cell ((hc2 (k * 3) (by omega)).trans g1)
          have y2 := HE.out.cell ((hc2 (k * 3 + 1) (by omega)).trans g2)
          have y3 := HE.out.cell ((hc2 (k * 3 + 2) (by omega)).trans g3)
          rw [← Nat.add_assoc] at x2 x3 y2 y3
          generalize ((evs.getD k (0, 0, 0)).1 : Int) = e1 at *
          generalize ((evs.getD k (0, 0, 0)).2.1 : Int) = e2 at *
          generalize ((evs.getD k (0, 0, 0)).2.2 : Int) = e3 at *
          have hlt' : (k : Int) < (n : Int) := by omega
          clear hc1 hc2 g1 g2 g3
          go_wp2_with fail
          go_quiet (fail)
          have hE2 := HE.out.trans (drewN_ext wr nq)
          have HE2 := hide hE2
          clear hE2
          go_wp2
          go_roundw
          case rel => exact ⟨k + 1, by omega, by simp, by go_num, HE2⟩
          case measure => simp [intOf]; omega
        · have hlt' : decide ((k : Int) < (n : Int)) = false := by simp; omega
          go_wp2
          go_meet
          case rel => exact ⟨rfl, HE⟩
    case rest =>
      obtain ⟨rfl, HE⟩ := hcut
      have hAok := HOK.out.asked
      have hOO : OutOk D.asked := hAok.outOk (by omega) (by rw [HBN.out]; omega)
      obtain ⟨R, hR⟩ : ∃ R, D.asked.out 1099511627776 = R := ⟨_, rfl⟩
      have k1 := d_Out_at X10 (S10.ext HE.out) hOO hAok.ck 1099511627776 (by omega) (by omega) .one (fun _ e => by cases e)
      rw [hR] at k1
      have HY := hide Y10
      have HR := hide hR
      have HOO := hide hOO
      have HCK := hide hAok.ck
      have HN1 := hide n110
      have HN2 := hide n210
      clear X10 S10 HU HV hAok hOO hR Y10 n110 n210
      go_wp2_with fail
      refine k1.mono ?_
      rintro e w11 ⟨vo, own11, rfl, S11, X11, n11, E11⟩
      have Y11 : EndAt own11 PN.y gy D.asked := HY.out.alike (fun z => E11 (.y z) (fun e => by cases e) (fun _ e => by cases e))
      have k2 := d_Out_at Y11 S11 HOO.out HCK.out 1099511627776 (by omega) (by omega) .two (fun _ e => by cases e)
      rw [HR.out] at k2
      have n1' := (E11 .first (fun e => by cases e) (fun _ e => by cases e)).trans HN1.out
      have n2' := (E11 .again (fun e => by cases e) (fun _ e => by cases e)).trans HN2.out
      have hso := (show OwnAt w11 5 1 vo R.2.length _ from S11.get n11)
      obtain ⟨ao, co, hvo, -, -⟩ := hso.slice
      subst hvo
      clear hso E11 X11 k1
      go_wp2_with fail
      refine k2.mono ?_
      rintro e w12 ⟨vp, own12, rfl, S12, Y12, n12, E12⟩
      have n1'' := (E12 .first (fun e => by cases e) (fun _ e => by cases e)).trans n1'
      have n2'' := (E12 .again (fun e => by cases e) (fun _ e => by cases e)).trans n2'
      have no'' := (E12 .one (fun e => by cases e) (fun _ e => by cases e)).trans n11
      have hsp := (show OwnAt w12 5 1 vp R.2.length _ from S12.get n12)
      obtain ⟨ap', cp', hvp, -, -⟩ := hsp.slice
      subst hvp
      have v1 := conv_bytes (OwnAt.isBytes (show OwnAt w12 5 1 (.slice ao1 hello.length co1) hello.length (bcells hello) from S12.get n1''))
      have v2 := conv_bytes (OwnAt.isBytes (show OwnAt w12 5 1 (.slice ao2 hello.length co2) hello.length (bcells hello) from S12.get n2''))
      have v3 := conv_bytes (OwnAt.isBytes (show OwnAt w12 5 1 (.slice ao R.2.length co) R.2.length (bcells R.2) from S12.get no''))
      have v4 := conv_bytes (OwnAt.isBytes hsp)
      have hEx : Hid (Ext w w12) := S12.base
      have hhe : hello.toArray = #[0, 1, 4, 0, 0, 0, 3] := rfl
      rw [hhe] at v1 v2
      clear hhe S12 Y12 n12 E12 n1'' n2'' no'' hsp n1' n2' n11 Y11 S11 k2
      generalize R.2.toArray = RA at *
      generalize R.2.length = rl at *
      generalize hello.length = hl at *
      go_wp2
      go_ret
      exact ⟨by simp, hEx.out⟩
end Go.Proofs.Ytoijpogadkogcaa
