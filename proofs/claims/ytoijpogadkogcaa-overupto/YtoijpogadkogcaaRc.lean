/-
  The law of what goes on or has failed: its walk.
-/
import Derived.Test.YtoijpogadkogcaaRb
import Derived.Lib.SlBytesConst
namespace Go.Proofs.Ytoijpogadkogcaa
open Go.RowKit
set_option maxRecDepth 100000

/-- The parts of an end, and what it has answered. -/
inductive ON
  | x (n : DN) | first | l | v | o | p | w | q
  deriving DecidableEq
theorem ON.xi : ∀ a b : DN, ON.x a = ON.x b → a = b := fun _ _ e => by injection e
theorem sep_noneO (w : World) : Sep w w (fun _ : ON => Res.none) := ⟨Ext.refl w, fun _ => trivial, fun _ _ _ h => h.elim, fun _ _ h => h.elim⟩
theorem takes_failed (d : Ds) (b : Bytes) (h : d.failed = true) : d.takes b = d := by unfold Ds.takes; rw [if_pos h]
theorem find_known (d : Ds) (m : Nat) (q B : Nat) (h : d.Ok m q B) (id : Int) (hk : d.known id = true) : (d.find id).state ≠ 0 := by
  cases hr : d.real id with
  | none => rw [find_none hr, hk]; show (8 : Nat) ≠ 0; omega
  | some s =>
    rw [find_some hr]
    rcases h.found id with e | e | e
    · rw [find_some hr] at e
      unfold Ds.real at hr
      split at hr
      · cases hr
      · split at hr
        · unfold Ds.held at hr
          split at hr
          · cases hr
          · split at hr
            · rename_i s' hs' _
              injection hr with hr
              subst hr
              exact (h.ids _ _ hs').2.1
            · cases hr
        · cases hr
    · rw [find_some hr] at e; rw [e]; show (8 : Nat) ≠ 0; omega
    · rw [find_some hr] at e; exact (h.ids _ _ e).2.1

theorem cell_newF (w : World) (cs : Array Value) (T : TypeId) (f : Nat × Nat) (k : Nat) : (w.alloc (.cells cs T f)).cell? ⟨w.heap.size, k, none⟩ = cs[k]? := by
  have h2 := heap_alloc_new w (.cells cs T f)
  unfold World.cell?
  rw [h2]
  rfl

set_option maxHeartbeats 12800000 in
theorem over_any (client : Bool) (va : Value) (b : Bytes) (vm : Value) (more : Bytes) (w : World) (hb : IsBytes w va b) (hm : IsBytes w vm more) (hlen : b.length ≤ 1048576) :
    Calls Try.prog 6 #[.bool client, va, vm] w fun e w' => e = .returned (.bool true) ∧ Ext w w' := by
  obtain ⟨i0, hi0, hz0, hz1, hz2⟩ := info_parts' Try.infoU
  have HB := hide hb
  have HM := hide hm
  obtain ⟨ab, cb, hvb, hcb1, hcb2, -⟩ := hb
  subst hvb
  obtain ⟨am, cm, hvm, -, -, -⟩ := hm
  subst hvm
  have kx := d_New_at (nm := ON.x) ON.xi (fun _ => rfl) (sep_noneO w) client 3 (by omega)
  have hc3 : ((3 : Nat) : Int) = 3 := rfl
  rw [hc3] at kx
  go_enter Try.func6, Try.ntmps6
  go_wp2_with fail
  refine kx.mono ?_
  rintro e w1 ⟨g, own1, rfl, S1, X1, E1⟩
  have NOK := new_ok client 3000000 (by omega)
  have k1 := d_Out_at X1 S1 (NOK.outOk (by omega) (by omega)) NOK.ck 99 (by omega) (by omega) .first (fun _ e => by cases e)
  rw [pOut] at k1
  dsimp only at k1
  clear kx E1
  go_wp2_with fail
  refine k1.mono ?_
  rintro e w2 ⟨vo1, own2, rfl, S2, X2, n2, -⟩
  have hs1 := (show OwnAt w2 5 1 vo1 hello.length _ from S2.get n2)
  obtain ⟨ao1, co1, hvo1, -, -⟩ := hs1.slice
  have hh7 : hello.length = 7 := rfl
  rw [hh7] at hvo1
  clear hs1 n2 k1 S1 X1 NOK
  subst hvo1
  have kh := headers_any 0 w2 (by omega) (by omega)
  go_wp2_with fail
  refine kh.mono ?_
  rintro e w3 ⟨m, vh, rfl, hpk, how, he3⟩
  have hP := IsPairs.ofOwns how
  have kO := d_Open_at X2 (S2.ext he3) ((pEnd_ok client).fits.mono (by omega)) rfl vh m hP (packs_size m hpk)
  obtain ⟨ah, ch, hvh, -, -, -⟩ := hP
  subst hvh
  clear how kh S2 X2
  go_wp2_with fail
  refine kO.mono ?_
  rintro e w4 ⟨own4, S4, -, hor⟩
  have hor' : e = .returned (.tuple #[.int .i64 ((pEnd client).next : Int), .int .i64 0]) ∧ EndAt own4 ON.x g ((pEnd client).opened m) := by
    rcases hor with ⟨-, h1, h2⟩ | ⟨hno, -, -⟩
    · exact ⟨h1, h2⟩
    · exact absurd (pEnd_open client m hpk) hno
  obtain ⟨rfl, X4⟩ := hor'
  clear hor
  have X4' : EndAt own4 ON.x g (oEnd client m) := X4
  obtain ⟨nx, hnx⟩ : ∃ nx, (pEnd client).next = nx := ⟨_, rfl⟩
  have hnx2 : 1 ≤ nx ∧ nx ≤ 2 := by rw [← hnx, pEnd_next]; cases client <;> simp
  obtain ⟨hn1, hn2⟩ := hnx2
  rw [hnx]
  have HNX := hide hnx
  have h1' : decide ((nx : Int) < 1) = false := by simp; omega
  have h2' : decide ((2 : Int) < (nx : Int)) = false := by simp; omega
  have S4' := S4.nilRow .l 5 1
  have X5 : EndAt (upd own4 .l (.row 5 1 (.slice none 0 0) 0 [])) ON.x g (oEnd client m) := X4'.updO (fun _ e => by cases e) _
  have hsrc := src_isB (HB.out.ext S4.base)
  have HST : Hid (∀ (v5 : Value) (w5 : World), OwnAt w5 5 1 v5 b.length (bcells b) → Grew w4 (.slice none 0 0) w5 v5 → ∃ own5, Sep w w5 own5 ∧ EndAt own5 ON.x g (oEnd client m)) := fun v5 w5 hO hG => by
    have S5 := S4'.grew (upd_at own4 .l _) hG hO
    exact ⟨_, S5, X5.updO (fun _ e => by cases e) _⟩
  have HPK := hide hpk
  clear S4 S4' X4 X4' X5 hnx hpk kO
  go_wp2_with (at_builtin; refine wpList_append_at _ rfl (.tmp 63) (.tmp 64) 22 22 rfl 5 i0 (.int .u8 0) 1 1 Try.underlying22 hi0 hz0 hz1 hz2 rfl _ _ _ rfl (OwnAt.nil w4 5 1) _ _ _ rfl hsrc ?_ ?_ ?_)
  · unfold maxLen; omega
  · omega
  intro v5 w5 hO5 hG5
  have hO6 := cut_len (m := b.length) (ys := bcells b) hO5 (by omega) (List.nil_append _)
  obtain ⟨own5, S5, X5⟩ := HST.out v5 w5 hO6 hG5
  have hBl := OwnAt.isBytes hO6
  obtain ⟨al, cl, hvl, hcl1, hcl2⟩ := hO6.slice
  subst hvl
  clear hO5 hO6 hG5 hsrc HST
  have k3 := d_In_at (GoodB 2 3000001) (good_is 2 3000001) X5 S5 (.slice al b.length cl) b hBl (fun _ => by rw [oEnd_inn]; show 0 + b.length ≤ _; omega) (fun _ => oGood client m HPK.out b hlen)
  have hDok := oTakes_ok client m HPK.out b hlen
  have hLD := ld_takes (oEnd client m) b (oEnd_live client m)
  have hpg : ((oEnd client m).takes b).pings = 0 := hLD.pg.trans (oEnd_pings client m)
  have hml : ((oEnd client m).takes b).mLast = nx ∧ ((oEnd client m).takes b).client = client := ⟨(hLD.ml.trans (oEnd_last client m).1).trans HNX.out, hLD.cl.trans (oEnd_last client m).2⟩
  have hld := hLD.ld
  have hm19 : 1900000 ≤ 2999996 - b.length := by omega
  generalize 2999996 - b.length = mm at *
  obtain ⟨D, hD⟩ : ∃ D, (oEnd client m).takes b = D := ⟨_, rfl⟩
  rw [hD] at k3 hDok hpg hml hld
  clear hD hLD S5 X5 hBl
  go_wp2_with fail
  refine k3.mono ?_
  rintro e w6 ⟨rfl, own6, S6, X6, -⟩
  have kE := d_Events_at X6 S6 .v (fun _ e => by cases e)
  clear S6 X6 k3
  go_wp2_with fail
  refine kE.mono ?_
  rintro e w7 ⟨vv, own7, rfl, S7, X7, n7, -⟩
  have hsv := (show OwnAt w7 55 3 vv D.ev.length (evCells D.ev) from S7.get n7)
  obtain ⟨av, cv, hvv, -, -⟩ := hsv.slice
  subst hvv
  have HV := hide hsv
  have hAok := hDok.asked
  have hen : D.ev.length ≤ 68719476736 := by have := hDok.fits.ev; omega
  clear hsv n7 kE
  rcases hld with hlive | hdead
  · -- it goes on
    obtain ⟨D2, O, hI⟩ := idle_of hAok hm19 X7.rings 1099511627776 rfl
    have k4 := d_Out_at X7 S7 (hAok.outOk (by omega) (by omega)) hAok.ck 1099511627776 (by omega) (by omega) .o (fun _ e => by cases e)
    rw [hI.out] at k4
    dsimp only at k4
    have hf2 : D2.failed = false := hI.e5.fd.trans hlive.1
    have hp2 : D2.pings = 0 := hI.e5.pg.trans hpg
    have hev := hlive.2
    have HI := hide hI
    have HK4 := hide k4
    clear hI k4 hAok hDok S7 X7 hlive hml
    generalize hEV : D.ev = evs at *
    clear hEV
    generalize hn : evs.length = n at *
    have HN := hide hn
    clear hn
    have HEV := hide hev
    clear hev
    go_wp2
    go_loop [14, 15] (fun s14 s15 => ∃ k : Nat, k ≤ n ∧ s14 = .bool false ∧ s15 = .int .i64 (k : Int)) (fun _ s15 => n - (intOf s15).toNat)
    case atStart => exact ⟨0, Nat.zero_le _, rfl, rfl⟩
    case round =>
      obtain ⟨k, hk, rfl, rfl⟩ := hrel
      by_cases hlt : k < n
      · obtain ⟨a1, o1, c1, e1, -, -, hc1⟩ := HV.out.at (by omega)
        simp only [Value.slice.injEq] at e1
        obtain ⟨rfl, -, rfl⟩ := e1
        obtain ⟨g1, g2, g3⟩ := evCells_get evs k (by rw [HN.out]; exact hlt)
        have x1 := (hc1 (k * 3) (by omega)).trans g1
        have x3 := (hc1 (k * 3 + 2) (by omega)).trans g3
        rw [← Nat.add_assoc] at x3
        have h6 : (((evs.getD k (0, 0, 0)).1 : Int) == 6) = false := by
          have hm : evs.getD k (0, 0, 0) ∈ evs := by rw [List.getD_eq_getElem?_getD, List.getElem?_eq_getElem (by rw [HN.out]; exact hlt)]; exact List.getElem_mem _
          have := HEV.out _ hm
          rw [beq_eq_false_iff_ne]; omega
        generalize ((evs.getD k (0, 0, 0)).1 : Int) = e1 at *
        generalize ((evs.getD k (0, 0, 0)).2.2 : Int) = e3 at *
        have hlt' : (k : Int) < (n : Int) := by omega
        clear hc1 g1 g2 g3
        go_wp2
        go_round
        case rel => exact ⟨k + 1, by omega, by simp, by go_num⟩
        case measure => simp [intOf]; omega
      · have hlt' : decide ((k : Int) < (n : Int)) = false := by simp; omega
        have k4 := HK4.out
        go_wp2_with fail
        refine k4.mono ?_
        rintro e w8 ⟨vo, own8, rfl, S8, X8, n8, -⟩
        have hso := (show OwnAt w8 5 1 vo O.length _ from S8.get n8)
        obtain ⟨ao, co, hvo, -, -⟩ := hso.slice
        subst hvo
        have F2 := HI.out.ok.fits
        have kP := d_Ping_at X8 S8 (F2.mono (by omega))
        have hpo : D2.pong = (1, 0) := by unfold Ds.pong; rw [hf2, hp2]; rfl
        have hpi : D2.pinged = D2.ping := by unfold Ds.pinged; rw [hf2]; rfl
        rw [hpo, hpi] at kP
        dsimp only at kP
        have hOP : OutOk D2.ping ∧ ∀ f ∈ D2.ping.ctl, f.1 ≤ 255 ∧ f.2.1 ≤ 255 := by
          have hc0 := HI.out.ctl
          have ht : tellsN D2.ping = tellsN D2 := rfl
          have fp : Ds.Fits { D2 with pings := (D2.pings + 1) % 65536 } (tellsN D2 + 1 + 9 + 1) := (F2.ping _ (by omega)).mono (by omega)
          refine ⟨⟨(fp.lay 5 0 0 (two ((D2.pings + 1) % 65536)) (by simp [two]) (by omega)).mono (by rw [ht]; omega), HI.out.ok.ids⟩, fun f hf => ?_⟩
          have hf' : f ∈ D2.ctl ++ [(5, 0, 0, two ((D2.pings + 1) % 65536))] := hf
          rw [hc0, List.nil_append] at hf'
          rw [List.mem_singleton.1 hf']
          exact ⟨by show 5 ≤ 255; omega, Nat.zero_le _⟩
        have HOP := hide hOP
        have hc01 : ((1 : Nat) : Int) = 1 := rfl
        have hc00 : ((0 : Nat) : Int) = 0 := rfl
        rw [hc01, hc00] at kP
        have HPO := hide (ping_out HI.out.ctl HI.out.ring hp2)
        clear hso n8 S8 X8 F2 hpo hpi hOP k4 HK4
        go_wp2_with fail
        refine kP.mono ?_
        rintro e w9 ⟨rfl, own9, S9, X9, -⟩
        have k5 := d_Out_at X9 S9 HOP.out.1 HOP.out.2 99 (by omega) (by omega) .p (fun _ e => by cases e)
        rw [HPO.out] at k5
        dsimp only at k5
        clear S9 X9 kP
        go_wp2_with fail
        refine k5.mono ?_
        rintro e w10 ⟨vp, own10, rfl, S10, X10, n10, -⟩
        have hsp := (show OwnAt w10 5 1 vp (frame 5 0 0 (two 1)).length _ from S10.get n10)
        obtain ⟨ap, cp, hvp, -, -⟩ := hsp.slice
        have h8 : (frame 5 0 0 (two 1)).length = 8 := rfl
        rw [h8] at hvp
        subst hvp
        have hEx : Hid (Ext w w10) := S10.base
        clear hsp n10 S10 X10 k5
        go_wp2
        go_ret
        exact ⟨rfl, hEx.out⟩
  · -- it has failed
    obtain ⟨l, b3, hb3, hout, hll⟩ := dead_out hDok hm19 hdead 1099511627776 rfl
    have k4 := d_Out_at X7 S7 (hAok.outOk (by omega) (by omega)) hAok.ck 1099511627776 (by omega) (by omega) .o (fun _ e => by cases e)
    rw [hout] at k4
    dsimp only at k4
    obtain ⟨hfl, ⟨l6, c6, hev, hc1, hc5, hno6⟩, -, hring⟩ := hdead
    have hAok2 := hAok.ctl0
    obtain ⟨D2, hD2⟩ : ∃ D2, ({ D.asked with ctl := [] } : Ds) = D2 := ⟨_, rfl⟩
    have hf2 : D2.failed = true := by rw [← hD2]; exact hfl
    have hct2 : D2.ctl = [] := by rw [← hD2]
    have hrg2 : D2.ring = [] := by rw [← hD2]; exact hring
    have hev2 : D2.ev = [] := by rw [← hD2]; rfl
    have hkn2 : D2.known (nx : Int) = true := by
      have e1 : D2.client = client := by rw [← hD2]; exact hml.2
      have e2 : D2.mLast = nx := by rw [← hD2]; exact hml.1
      have hsd : D2.side (nx : Int) = some true := by
        unfold Ds.side
        rw [e1, if_pos (by omega), ← HNX.out, pEnd_next]
        cases client <;> rfl
      unfold Ds.known
      rw [hsd]
      show decide ((nx : Int) ≤ (D2.mLast : Int)) = true
      rw [e2]; simp
    rw [hD2] at k4 hAok2
    have hst2 := find_known D2 _ _ _ hAok2 (nx : Int) hkn2
    have HOK := hide hAok2
    have HK4 := hide k4
    have hnew2 : D2.str D2.next = none := by
      refine hAok2.newM D2.next ?_ ?_
      · have e1 : D2.client = client := by rw [← hD2]; exact hml.2
        have e2 : D2.mLast = nx := by rw [← hD2]; exact hml.1
        unfold Ds.side Ds.next
        rw [e1, e2, if_neg (by omega : ¬ nx = 0), if_pos (by omega)]
        rw [← HNX.out, pEnd_next]
        cases client <;> rfl
      · have e2 : D2.mLast = nx := by rw [← hD2]; exact hml.1
        unfold Ds.next
        rw [e2, if_neg (by omega : ¬ nx = 0)]
        omega
    have HEV := hide hev
    have HN6 := hide hno6
    clear k4 hAok hAok2 hDok S7 X7 hout hev hno6 hml hpg hfl hring hD2 hkn2
    generalize hEV : D.ev = evs at *
    clear hEV
    generalize hn : evs.length = n at *
    have HN := hide hn
    have HN1 : Hid (n = l6.length + 1) := by show n = _; rw [← hn, HEV.out]; simp
    clear hn
    go_wp2
    go_loop [14, 15] (fun s14 s15 => ∃ (k : Nat) (f : Bool), k ≤ n ∧ s14 = .bool f ∧ s15 = .int .i64 (k : Int) ∧ Hid (f = true ↔ k = n)) (fun _ s15 => n - (intOf s15).toNat)
    case atStart => exact ⟨0, false, Nat.zero_le _, rfl, rfl, ⟨fun e => (by cases e), fun e => (by have := HN1.out; omega)⟩⟩
    case round =>
      obtain ⟨k, f, hk, rfl, rfl, HF⟩ := hrel
      by_cases hlt : k < n
      · obtain rfl : f = false := by
          cases f with
          | false => rfl
          | true => have := HF.out.1 rfl; omega
        obtain ⟨a1, o1, c1, e1, -, -, hcc⟩ := HV.out.at (by omega)
        simp only [Value.slice.injEq] at e1
        obtain ⟨rfl, -, rfl⟩ := e1
        obtain ⟨g1, g2, g3⟩ := evCells_get evs k (by rw [HN.out]; exact hlt)
        have x1 := (hcc (k * 3) (by omega)).trans g1
        have x3 := (hcc (k * 3 + 2) (by omega)).trans g3
        rw [← Nat.add_assoc] at x3
        have hlt' : (k : Int) < (n : Int) := by omega
        by_cases hla : k = l6.length
        · have ge : evs.getD k (0, 0, 0) = (6, 0, c6) := by rw [HEV.out, hla, List.getD_eq_getElem?_getD, List.getElem?_append_right (Nat.le_refl _)]; simp
          rw [ge] at x1 x3
          have x1' : w7.cell? ⟨a1, o1 + k * 3, none⟩ = some (.int .i64 6) := x1
          have x3' : w7.cell? ⟨a1, o1 + k * 3 + 2, none⟩ = some (.int .i64 (c6 : Int)) := x3
          have HLA := hide hla
          clear hla
          have hd1 : decide ((c6 : Int) < 1) = false := by simp; omega
          have hd5 : decide ((5 : Int) < (c6 : Int)) = false := by simp; omega
          clear hcc g1 g2 g3 x1 x3 ge
          go_wp2
          go_round
          case rel => exact ⟨k + 1, true, by omega, by simp, by go_num, ⟨fun _ => (by have := HN1.out; have := HLA.out; omega), fun _ => rfl⟩⟩
          case measure => simp [intOf]; omega
        · have hlk : k < l6.length := by have := HN1.out; omega
          have ge : (evs.getD k (0, 0, 0)) ∈ l6 := by
            rw [HEV.out, List.getD_eq_getElem?_getD, List.getElem?_append_left (by omega), List.getElem?_eq_getElem (by omega)]
            exact List.getElem_mem _
          have h6 : (((evs.getD k (0, 0, 0)).1 : Int) == 6) = false := by
            have := HN6.out _ ge
            rw [beq_eq_false_iff_ne]; omega
          generalize ((evs.getD k (0, 0, 0)).1 : Int) = e1 at *
          generalize ((evs.getD k (0, 0, 0)).2.2 : Int) = e3 at *
          have HLK := hide hlk
          clear hcc g1 g2 g3 ge hla hlk
          go_wp2
          go_round
          case rel => exact ⟨k + 1, false, by omega, by simp, by go_num, ⟨fun e => (by cases e), fun e => (by have := HN1.out; have := HLK.out; omega)⟩⟩
          case measure => simp [intOf]; omega
      · obtain rfl : f = true := HF.out.2 (by omega)
        have hlt' : decide ((k : Int) < (n : Int)) = false := by simp; omega
        clear HV HEV HN6 HF
        have k4 := HK4.out
        have hlf : (l ++ frame 6 0 0 b3).length = l.length + 9 := by rw [List.length_append, frame_len, hb3]
        have hg6 : (bcells (l ++ frame 6 0 0 b3))[l.length + 2]? = some (.int .u8 6) := by
          unfold bcells
          rw [List.getElem?_map, List.getElem?_append_right (by omega), show l.length + 2 - l.length = 2 by omega]
          simp [frame, two]
        have HG6 := hide hg6
        rw [hlf] at k4
        have HLF := hide hlf
        clear hlf hg6 HK4
        generalize hL : l.length = L at *
        clear hL
        generalize hFB : l ++ frame 6 0 0 b3 = FB at *
        clear hFB
        go_wp2_with fail
        refine k4.mono ?_
        rintro e w8 ⟨vo, own8, rfl, S8, X8, n8, -⟩
        have hso := (show OwnAt w8 5 1 vo (L + 9) _ from S8.get n8)
        obtain ⟨ao, oo, co, hvo, -, -, -⟩ := hso.at (by omega)
        subst hvo
        have kP := d_Ping_at X8 S8 (HOK.out.fits.mono (by omega))
        have hpo : D2.pong = (0, 5) := by unfold Ds.pong; rw [hf2]; rfl
        have hpi : D2.pinged = D2 := by unfold Ds.pinged; rw [hf2]; rfl
        rw [hpo, hpi] at kP
        dsimp only at kP
        have hc05 : ((5 : Nat) : Int) = 5 := rfl
        have hc00 : ((0 : Nat) : Int) = 0 := rfl
        rw [hc05, hc00] at kP
        have HST2 : Hid (∀ room, D2.out room = (D2, [])) := fun room => out_still D2 room hct2 hrg2
        have hOO : OutOk D2 := HOK.out.outOk (by omega) (by omega)
        clear hso k4 hpo hpi S8 X8
        go_wp2_with fail
        refine kP.mono ?_
        rintro e w9 ⟨rfl, own9, S9, X9, E9⟩
        have n9 := (E9 .o (fun _ e => by cases e)).trans n8
        have k5 := d_Out_at X9 S9 hOO HOK.out.ck 99 (by omega) (by omega) .p (fun _ e => by cases e)
        rw [HST2.out] at k5
        dsimp only at k5
        clear S9 X9 E9 kP n8
        go_wp2_with fail
        refine k5.mono ?_
        rintro e w10 ⟨vp, own10, rfl, S10, X10, m10, E10⟩
        have n10 := (E10 .o (fun e => by cases e) (fun _ e => by cases e)).trans n9
        obtain ⟨ap, cp, hvp, -, -⟩ := (show OwnAt w10 5 1 vp 0 _ from S10.get m10).slice
        subst hvp
        have kh2 := headers_any 1 w10 (by omega) (by omega)
        clear k5 m10 E10 n9
        go_wp2_with fail
        refine kh2.mono ?_
        rintro e w11 ⟨m2, vh2, rfl, hpk2, how2, he11⟩
        have hP2 := IsPairs.ofOwns how2
        have kO2 := d_Open_at X10 (S10.ext he11) (HOK.out.fits.mono (by omega)) hnew2 vh2 m2 hP2 (packs_size m2 hpk2)
        obtain ⟨ah2, ch2, hvh2, -, -, -⟩ := hP2
        subst hvh2
        have hop5 : D2.open? m2 = 5 := by unfold Ds.open?; rw [if_neg (by rw [hpk2]; simp), if_pos (by rw [hf2]; rfl)]
        rw [hop5] at kO2
        clear how2 kh2 S10 X10
        go_wp2_with fail
        refine kO2.mono ?_
        rintro e w12 ⟨own12, S12, E12, hor⟩
        have hor' : e = .returned (.tuple #[.int .i64 0, .int .i64 5]) ∧ EndAt own12 ON.x g D2 := by
          rcases hor with ⟨h1, -, -⟩ | ⟨-, h1, h2⟩
          · omega
          · exact ⟨h1, h2⟩
        obtain ⟨rfl, X12⟩ := hor'
        have n12 := (E12 .o (fun _ e => by cases e)).trans n10
        clear hor kO2 E12 hpk2 n10
        obtain ⟨W13, hW13⟩ : ∃ W13, w12.alloc (.cells #[.int .u8 120] 5 (1, 2)) = W13 := ⟨_, rfl⟩
        have hcv := Lib.run_convert_bytes_const (P := Try.prog) w12 22 5 #[.int .u8 120] 1 1 Try.underlying22 Try.underlying5
        have hcv' : (convert 22 22 (.slice (some ⟨w12.heap.size, 0, none⟩) 1 1)).run Try.prog (w12.alloc (.cells #[.int .u8 120] 5)) = .ok (.slice (some ⟨w12.heap.size, 0, none⟩) 1 1) W13 := hcv.trans (by rw [← hW13]; rfl)
        clear hcv
        have he13 : Ext w12 W13 := by rw [← hW13]; exact (Ext.refl w12).alloc _
        have hBx : IsBytes W13 (.slice (some ⟨w12.heap.size, 0, none⟩) 1 1) [120] := by
          refine ⟨_, 1, rfl, Nat.le_refl _, by simp [maxLen], .inr ⟨w12.heap.size, 0, rfl, fun i hi => ?_⟩⟩
          have hi0 : i = 0 := by have : i < 1 := hi; omega
          subst hi0
          rw [← hW13]
          exact cell_newF w12 #[.int .u8 120] 5 (1, 2) 0
        have kW := d_Write_at X12 (S12.ext he13) (HOK.out.fits.mono (by omega)) (nx : Int) (by omega) (by omega) _ [120] hBx
        have hun : D2.unwritable (D2.find (nx : Int)) = 5 := by unfold Ds.unwritable; rw [if_neg hst2, if_pos hf2]
        rw [hun] at kW
        have hrs : D2.reset? (D2.find (nx : Int)) = 5 := by unfold Ds.reset?; rw [if_neg hst2, if_pos hf2]
        have hrs2 : D2.resets (nx : Int) = D2 := by unfold Ds.resets; rw [hrs]; rfl
        have haw : D2.away? = 5 := by unfold Ds.away?; rw [hf2]; rfl
        have haw2 : D2.aways = D2 := by unfold Ds.aways; rw [hf2]; rfl
        have HRS := hide (And.intro hrs (And.intro hrs2 (And.intro haw haw2)))
        clear S12 X12 hBx he13 hun hrs hrs2 haw haw2 hst2
        go_wp2_with fail
        refine kW.mono ?_
        rintro e w14 ⟨own14, S14, E14, hor⟩
        have hor' : e = .returned (.tuple #[.int .i64 0, .int .i64 5]) ∧ EndAt own14 ON.x g D2 := by
          rcases hor with ⟨-, h1, h2⟩ | ⟨h1, -, -⟩
          · exact ⟨h1, h2⟩
          · omega
        obtain ⟨rfl, X14⟩ := hor'
        have n14 := (E14 .o (fun _ e => by cases e)).trans n12
        have kR := d_Reset_at X14 S14 (HOK.out.fits.mono (by omega)) (nx : Int) (by omega) (by omega)
        rw [HRS.out.1, HRS.out.2.1, hc05] at kR
        clear hor kW E14 n12 S14 X14
        go_wp2_with fail
        refine kR.mono ?_
        rintro e w15 ⟨rfl, own15, S15, X15, E15⟩
        have n15 := (E15 .o (fun _ e => by cases e)).trans n14
        have kA := d_Away_at X15 S15 (HOK.out.fits.mono (by omega))
        rw [HRS.out.2.2.1, HRS.out.2.2.2, hc05] at kA
        clear kR E15 n14 S15 X15
        go_wp2_with fail
        refine kA.mono ?_
        rintro e w16 ⟨rfl, own16, S16, X16, E16⟩
        have n16 := (E16 .o (fun _ e => by cases e)).trans n15
        have kI := d_In_at (GoodB 2 3000001) (good_is 2 3000001) X16 S16 _ more (HM.out.ext S16.base) (fun h => by rw [hf2] at h; cases h) (fun h => by rw [hf2] at h; cases h)
        rw [takes_failed D2 more hf2] at kI
        clear kA E16 n15 S16 X16
        go_wp2_with fail
        refine kI.mono ?_
        rintro e w17 ⟨rfl, own17, S17, X17, E17⟩
        have n17 := (E17 .o (fun _ e => by cases e)).trans n16
        have kE2 := d_Events_at X17 S17 .w (fun _ e => by cases e)
        rw [hev2] at kE2
        clear kI E17 n16 S17 X17
        go_wp2_with fail
        refine kE2.mono ?_
        rintro e w18 ⟨vw, own18, rfl, S18, X18, m18, E18⟩
        have n18 := (E18 .o (fun e => by cases e) (fun _ e => by cases e)).trans n17
        obtain ⟨aw, cw, hvw, -, -⟩ := (show OwnAt w18 55 3 vw 0 _ from S18.get m18).slice
        subst hvw
        have hAs := HOK.out.asked
        have kQ := d_Out_at X18 S18 (hAs.outOk (by omega) (by omega)) hAs.ck 1099511627776 (by omega) (by omega) .q (fun _ e => by cases e)
        rw [out_still D2.asked 1099511627776 hct2 hrg2] at kQ
        dsimp only at kQ
        clear kE2 E18 n17 m18 S18 X18 hAs
        go_wp2_with fail
        refine kQ.mono ?_
        rintro e w19 ⟨vq, own19, rfl, S19, X19, m19, E19⟩
        have n19 := (E19 .o (fun e => by cases e) (fun _ e => by cases e)).trans n18
        obtain ⟨aq, cq, hvq, -, -⟩ := (show OwnAt w19 5 1 vq 0 _ from S19.get m19).slice
        subst hvq
        have hso := (show OwnAt w19 5 1 (.slice (some ⟨ao, oo, none⟩) (L + 9) co) (L + 9) _ from S19.get n19)
        obtain ⟨a9, o9, c9, e9, -, -, hcell9⟩ := hso.at (by omega)
        simp only [Value.slice.injEq, Option.some.injEq, Addr.mk.injEq] at e9
        obtain ⟨⟨rfl, rfl, -⟩, -, rfl⟩ := e9
        have hx6 : w19.cell? ⟨ao, oo + (L + 2), none⟩ = some (.int .u8 6) := (hcell9 (L + 2) (by omega)).trans HG6.out
        have hEx : Hid (Ext w w19) := S19.base
        have hge : (0 : Int) ≤ (L : Int) := by omega
        have hLb : (L : Int) ≤ 2000000000 := by omega
        clear kQ E19 n18 n19 m19 S19 X19 hso hcell9
        go_wp2
        go_ret
        exact ⟨by simp, hEx.out⟩
end Go.Proofs.Ytoijpogadkogcaa
