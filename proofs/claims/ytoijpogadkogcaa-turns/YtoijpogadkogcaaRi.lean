/-
  Two streams take turns: the walk.
-/
import Derived.Test.YtoijpogadkogcaaRh
import Derived.Deep.CutRange
namespace Go.Proofs.Ytoijpogadkogcaa
open Go.RowKit
set_option maxRecDepth 100000

theorem ay_open : (Ay 6 6).open? getH = 0 := by
  unfold Ds.open?
  rw [getH_packs]
  rfl
theorem ay_opened : (Ay 6 6).opened getH = Cl 6 6 3 2 146 [3] S1e (some (S3b [])) := by
  have e : (Ay 6 6).opened getH = (Cl 6 6 3 2 146 [] S1e none |>.setS 3 (S3b [])).enter 3 := rfl
  rw [e, cl_setS3]
  rfl
theorem s1_write (D : Bytes) (h0 : 0 < D.length) (h : D.length ≤ 256) : Ds.room S1e D = D.length ∧ (Cl 6 6 3 2 146 [3] S1e (some (S3b []))).write S1e D = Cl 6 6 3 2 146 [3, 1] (sAt true 96 D) (some (S3b [])) := by
  have hr : Ds.room S1e D = D.length := by unfold Ds.room; show min D.length (256 - 0) = _; omega
  refine ⟨hr, ?_⟩
  unfold Ds.write
  rw [hr, if_neg (by omega), List.take_of_length_le (Nat.le_refl _)]
  show ((Cl 6 6 3 2 146 [3] S1e (some (S3b []))).setS 1 (sAt true 96 ([] ++ D))).enter 1 = _
  rw [cl_setS1, List.nil_append]
  rfl
theorem s3_write (D1 D : Bytes) (h0 : 0 < D.length) (h : D.length ≤ 256) : Ds.room (S3b []) D = D.length ∧ (Cl 6 6 3 2 146 [3, 1] (sAt true 96 D1) (some (S3b []))).write (S3b []) D = At D1 D := by
  have hr : Ds.room (S3b []) D = D.length := by unfold Ds.room; show min D.length (256 - 0) = _; omega
  refine ⟨hr, ?_⟩
  unfold Ds.write
  rw [hr, if_neg (by omega), List.take_of_length_le (Nat.le_refl _)]
  show ((Cl 6 6 3 2 146 [3, 1] (sAt true 96 D1) (some (S3b []))).setS 3 (S3b ([] ++ D))).enter 3 = _
  rw [cl_setS3, List.nil_append]
  rfl
theorem ay2_ok (ring : List Nat) (hr : ring.length ≤ 10) (D1 D3 : Bytes) (h1 : D1.length ≤ 256) (h3 : D3.length ≤ 256) : (Cl 6 6 3 2 146 ring (sAt true 96 D1) (some (S3b D3))).Ok 3000000 1 3000010 := by
  refine cl_ok (by omega) (by omega) 3 (by omega) (by omega) 2 146 (by omega) (by omega) (by omega) (by omega) ring hr _ _ (sfits 1 (by omega) true 96 (by omega) (by omega) [] D1 (by simp) h1) rfl (by show (1 : Nat) ≠ 0; omega) rfl (fun s hs => ?_)
  injection hs with hs
  subst hs
  exact ⟨by omega, sfits 3 (by omega) true 100 (by omega) (by omega) getB D3 (packs_enc getH getH_packs).1 h3, rfl, by show (1 : Nat) ≠ 0; omega, rfl⟩
/-- The client before the k-th time. -/
def TSt (R : Nat) (D1 D3 : Bytes) : Nat → Ds → Prop
  | 0, d => d = At D1 D3
  | k + 1, d => RelN d (nAll R k).2
theorem frOf_ok : ∀ (fs : List (Nat × Nat × Nat × Bytes)) (l : List (Bool × Nat)), FrOf fs l → (∀ f ∈ fs, f.1 ≤ 255 ∧ f.2.2.1 ≤ 65535 ∧ f.2.2.2.length ≤ 64) ∧ dlen 1 fs = nsum true l ∧ dlen 3 fs = nsum false l
  | [], [], _ => ⟨fun _ h => (by cases h), rfl, rfl⟩
  | [], _ :: _, h => h.elim
  | _ :: _, [], h => h.elim
  | f :: r, (w, n) :: q, h => by
    obtain ⟨h1, h2, h3, h4, h5, h6⟩ := h
    obtain ⟨i1, i2, i3⟩ := frOf_ok r q h6
    dsimp only at h3 h4 h5
    have hs : f.2.2.1 ≤ 65535 := by rw [h3]; cases w <;> simp [sOf]
    refine ⟨fun g hg => ?_, ?_, ?_⟩
    · rcases List.mem_cons.1 hg with e | e
      · subst e; exact ⟨by omega, hs, by omega⟩
      · exact i1 g e
    · show (if f.1 = 0 ∧ f.2.2.1 = 1 then f.2.2.2.length else 0) + dlen 1 r = (if w = true then n else 0) + nsum true q
      rw [i2, h4, h3, h1]
      cases w <;> simp [sOf]
    · show (if f.1 = 0 ∧ f.2.2.1 = 3 then f.2.2.2.length else 0) + dlen 3 r = (if w = false then n else 0) + nsum false q
      rw [i3, h4, h3, h1]
      cases w <;> simp [sOf]
theorem tst_out {R : Nat} {D1 D3 : Bytes} (h1 : 130 ≤ D1.length) (h2 : D1.length ≤ 256) (h3 : 130 ≤ D3.length) (h4 : D3.length ≤ 256) (hR : 140 ≤ R) (k : Nat) (d : Ds) (h : TSt R D1 D3 k d) :
    ∃ d' fs, d.out (R : Int) = (d', flat fs) ∧ TSt R D1 D3 (k + 1) d' ∧ dlen 1 fs = nsum true (nAll R k).1 ∧ dlen 3 fs = nsum false (nAll R k).1 ∧ (∀ f ∈ fs, f.1 ≤ 255 ∧ f.2.2.1 ≤ 65535 ∧ f.2.2.2.length ≤ 64) ∧ (flat fs).length ≤ R ∧ d.Ok 3000000 1 3000010 := by
  cases k with
  | zero =>
    have h' : d = At D1 D3 := h
    subst h'
    obtain ⟨d', fs, e, r, f, l⟩ := at_out D1 D3 h1 h2 h3 h4 R hR
    obtain ⟨i1, i2, i3⟩ := frOf_ok _ _ f
    refine ⟨d', (1, 2, 3, getB) :: fs, e, r, ?_, ?_, fun g hg => ?_, l, ay2_ok [3, 1] (by simp) D1 D3 h2 h4⟩
    · show (if (1 : Nat) = 0 ∧ (3 : Nat) = 1 then getB.length else 0) + dlen 1 fs = _
      rw [i2]; simp; rfl
    · show (if (1 : Nat) = 0 ∧ (3 : Nat) = 3 then getB.length else 0) + dlen 3 fs = _
      rw [i3]; simp; rfl
    · rcases List.mem_cons.1 hg with e | e
      · subst e; have := getN_le; unfold getN at this; exact ⟨by show 1 ≤ 255; omega, by show 3 ≤ 65535; omega, by show getB.length ≤ 64; omega⟩
      · exact i1 g e
  | succ k =>
    have h' : RelN d (nAll R k).2 := h
    obtain ⟨d', fs, e, r, f, l⟩ := rel_out h' R
    obtain ⟨i1, i2, i3⟩ := frOf_ok _ _ f
    exact ⟨d', fs, e, r, i2, i3, i1, l, h'.ok.1⟩
theorem getH_at (w : World) : IsPairs (w.alloc (.cells #[.string ⟨#[58, 109, 101, 116, 104, 111, 100]⟩, .string ⟨#[71, 69, 84]⟩] 42 (0, 0))) (.slice (some ⟨w.heap.size, 0, none⟩) 1 1) getH := by
  refine ⟨_, 1, rfl, Nat.le_refl _, by simp [maxLen], .inr ⟨w.heap.size, 0, rfl, fun i hi => ?_⟩⟩
  have hi0 : i = 0 := by have : i < 1 := hi; omega
  subst hi0
  exact ⟨cell_newF' w _ 42 (0, 0) 0, cell_newF' w _ 42 (0, 0) 1⟩

set_option maxHeartbeats 6400000 in
theorem turns_any (one two room : Int) (w : World) (h1 : -9223372036854775808 ≤ one) (h2 : one ≤ 9223372036854775807) (h3 : -9223372036854775808 ≤ two) (h4 : two ≤ 9223372036854775807) (h5 : -9223372036854775808 ≤ room) (h6 : room ≤ 9223372036854775807) :
    Calls Try.prog 4 #[.int .i64 one, .int .i64 two, .int .i64 room] w fun e w' => e = .returned (.bool true) ∧ Ext w w' := by
  have kj : Calls Try.prog 11 #[.int .i64 35] w (RJoined w 6 6) := joined_any 35 w (by omega) (by omega) 5 5 rfl rfl
  obtain ⟨p1, p2⟩ := pk_in one 120 (by omega)
  obtain ⟨p3, p4⟩ := pk_in two 120 (by omega)
  obtain ⟨p5, p6⟩ := pk_in room 60 (by omega)
  obtain ⟨n, hn⟩ : ∃ n : Nat, pk one 120 = (n : Int) := ⟨(pk one 120).toNat, by omega⟩
  obtain ⟨m, hm⟩ : ∃ m : Nat, pk two 120 = (m : Int) := ⟨(pk two 120).toNat, by omega⟩
  obtain ⟨r, hr⟩ : ∃ r : Nat, pk room 60 = (r : Int) := ⟨(pk room 60).toNat, by omega⟩
  have kp1 := fun w => pick_is one 120 w h1 h2 (by omega) (by omega)
  have kp2 := fun w => pick_is two 120 w h3 h4 (by omega) (by omega)
  have kp3 := fun w => pick_is room 60 w h5 h6 (by omega) (by omega)
  rw [hn] at kp1
  rw [hm] at kp2
  rw [hr] at kp3
  have hn1 : n < 120 := by omega
  have hm1 : m < 120 := by omega
  have hr1 : r < 60 := by omega
  have HP1 := hide kp1
  have HP2 := hide kp2
  have HP3 := hide kp3
  clear kp1 kp2 kp3 hn hm hr p1 p2 p3 p4 p5 p6 h1 h2 h3 h4 h5 h6
  go_enter Try.func4, Try.ntmps4
  go_wp2_with fail
  refine kj.mono ?_
  rintro e w1 ⟨gl, gx, gy, gs, own1, vu, vd, vl, mh, vh, rfl, S1, -, L1, -, -⟩
  have kp := HP1.out w1
  clear kj
  go_wp2_with fail
  refine kp.mono ?_
  rintro e w0 ⟨rfl, hw⟩
  replace hw := hw.symm
  subst hw
  have kp' := HP2.out w1
  clear kp
  go_wp2_with fail
  refine kp'.mono ?_
  rintro e w0 ⟨rfl, hw⟩
  replace hw := hw.symm
  subst hw
  clear kp'
  have c0 : w1.cell? ⟨gl, 0, none⟩ = some (.pointer (some ⟨gx, 0, none⟩)) := L1.cc S1 0
  have S2 := S1.ext ((Ext.refl w1).alloc (.cells #[.string ⟨#[58, 109, 101, 116, 104, 111, 100]⟩, .string ⟨#[71, 69, 84]⟩] 42 (0, 0)))
  have kO := d_Open_at L1.ex S2 ((ay_ok (a := 6) (b := 6) (by omega) (by omega)).fits.mono (by omega)) rfl _ getH (getH_at w1) (packs_size getH getH_packs)
  rw [ay_open, ay_opened] at kO
  have c3 : (((Ay 6 6).next : Nat) : Int) = 3 := rfl
  rw [c3] at kO
  clear c3 S1 S2
  go_wp2_with fail
  refine kO.mono ?_
  rintro e w2 ⟨own2, S2, E2, hor⟩
  have hor' : e = .returned (.tuple #[.int .i64 3, .int .i64 0]) ∧ EndAt own2 LN.x gx (Cl 6 6 3 2 146 [3] S1e (some (S3b []))) := by
    rcases hor with ⟨-, h1, h2⟩ | ⟨hno, -, -⟩
    · exact ⟨h1, h2⟩
    · exact absurd rfl hno
  obtain ⟨rfl, X2⟩ := hor'
  have L2 := L1.withX X2 (fun n _ _ h => E2 n h)
  clear hor kO E2 X2 L1 c0
  go_upto_region 7 with fail
  have HW1 : Hid (∀ (D : Bytes) (v : Value) (wa : World), D.length = 130 + n → wa.ownsRow w2.drew.heap.size 5 1 v D.length (bcells D) → Ext w2.drew wa → Calls Try.prog 14 #[.pointer (some ⟨gx, 0, none⟩), .int .i64 1, v] wa fun e w' => e = .returned (.tuple #[.int .i64 (130 + (n : Int)), .int .i64 0]) ∧ ∃ own', Sep w w' own' ∧ LinkAt own' gl gx gy (Cl 6 6 3 2 146 [3, 1] (sAt true 96 D) (some (S3b []))) (Bx 6 6 mh) vu vd vl [] [] 1 (lineC 1 true (.slice (some ⟨gs, 0, none⟩) 4 4) 2 false (.slice none 0 0) 0 false false vh) false) := fun D v wa hD how he => by
    have kW := d_Write_at L2.ex (S2.ext ((Ext.refl w2).drew.trans he)) ((ay2_ok [3] (by simp) [] [] (by simp) (by simp)).fits.mono (by omega)) 1 (by omega) (by omega) v D (IsBytes.ofOwns how)
    rw [cl_find1 3 (by omega) _ _ _ _ _ rfl rfl, show (Cl 6 6 3 2 146 [3] S1e (some (S3b []))).unwritable S1e = 0 from rfl, (s1_write D (by omega) (by omega)).1, (s1_write D (by omega) (by omega)).2] at kW
    refine kW.mono ?_
    rintro e w' ⟨own', S', E', hor⟩
    rcases hor with ⟨hno, -, -⟩ | ⟨-, h1, h2⟩
    · exact absurd rfl hno
    · refine ⟨?_, own', S', L2.withX h2 (fun n _ _ h => E' n h)⟩
      rw [h1, hD]
      have : ((130 + n : Nat) : Int) = 130 + (n : Int) := by omega
      rw [this]
  have kb := bytes_any 0 (130 + n) 1 w2.drew (by omega) (by omega) (by omega)
  have e0 : ((0 : Nat) : Int) = 0 := rfl
  have e1 : ((1 : Nat) : Int) = 1 := rfl
  have en : ((130 + n : Nat) : Int) = 130 + (n : Int) := by omega
  rw [e0, e1, en] at kb
  have c0 : w2.cell? ⟨gl, 0, none⟩ = some (.pointer (some ⟨gx, 0, none⟩)) := L2.cc S2 0
  have c0d : w2.drew.cell? ⟨gl, 0, none⟩ = some (.pointer (some ⟨gx, 0, none⟩)) := c0
  clear e0 e1 en S2 L2
  go_cut [12, 13] from 41 to 50 (fun s12 s13 wx => s12 = .int .i64 (130 + (n : Int)) ∧ s13 = .int .i64 0 ∧ ∃ (D : Bytes) (own' : LN → Res), Hid (D.length = 130 + n) ∧ Hid (Sep w wx own') ∧ Hid (LinkAt own' gl gx gy (Cl 6 6 3 2 146 [3, 1] (sAt true 96 D) (some (S3b []))) (Bx 6 6 mh) vu vd vl [] [] 1 (lineC 1 true (.slice (some ⟨gs, 0, none⟩) 4 4) 2 false (.slice none 0 0) 0 false false vh) false))
  case first =>
    go_region_with (first
      | (go_at_call 15; refine kb.mono ?_; rintro e w3 ⟨D, v3, rfl, hD, how3, he3⟩; have c03 := he3.cell c0d; have kW := HW1.out D v3 w3 hD how3 he3; have HD := hide hD; clear hD)
      | (go_at_call 14; refine kW.mono ?_; rintro e w4 ⟨rfl, own4, S4, L4⟩; have HS := hide S4; have HL := hide L4; clear S4 L4))
    all_goals
      go_wp2_with fail
      go_meet
      exact ⟨rfl, rfl, D, own4, HD, HS, HL⟩
  case rest =>
    obtain ⟨rfl, rfl, D1, own4, HD1, HS4, HL4⟩ := hcut
    have HW3 : Hid (∀ (D : Bytes) (v : Value) (wa : World), D.length = 130 + m → wa.ownsRow wc.drew.heap.size 5 1 v D.length (bcells D) → Ext wc.drew wa → Calls Try.prog 14 #[.pointer (some ⟨gx, 0, none⟩), .int .i64 3, v] wa fun e w' => e = .returned (.tuple #[.int .i64 (130 + (m : Int)), .int .i64 0]) ∧ ∃ own', Sep w w' own' ∧ LinkAt own' gl gx gy (At D1 D) (Bx 6 6 mh) vu vd vl [] [] 1 (lineC 1 true (.slice (some ⟨gs, 0, none⟩) 4 4) 2 false (.slice none 0 0) 0 false false vh) false) := fun D v wa hD how he => by
      have kW := d_Write_at HL4.out.ex (HS4.out.ext ((Ext.refl wc).drew.trans he)) ((ay2_ok [3, 1] (by simp) D1 [] (by have := HD1.out; omega) (by simp)).fits.mono (by omega)) 3 (by omega) (by omega) v D (IsBytes.ofOwns how)
      rw [cl_find3 3 (by omega) _ _ _ _ _ rfl rfl, show (Cl 6 6 3 2 146 [3, 1] (sAt true 96 D1) (some (S3b []))).unwritable (S3b []) = 0 from rfl, (s3_write D1 D (by omega) (by omega)).1, (s3_write D1 D (by omega) (by omega)).2] at kW
      refine kW.mono ?_
      rintro e w' ⟨own', S', E', hor⟩
      rcases hor with ⟨hno, -, -⟩ | ⟨-, h1, h2⟩
      · exact absurd rfl hno
      · refine ⟨?_, own', S', HL4.out.withX h2 (fun n _ _ h => E' n h)⟩
        rw [h1, hD]
        have : ((130 + m : Nat) : Int) = 130 + (m : Int) := by omega
        rw [this]
    have kb2 := bytes_any 0 (130 + m) 2 wc.drew (by omega) (by omega) (by omega)
    have e0 : ((0 : Nat) : Int) = 0 := rfl
    have e1 : ((2 : Nat) : Int) = 2 := rfl
    have en : ((130 + m : Nat) : Int) = 130 + (m : Int) := by omega
    rw [e0, e1, en] at kb2
    have c0 : wc.cell? ⟨gl, 0, none⟩ = some (.pointer (some ⟨gx, 0, none⟩)) := HL4.out.cc HS4.out 0
    have c0d : wc.drew.cell? ⟨gl, 0, none⟩ = some (.pointer (some ⟨gx, 0, none⟩)) := c0
    clear e0 e1 en HS4 HL4 HW1 kb
    go_upto_region 8 with fail
    go_cut [14, 15] from 51 to 61 (fun s14 s15 wx => s14 = .int .i64 (130 + (m : Int)) ∧ s15 = .int .i64 0 ∧ ∃ (D : Bytes) (own' : LN → Res), Hid (D.length = 130 + m) ∧ Hid (Sep w wx own') ∧ Hid (LinkAt own' gl gx gy (At D1 D) (Bx 6 6 mh) vu vd vl [] [] 1 (lineC 1 true (.slice (some ⟨gs, 0, none⟩) 4 4) 2 false (.slice none 0 0) 0 false false vh) false))
    case first =>
      go_region_with (first
        | (go_at_call 15; refine kb2.mono ?_; rintro e w3 ⟨D, v3, rfl, hD, how3, he3⟩; have c03 := he3.cell c0d; have kW := HW3.out D v3 w3 hD how3 he3; have HD := hide hD; clear hD)
        | (go_at_call 14; refine kW.mono ?_; rintro e w4 ⟨rfl, own4, S4, L4⟩; have HS := hide S4; have HL := hide L4; clear S4 L4))
      all_goals
        go_wp2_with fail
        go_meet
        exact ⟨rfl, rfl, D, own4, HD, HS, HL⟩
    case rest =>
      obtain ⟨rfl, rfl, D3, own5, HD3, HS5, HL5⟩ := hcut
      clear HW3 kb2 c0 c0d
      go_wp2
      go_loopw [16, 17, 18, 19, 20, 21] (fun s16 s17 s18 _ _ _ wr => ∃ (k f1 f3 : Nat) (d : Ds) (own' : LN → Res), k ≤ 8 ∧ s16 = .int .i64 (f1 : Int) ∧ s17 = .int .i64 (f3 : Int) ∧ s18 = .int .i64 (k : Int) ∧ f1 ≤ 1000 * k ∧ f3 ≤ 1000 * k ∧ Hid (f1 = nTot (140 + r) true k ∧ f3 = nTot (140 + r) false k ∧ TSt (140 + r) D1 D3 k d) ∧ Hid (Sep w wr own') ∧ Hid (LinkAt own' gl gx gy d (Bx 6 6 mh) vu vd vl [] [] 1 (lineC 1 true (.slice (some ⟨gs, 0, none⟩) 4 4) 2 false (.slice none 0 0) 0 false false vh) false)) (fun _ _ s18 _ _ _ _ => 8 - (intOf s18).toNat)
      case atStart => exact ⟨0, 0, 0, At D1 D3, own5, by omega, rfl, rfl, rfl, by omega, by omega, ⟨rfl, rfl, rfl⟩, HS5, HL5⟩
      case round =>
        obtain ⟨k, f1, f3, d, own', hk, rfl, rfl, rfl, hf1, hf3, HT, HS, HL⟩ := hrel
        by_cases hlt : k < 8
        · obtain ⟨d', fs, e, t', n1, n3, hfs, hlen, hok⟩ := tst_out (by have := HD1.out; omega) (by have := HD1.out; omega) (by have := HD3.out; omega) (by have := HD3.out; omega) (by omega) k d HT.out.2.2
          have kO := d_Out_at HL.out.ex (HS.out.ext (Ext.refl wr).drew) (hok.outOk (by omega) (by omega)) hok.ck ((140 + r : Nat) : Int) (by omega) (by omega) .o (fun _ e => by cases e)
          rw [e] at kO
          have er : ((140 + r : Nat) : Int) = 140 + (r : Int) := by omega
          have hwr : IntKind.i64.wrap (140 + (r : Int)) = 140 + (r : Int) := by
            have := wrap_small (140 + r) (by omega)
            rw [er] at this
            exact this
          rw [er, ← hwr] at kO
          dsimp only at kO
          have c0 : wr.cell? ⟨gl, 0, none⟩ = some (.pointer (some ⟨gx, 0, none⟩)) := HL.out.cc HS.out 0
          have c0d : wr.drew.cell? ⟨gl, 0, none⟩ = some (.pointer (some ⟨gx, 0, none⟩)) := c0
          have hlt' : (k : Int) < 8 := by omega
          have HFS := hide hfs
          have d1 := dlen_le 1 fs
          have d3 := dlen_le 3 fs
          have HN : Hid (f1 + dlen 1 fs = nTot (140 + r) true (k + 1) ∧ f3 + dlen 3 fs = nTot (140 + r) false (k + 1) ∧ TSt (140 + r) D1 D3 (k + 1) d') := ⟨by rw [HT.out.1, n1]; rfl, by rw [HT.out.2.1, n3]; rfl, t'⟩
          clear e er hok n1 n3 t' hfs HS5 HL5 hwr
          go_wp2_with fail
          go_region_with (first
            | (go_at_call 12; refine (HP3.out _).mono ?_; rintro e w0 ⟨rfl, hw⟩; replace hw := hw.symm; subst hw)
            | (go_at_call 16; refine kO.mono ?_; rintro e w6 ⟨vo, own6, rfl, S6, X6, n6, E6⟩))
          all_goals
            have hO6 := (show OwnAt w6 5 1 vo (flat fs).length (bcells (flat fs)) from S6.get n6)
            have hB6 := OwnAt.isBytes hO6
            have HS6 := hide S6
            have HL6 := hide (HL.out.withX X6 (fun n _ ho h => E6 n ho h))
            have kl1 := lengths_any vo fs 1 w6 hB6 HFS.out (by omega)
            have hc1 : ((1 : Nat) : Int) = 1 := rfl
            rw [hc1] at kl1
            obtain ⟨ao, co, hvo, -, -⟩ := hO6.slice
            subst hvo
            clear S6 X6 n6 E6 hO6 kO hc1
            go_wp2_with fail
            refine kl1.mono ?_
            rintro e w7 ⟨rfl, he7⟩
            have kl3 := lengths_any _ fs 3 w7 (hB6.ext he7) HFS.out (by omega)
            have hc3 : ((3 : Nat) : Int) = 3 := rfl
            rw [hc3] at kl3
            have HS7 := hide (HS6.out.ext he7)
            clear kl1 hc3 he7 HS6 hB6
            go_wp2_with fail
            refine kl3.mono ?_
            rintro e w8 ⟨rfl, he8⟩
            have HS8 := hide (HS7.out.ext he8)
            clear kl3 he8 HS7
            generalize dlen 1 fs = x1 at *
            generalize dlen 3 fs = x3 at *
            have z1 : decide ((x1 : Int) < 0) = false := by simp
            have z3 : decide ((x3 : Int) < 0) = false := by simp
            go_wp2
            go_roundw
            case rel => exact ⟨k + 1, f1 + x1, f3 + x3, d', own6, by omega, by go_num, by go_num, by go_num, by omega, by omega, HN, HS8, HL6⟩
            case measure => simp [intOf]; omega
        · have hk8 : k = 8 := by omega
          have hlt' : decide ((k : Int) < 8) = false := by simp; omega
          obtain ⟨t1, t2, t3, t4, t5⟩ := nTot_ok r hr1
          have HF : Hid (f1 = nTot (140 + r) true 8 ∧ f3 = nTot (140 + r) false 8) := by
            have := HT.out
            rw [hk8] at this
            exact ⟨this.1, this.2.1⟩
          obtain ⟨e1, e2⟩ := HF.out
          have b1 : (((f1 : Int) + (f3 : Int)) == 146) = true := by rw [beq_iff_eq]; omega
          have b2 : decide ((f1 : Int) ≤ 100) = true := by simp; omega
          have b3 : decide ((f3 : Int) ≤ 100) = true := by simp; omega
          have b4 : decide ((f1 : Int) - (f3 : Int) ≤ 64) = true := by simp; omega
          have b5 : decide ((f3 : Int) - (f1 : Int) ≤ 64) = true := by simp; omega
          have HEX : Hid (Ext w wr) := HS.out.base
          clear hk8 t1 t2 t3 t4 t5 e1 e2
          go_wp2
          go_ret
          exact ⟨rfl, HEX.out⟩
end Go.Proofs.Ytoijpogadkogcaa
