/-
  Some bytes; the lengths of frames of data.
-/
import Derived.Test.YtoijpogadkogcaaRg
import Derived.Test.YtoijpogadkogcaaQw
import Derived.Lib.SlBytesConst
import Derived.BigQuiet
namespace Go.Proofs.Ytoijpogadkogcaa
open Go.RowKit
set_option maxRecDepth 100000

theorem Try.infoLine : (Try.prog.info? 65).map (fun i => (i.zero, i.size, i.bytes)) = some (some (.agg #[.int .i64 0, .bool false, .slice none 0 0, .int .i64 0, .bool false, .slice none 0 0, .int .i64 0, .bool false, .bool false, .slice none 0 0]), 10, 128) := by kernel_rfl
theorem Try.underlying37 : Try.prog.underlying 37 = some (.slice 65) := by kernel_rfl
/-- Which of so many. -/
def pk (c m : Int) : Int := if c < 0 then -((c + 1).tmod m) else c % m
theorem pk_in (c m : Int) (hm : 0 < m) : 0 ≤ pk c m ∧ pk c m < m := by
  unfold pk
  split
  · rename_i h; exact neg_tmod_is c m h hm
  · exact ⟨Int.emod_nonneg _ (by omega), Int.emod_lt_of_pos _ hm⟩
set_option maxHeartbeats 800000 in
theorem pick_is (c m : Int) (w : World) (hc1 : -9223372036854775808 ≤ c) (hc2 : c ≤ 9223372036854775807) (hm1 : 0 < m) (hm2 : m ≤ 9223372036854775807) :
    Calls Try.prog 12 #[.int .i64 c, .int .i64 m] w fun e w' => e = .returned (.int .i64 (pk c m)) ∧ w' = w := by
  by_cases h : c < 0
  · have e : pk c m = -((c + 1).tmod m) := by unfold pk; rw [if_pos h]
    rw [e]
    go_enter Try.func12, Try.ntmps12
    go_wp2
    go_ret
    exact ⟨rfl, rfl⟩
  · have e : pk c m = c % m := by unfold pk; rw [if_neg h]
    rw [e]
    go_enter Try.func12, Try.ntmps12
    go_wp2
    go_ret
    exact ⟨rfl, rfl⟩
/-- A line, by its cells. -/
def lineC (id : Int) (byA : Bool) (cs : Value) (cr : Int) (ce : Bool) (ss : Value) (sr : Int) (se rs : Bool) (vh : Value) : List Value := [.int .i64 id, .bool byA, cs, .int .i64 cr, .bool ce, ss, .int .i64 sr, .bool se, .bool rs, vh]
/-- What joined answers. -/
def RJoined (wb : World) (a b : Nat) (e : Ending) (w' : World) : Prop :=
  ∃ gl gx gy gs own vu vd vl m vh, e = .returned (.pointer (some ⟨gl, 0, none⟩)) ∧ Sep wb w' own ∧ packs m = true ∧ LinkAt own gl gx gy (Ay a b) (Bx a b m) vu vd vl [] [] 1 (lineC 1 true (.slice (some ⟨gs, 0, none⟩) 4 4) 2 false (.slice none 0 0) 0 false false vh) false ∧ own (.e 0) = .row 42 2 vh m.length (pcells m) ∧ own (.e 1) = .obj gs (.cells #[.int .u8 119, .int .u8 111, .int .u8 114, .int .u8 100] 5 (4, 5))
theorem LN.xi : ∀ a b : DN, LN.x a = LN.x b → a = b := fun _ _ e => by injection e
theorem LN.yi : ∀ a b : DN, LN.y a = LN.y b → a = b := fun _ _ e => by injection e
theorem sep_noneL (w : World) : Sep w w (fun _ : LN => Res.none) := ⟨Ext.refl w, fun _ => trivial, fun _ _ _ h => h.elim, fun _ _ h => h.elim⟩
theorem OwnAt.isPairs {w : World} {T : Nat} {v : Value} {m : Hdrs} (h : OwnAt w T 2 v m.length (pcells m)) : IsPairs w v m := by
  rcases h.2 with ⟨rfl, h0⟩ | ⟨g, o, cap, cur, rfl, hg, h3, h4, h5, h6⟩
  · have : m = [] := List.length_eq_zero_iff.1 h0
    subst this
    exact IsPairs.nil w
  · refine ⟨_, cap, rfl, h3, h4, .inr ⟨g, o, rfl, fun i hi => ?_⟩⟩
    have hc : ∀ j, j < m.length * 2 → w.cell? ⟨g, o + j, none⟩ = (pcells m)[j]? := fun j hj => by
      rw [← h6, List.getElem?_take, if_pos hj, List.getElem?_drop, Array.getElem?_toList]
      simp [World.cell?, hg]
    have e1 := hc (i * 2) (by omega)
    have e2 := hc (i * 2 + 1) (by omega)
    rw [← Nat.add_assoc] at e2
    exact ⟨e1.trans (pcells_at m i hi).1, e2.trans (pcells_at m i hi).2⟩

theorem tdiv6 (x : Int) (h1 : -9223372036854775808 ≤ x) (h2 : x ≤ 9223372036854775807) : -9223372036854775808 ≤ x.tdiv 6 ∧ x.tdiv 6 ≤ 9223372036854775807 := by
  by_cases h : 0 ≤ x
  · rw [Int.tdiv_eq_ediv_of_nonneg h]; omega
  · have e : x.tdiv 6 = -((-x).tdiv 6) := by rw [Int.neg_tdiv]; omega
    rw [e, Int.tdiv_eq_ediv_of_nonneg (by omega)]; omega
theorem owns_fresh {w : World} {base : Nat} {e : TypeId} {size n : Nat} {v : Value} {xs : List Value} (h : w.ownsRow base e size v n xs) (b : Nat) (hb : v.ownBlock = some b) : base ≤ b := by
  rcases h.2 with ⟨rfl, -⟩ | ⟨g, cap, cur, rfl, hg, -⟩
  · simp [Value.ownBlock] at hb
  · simp only [Value.ownBlock, Option.some.injEq] at hb
    omega
section
variable {own own' : LN → Res} {gl gx gy : Nat} {dx dy d' : Ds} {vu vd vl : Value} {up down : Bytes} {nl : Nat} {xs : List Value} {lv : Bool}
theorem LinkAt.alike (h : LinkAt own gl gx gy dx dy vu vd vl up down nl xs lv) (e : ∀ n, (∀ k, n ≠ .e k) → n ≠ .o → own' n = own n) : LinkAt own' gl gx gy dx dy vu vd vl up down nl xs lv :=
  ⟨h.ex.alike (fun x => e (.x x) (fun _ e => by cases e) (fun e => by cases e)), h.ey.alike (fun x => e (.y x) (fun _ e => by cases e) (fun e => by cases e)), (e .link (fun _ e => by cases e) (fun e => by cases e)).trans h.lk, (e .up (fun _ e => by cases e) (fun e => by cases e)).trans h.nu, (e .down (fun _ e => by cases e) (fun e => by cases e)).trans h.nd, (e .lines (fun _ e => by cases e) (fun e => by cases e)).trans h.nl⟩
/-- Another client. -/
theorem LinkAt.withX (h : LinkAt own gl gx gy dx dy vu vd vl up down nl xs lv) (X : EndAt own' LN.x gx d') (e : ∀ n, (∀ k, n ≠ .e k) → n ≠ .o → (∀ x, n ≠ .x x) → own' n = own n) : LinkAt own' gl gx gy d' dy vu vd vl up down nl xs lv :=
  ⟨X, h.ey.alike (fun x => e (.y x) (fun _ e => by cases e) (fun e => by cases e) (fun _ e => by cases e)), (e .link (fun _ e => by cases e) (fun e => by cases e) (fun _ e => by cases e)).trans h.lk, (e .up (fun _ e => by cases e) (fun e => by cases e) (fun _ e => by cases e)).trans h.nu, (e .down (fun _ e => by cases e) (fun e => by cases e) (fun _ e => by cases e)).trans h.nd, (e .lines (fun _ e => by cases e) (fun e => by cases e) (fun _ e => by cases e)).trans h.nl⟩
theorem LinkAt.withY (h : LinkAt own gl gx gy dx dy vu vd vl up down nl xs lv) (Y : EndAt own' LN.y gy d') (e : ∀ n, (∀ k, n ≠ .e k) → n ≠ .o → (∀ x, n ≠ .y x) → own' n = own n) : LinkAt own' gl gx gy dx d' vu vd vl up down nl xs lv :=
  ⟨h.ex.alike (fun x => e (.x x) (fun _ e => by cases e) (fun e => by cases e) (fun _ e => by cases e)), Y, (e .link (fun _ e => by cases e) (fun e => by cases e) (fun _ e => by cases e)).trans h.lk, (e .up (fun _ e => by cases e) (fun e => by cases e) (fun _ e => by cases e)).trans h.nu, (e .down (fun _ e => by cases e) (fun e => by cases e) (fun _ e => by cases e)).trans h.nd, (e .lines (fun _ e => by cases e) (fun e => by cases e) (fun _ e => by cases e)).trans h.nl⟩
end
theorem src_line {P : Program} (w : World) {t e' : TypeId} (e : TypeId) (ht : P.underlying t = some (.slice e')) (id : Int) (byA : Bool) (r : Option Addr) (n k : Nat) : Src P 10 t (.slice (some ⟨w.heap.size, 0, none⟩) 1 1) 1 (lineC id byA (.slice none 0 0) 0 false (.slice none 0 0) 0 false false (.slice r n k)) (w.alloc (.cells #[.int .i64 id, .bool byA, .slice none 0 0, .int .i64 0, .bool false, .slice none 0 0, .int .i64 0, .bool false, .bool false, .slice r n k] e)) :=
  Src.ofSlice (w.alloc (.cells #[.int .i64 id, .bool byA, .slice none 0 0, .int .i64 0, .bool false, .slice none 0 0, .int .i64 0, .bool false, .bool false, .slice r n k] e)) ht ⟨w.heap.size, 0, none⟩ 1 1 (lineC id byA (.slice none 0 0) 0 false (.slice none 0 0) 0 false false (.slice r n k)) rfl (fun j x hj => by
    unfold lineC at hj
    match j, hj with
    | 0, hj => simp at hj; subst hj; simp [Addr.add]
    | 1, hj => simp at hj; subst hj; simp [Addr.add]
    | 2, hj => simp at hj; subst hj; simp [Addr.add]
    | 3, hj => simp at hj; subst hj; simp [Addr.add]
    | 4, hj => simp at hj; subst hj; simp [Addr.add]
    | 5, hj => simp at hj; subst hj; simp [Addr.add]
    | 6, hj => simp at hj; subst hj; simp [Addr.add]
    | 7, hj => simp at hj; subst hj; simp [Addr.add]
    | 8, hj => simp at hj; subst hj; simp [Addr.add]
    | 9, hj => simp at hj; subst hj; simp [Addr.add]) (fun x hx => by simp [lineC] at hx; rcases hx with rfl | rfl | rfl | rfl | rfl | rfl | rfl | rfl | rfl <;> rfl)

theorem OwnAt.thawL {w : World} {T sz n a o cap : Nat} {xs : List Value} (h : OwnAt w T sz (.slice (some ⟨a, o, none⟩) n cap) n xs) (x : Nat) : w.frozen? ⟨a, x, none⟩ = false := by
  rcases h.2 with ⟨h1, -⟩ | ⟨g, o', cap', cur, h1, hg, -⟩
  · cases h1
  · simp only [Value.slice.injEq, Option.some.injEq, Addr.mk.injEq] at h1
    obtain ⟨⟨rfl, -, -⟩, -, -⟩ := h1
    simp [World.frozen?, hg]
theorem OwnAt.readL {w : World} {T sz n a o cap : Nat} {xs : List Value} (h : OwnAt w T sz (.slice (some ⟨a, o, none⟩) n cap) n xs) (j : Nat) (hj : j < n * sz) : w.cell? ⟨a, o + j, none⟩ = xs[j]? := by
  obtain ⟨g, o', cap', e, -, -, hc⟩ := h.at (by
    rcases Nat.eq_zero_or_pos n with h0 | h0
    · rw [h0] at hj; omega
    · exact h0)
  simp only [Value.slice.injEq, Option.some.injEq, Addr.mk.injEq] at e
  obtain ⟨⟨rfl, rfl, -⟩, -, -⟩ := e
  exact hc j hj
section
variable {own own' : LN → Res} {gl gx gy : Nat} {dx dy d' : Ds} {vu vd : Value} {up down : Bytes} {nl al ol cl : Nat} {xs : List Value} {lv : Bool} {wb w : World}
/-- A cell of a line is written. -/
theorem LinkAt.setLine (h : LinkAt own gl gx gy dx dy vu vd (.slice (some ⟨al, ol, none⟩) nl cl) up down nl xs lv) (hs : Sep wb w own) (j : Nat) (u : Value) : ∃ own', Sep wb (w.setCell ⟨al, ol + j, none⟩ u) own' ∧ LinkAt own' gl gx gy dx dy vu vd (.slice (some ⟨al, ol, none⟩) nl cl) up down nl (xs.set j u) lv ∧ ∀ k, own' (.e k) = own (.e k) :=
  ⟨_, hs.setRow h.nl j u, ⟨h.ex.updO (fun _ e => by cases e) _, h.ey.updO (fun _ e => by cases e) _, (upd_ne _ _ (fun e => by cases e)).trans h.lk, (upd_ne _ _ (fun e => by cases e)).trans h.nu, (upd_ne _ _ (fun e => by cases e)).trans h.nd, upd_at _ _ _⟩, fun k => upd_ne _ _ (fun e => by cases e)⟩
theorem LinkAt.line (h : LinkAt own gl gx gy dx dy vu vd (.slice (some ⟨al, ol, none⟩) nl cl) up down nl xs lv) (hs : Sep wb w own) (j : Nat) (hj : j < nl * 10) : w.cell? ⟨al, ol + j, none⟩ = xs[j]? ∧ w.frozen? ⟨al, ol + j, none⟩ = false :=
  ⟨OwnAt.readL (show OwnAt w 65 10 _ nl xs from hs.get h.nl) j hj, OwnAt.thawL (show OwnAt w 65 10 _ nl xs from hs.get h.nl) _⟩
end
theorem cell_newF' (w : World) (cs : Array Value) (T : TypeId) (f : Nat × Nat) (k : Nat) : (w.alloc (.cells cs T f)).cell? ⟨w.heap.size, k, none⟩ = cs[k]? := by
  have h2 := heap_alloc_new w (.cells cs T f)
  unfold World.cell?
  rw [h2]
  rfl
theorem word_at (w : World) (W : World) (hW : w.alloc (.cells #[.int .u8 119, .int .u8 111, .int .u8 114, .int .u8 100] 5 (4, 5)) = W) : IsBytes W (.slice (some ⟨w.heap.size, 0, none⟩) 4 4) word := by
  refine ⟨_, 4, rfl, Nat.le_refl _, by simp [maxLen], .inr ⟨w.heap.size, 0, rfl, fun i hi => ?_⟩⟩
  have hi4 : i < 4 := hi
  rw [← hW]
  match i, hi4 with
  | 0, _ => exact cell_newF' w #[.int .u8 119, .int .u8 111, .int .u8 114, .int .u8 100] 5 (4, 5) 0
  | 1, _ => exact cell_newF' w #[.int .u8 119, .int .u8 111, .int .u8 114, .int .u8 100] 5 (4, 5) 1
  | 2, _ => exact cell_newF' w #[.int .u8 119, .int .u8 111, .int .u8 114, .int .u8 100] 5 (4, 5) 2
  | 3, _ => exact cell_newF' w #[.int .u8 119, .int .u8 111, .int .u8 114, .int .u8 100] 5 (4, 5) 3
theorem conv_word (w W : World) (hW : w.alloc (.cells #[.int .u8 119, .int .u8 111, .int .u8 114, .int .u8 100] 5 (4, 5)) = W) : (convert 22 22 (.slice (some ⟨w.heap.size, 0, none⟩) 4 4)).run Try.prog (w.alloc (.cells #[.int .u8 119, .int .u8 111, .int .u8 114, .int .u8 100] 5)) = .ok (.slice (some ⟨w.heap.size, 0, none⟩) 4 4) W :=
  (Lib.run_convert_bytes_const (P := Try.prog) w 22 5 #[.int .u8 119, .int .u8 111, .int .u8 114, .int .u8 100] 4 4 Try.underlying22 Try.underlying5).trans (by rw [← hW]; rfl)
set_option maxHeartbeats 6400000 in
theorem joined_any (streams : Int) (w : World) (h1 : -9223372036854775808 ≤ streams) (h2 : streams ≤ 9223372036854775807) (na nb : Nat) (ha : pk streams 6 = (na : Int)) (hb : pk (streams.tdiv 6) 6 = (nb : Int)) :
    Calls Try.prog 11 #[.int .i64 streams] w (RJoined w (1 + na) (1 + nb)) := by
  obtain ⟨i0, hi0, hz0, hz1, hz2⟩ := info_parts' Try.infoLine
  have pa := pk_in streams 6 (by omega)
  have pb := pk_in (streams.tdiv 6) 6 (by omega)
  obtain ⟨hd1, hd2⟩ := tdiv6 streams h1 h2
  have kp := pick_is streams 6 w h1 h2 (by omega) (by omega)
  have hna : na ≤ 5 := by omega
  have hnb : nb ≤ 5 := by omega
  rw [ha] at kp
  have kx := d_New_at (nm := LN.x) LN.xi (fun _ => rfl) (sep_noneL w) true (1 + na) (by omega)
  have ca : ((1 + na : Nat) : Int) = 1 + (na : Int) := by omega
  have cb : ((1 + nb : Nat) : Int) = 1 + (nb : Int) := by omega
  rw [ca] at kx
  have HB := hide hb
  have CB := hide cb
  clear ha hb ca cb pa pb
  go_enter Try.func11, Try.ntmps11
  go_wp2_with fail
  refine kp.mono ?_
  rintro e w0 ⟨rfl, hw⟩
  replace hw := hw.symm
  subst hw
  go_wp2_with fail
  refine kx.mono ?_
  rintro e w1 ⟨gx, own1, rfl, S1, X1, E1⟩
  have kp2 := pick_is (streams.tdiv 6) 6 w1 hd1 hd2 (by omega) (by omega)
  rw [HB.out] at kp2
  have ky := d_New_at (nm := LN.y) LN.yi (fun x => E1 (.y x) (fun _ e => by cases e)) S1 false (1 + nb) (by omega)
  rw [CB.out] at ky
  clear kx kp
  go_wp2_with fail
  refine kp2.mono ?_
  rintro e w0 ⟨rfl, hw⟩
  replace hw := hw.symm
  subst hw
  clear S1 kp2
  go_wp2_with fail
  refine ky.mono ?_
  rintro e w2 ⟨gy, own2, rfl, S2, Y2, E2⟩
  have X2 := X1.alike (fun x => E2 (.x x) (fun _ e => by cases e))
  have S3 := (((S2.addObj .link (.cells #[.pointer (some ⟨gx, 0, none⟩), .pointer (some ⟨gy, 0, none⟩), .slice none 0 0, .slice none 0 0, .slice none 0 0, .bool false] 39 (0, 0))).nilRow .up 5 1).nilRow .down 5 1).nilRow .lines 65 10
  obtain ⟨own3, hown3⟩ : ∃ own3, upd (upd (upd (upd own2 .link (.obj w2.heap.size (.cells #[.pointer (some ⟨gx, 0, none⟩), .pointer (some ⟨gy, 0, none⟩), .slice none 0 0, .slice none 0 0, .slice none 0 0, .bool false] 39 (0, 0)))) .up (.row 5 1 (.slice none 0 0) 0 [])) .down (.row 5 1 (.slice none 0 0) 0 [])) .lines (.row 65 10 (.slice none 0 0) 0 []) = own3 := ⟨_, rfl⟩
  rw [hown3] at S3
  have L3 : LinkAt own3 w2.heap.size gx gy (Ds.new true (1 + na)) (Ds.new false (1 + nb)) (.slice none 0 0) (.slice none 0 0) (.slice none 0 0) [] [] 0 [] false := by
    subst hown3
    refine ⟨?_, ?_, ?_, ?_, ?_, ?_⟩
    · exact (((X2.updO (fun _ e => by cases e) _).updO (fun _ e => by cases e) _).updO (fun _ e => by cases e) _).updO (fun _ e => by cases e) _
    · exact (((Y2.updO (fun _ e => by cases e) _).updO (fun _ e => by cases e) _).updO (fun _ e => by cases e) _).updO (fun _ e => by cases e) _
    · rw [upd_ne _ _ (fun e => by cases e), upd_ne _ _ (fun e => by cases e), upd_ne _ _ (fun e => by cases e), upd_at]
    · rw [upd_ne _ _ (fun e => by cases e), upd_ne _ _ (fun e => by cases e), upd_at]; rfl
    · rw [upd_ne _ _ (fun e => by cases e), upd_at]; rfl
    · rw [upd_at]
  obtain ⟨p5, pg⟩ := settle1 (a := 1 + na) (b := 1 + nb) (R := 1099511627776) (by omega) (by omega) rfl
  have ks := k_settle_any L3 S3 1099511627776 rfl pg
  rw [p5] at ks
  dsimp only at ks
  clear ky S2 X1 Y2 E1 E2 X2 L3 S3 p5 pg hown3
  go_wp2_with fail
  refine ks.mono ?_
  rintro e w4 ⟨rfl, own4, vu4, vd4, S4, L4, -⟩
  have kh := headers_any streams w4 h1 h2
  clear ks
  go_wp2_with fail
  refine kh.mono ?_
  rintro e w5 ⟨m, vh, rfl, hpk, how, he5⟩
  have hP := IsPairs.ofOwns how
  have S5 := S4.add (.e 0) he5 (OwnAt.ofOwns how) (owns_fresh how)
  have L5 : LinkAt (upd own4 (.e 0) (.row 42 2 vh m.length (pcells m))) w2.heap.size gx gy (Az (1 + na) (1 + nb)) (Bz (1 + na) (1 + nb)) vu4 vd4 (.slice none 0 0) [] [] 0 [] false := L4.alike (fun n h _ => upd_ne _ _ (h 0))
  have q5 : upd own4 (.e 0) (.row 42 2 vh m.length (pcells m)) (.e 0) = .row 42 2 vh m.length (pcells m) := upd_at _ _ _
  obtain ⟨own5, hown5⟩ : ∃ own5, upd own4 (.e 0) (.row 42 2 vh m.length (pcells m)) = own5 := ⟨_, rfl⟩
  rw [hown5] at S5 L5 q5
  have AOK : (Az (1 + na) (1 + nb)).Ok 3000000 1 3000010 := zok true (1 + nb) (1 + na) (by omega) (by omega) [] (by simp) (fun f hf => by cases hf)
  have kO := d_Open_at L5.ex S5 (AOK.fits.mono (by omega)) rfl vh m hP (packs_size m hpk)
  rw [az_open (by omega) hpk, az_opened] at kO
  have c1 : (((Az (1 + na) (1 + nb)).next : Nat) : Int) = 1 := rfl
  rw [c1] at kO
  obtain ⟨ah, ch, hvh, -, -, -⟩ := hP
  subst hvh
  clear c1 AOK hown5 how he5 kh S4 L4 S5
  go_wp2_with fail
  refine kO.mono ?_
  rintro e w6 ⟨own6, S6, E6, hor⟩
  have hor' : e = .returned (.tuple #[.int .i64 1, .int .i64 0]) ∧ EndAt own6 LN.x gx (Cl (1 + na) (1 + nb) 1 1 150 [1] (S1b m []) none) := by
    rcases hor with ⟨-, h1, h2⟩ | ⟨hno, -, -⟩
    · exact ⟨h1, h2⟩
    · exact absurd rfl hno
  obtain ⟨rfl, X6⟩ := hor'
  have L6 := L5.withX X6 (fun n _ _ h => E6 n h)
  have q6 := (E6 (.e 0) (fun _ e => by cases e)).trans q5
  obtain ⟨W7, hW7⟩ : ∃ W7, w6.alloc (.cells #[.int .i64 1, .bool true, .slice none 0 0, .int .i64 0, .bool false, .slice none 0 0, .int .i64 0, .bool false, .bool false, .slice ah m.length ch] 65 (0, 0)) = W7 := ⟨_, rfl⟩
  have S7 : Sep w W7 own6 := by rw [← hW7]; exact S6.ext ((Ext.refl w6).alloc _)
  have hsrc := src_line (P := Try.prog) w6 65 Try.underlying37 1 true ah m.length ch
  rw [hW7] at hsrc
  have c4 : w6.cell? ⟨w2.heap.size, 4, none⟩ = some (.slice none 0 0) := L6.cc S6 4
  have HST : Hid (∀ (v3 : Value) (w3 : World), OwnAt w3 65 10 v3 1 (lineC 1 true (.slice none 0 0) 0 false (.slice none 0 0) 0 false false (.slice ah m.length ch)) → Grew W7 (.slice none 0 0) w3 v3 → (w3.cell? ⟨w2.heap.size, 4, none⟩ = some (.slice none 0 0) ∧ w3.frozen? ⟨w2.heap.size, 4, none⟩ = false) ∧ ∃ own3, Sep w (w3.setCell ⟨w2.heap.size, 4, none⟩ v3) own3 ∧ LinkAt own3 w2.heap.size gx gy (Cl (1 + na) (1 + nb) 1 1 150 [1] (S1b m []) none) (Bz (1 + na) (1 + nb)) vu4 vd4 v3 [] [] 1 (lineC 1 true (.slice none 0 0) 0 false (.slice none 0 0) 0 false false (.slice ah m.length ch)) false ∧ ∀ k, own3 (.e k) = own6 (.e k)) := fun v3 w3 hO3 hG3 => by
    have S3 := S7.grew L6.nl hG3 hO3
    have lk3 := (upd_ne own6 (.row 65 10 v3 1 (lineC 1 true (.slice none 0 0) 0 false (.slice none 0 0) 0 false false (.slice ah m.length ch))) (show LN.link ≠ .lines from fun e => by cases e)).trans L6.lk
    refine ⟨⟨S3.cell lk3 4, S3.thaw lk3 4⟩, _, S3.setObj lk3 4 v3, ⟨?_, ?_, ?_, ?_, ?_, ?_⟩, fun k => ?_⟩
    · exact (L6.ex.updO (fun _ e => by cases e) _).updO (fun _ e => by cases e) _
    · exact (L6.ey.updO (fun _ e => by cases e) _).updO (fun _ e => by cases e) _
    · rw [upd_at]; rfl
    · rw [upd_ne _ _ (fun e => by cases e), upd_ne _ _ (fun e => by cases e)]; exact L6.nu
    · rw [upd_ne _ _ (fun e => by cases e), upd_ne _ _ (fun e => by cases e)]; exact L6.nd
    · rw [upd_ne _ _ (fun e => by cases e), upd_at]
    · rw [upd_ne _ _ (fun e => by cases e), upd_ne _ _ (fun e => by cases e)]
  clear hor kO E6 X6 L5 q5 L6 S6 S7 h1 h2 hd1 hd2 HB CB
  go_wp2_with (at_builtin; refine wpList_append_at _ rfl (.tmp 71) (.tmp 74) 37 37 rfl 65 i0 (.agg #[.int .i64 0, .bool false, .slice none 0 0, .int .i64 0, .bool false, .slice none 0 0, .int .i64 0, .bool false, .bool false, .slice none 0 0]) 10 128 Try.underlying37 hi0 hz0 hz1 hz2 rfl _ _ _ rfl (OwnAt.nil W7 65 10) _ _ _ rfl hsrc ?_ ?_ ?_)
  · unfold maxLen; omega
  · omega
  intro v8 w8 hO8 hG8
  have hO9 := cut_len (m := 1) (ys := lineC 1 true (.slice none 0 0) 0 false (.slice none 0 0) 0 false false (.slice ah m.length ch)) hO8 (by omega) (List.nil_append _)
  obtain ⟨⟨c4', t4'⟩, own9, S9, L9, e9⟩ := HST.out v8 w8 hO9 hG8
  obtain ⟨al, ol, cl, hvl, -, -, -⟩ := hO9.at (by omega)
  subst hvl
  have q9 := (e9 0).trans q6
  clear hO8 hO9 hG8 hsrc HST hW7 c4 q6
  obtain ⟨W9, hW9⟩ : ∃ W9, w8.setCell ⟨w2.heap.size, 4, none⟩ (.slice (some ⟨al, ol, none⟩) 1 cl) = W9 := ⟨_, rfl⟩
  rw [hW9] at S9
  obtain ⟨W10, hW10⟩ : ∃ W10, W9.alloc (.cells #[.int .u8 119, .int .u8 111, .int .u8 114, .int .u8 100] 5 (4, 5)) = W10 := ⟨_, rfl⟩
  have hcv := conv_word W9 W10 hW10
  have S10 : Sep w W10 own9 := by rw [← hW10]; exact S9.ext ((Ext.refl W9).alloc _)
  have AOK := aw_ok (a := 1 + na) (b := 1 + nb) (by omega) (by omega) hpk [] (by simp)
  have kW := d_Write_at L9.ex S10 (AOK.fits.mono (by omega)) 1 (by omega) (by omega) _ word (word_at W9 W10 hW10)
  rw [cl_find1 1 (by omega) _ _ _ _ _ rfl rfl, aw_is.1, (aw_is (a := 1) (b := 1)).2.1, aw_is.2.2] at kW
  have c4n : ((4 : Nat) : Int) = 4 := rfl
  rw [c4n] at kW
  clear c4n AOK S9 S10 hW10
  go_wp2_with fail
  refine kW.mono ?_
  rintro e w11 ⟨own11, S11, E11, hor⟩
  have hor' : e = .returned (.tuple #[.int .i64 4, .int .i64 0]) ∧ EndAt own11 LN.x gx (Cl (1 + na) (1 + nb) 1 1 150 [1] (S1b m word) none) := by
    rcases hor with ⟨hno, -, -⟩ | ⟨-, h1, h2⟩
    · exact absurd rfl hno
    · exact ⟨h1, h2⟩
  obtain ⟨rfl, X11⟩ := hor'
  have L11 := L9.withX X11 (fun n _ _ h => E11 n h)
  have q11 := (E11 (.e 0) (fun _ e => by cases e)).trans q9
  have c4 : w11.cell? ⟨w2.heap.size, 4, none⟩ = some (.slice (some ⟨al, ol, none⟩) 1 cl) := L11.cc S11 4
  obtain ⟨W12, hW12⟩ : ∃ W12, w11.alloc (.cells #[.int .u8 119, .int .u8 111, .int .u8 114, .int .u8 100] 5 (4, 5)) = W12 := ⟨_, rfl⟩
  have hcv2 := conv_word w11 W12 hW12
  have S12 : Sep w W12 (upd own11 (.e 1) (.obj w11.heap.size (.cells #[.int .u8 119, .int .u8 111, .int .u8 114, .int .u8 100] 5 (4, 5)))) := by rw [← hW12]; exact S11.addObj (.e 1) _
  have L12 : LinkAt (upd own11 (.e 1) (.obj w11.heap.size (.cells #[.int .u8 119, .int .u8 111, .int .u8 114, .int .u8 100] 5 (4, 5)))) w2.heap.size gx gy (Cl (1 + na) (1 + nb) 1 1 150 [1] (S1b m word) none) (Bz (1 + na) (1 + nb)) vu4 vd4 (.slice (some ⟨al, ol, none⟩) 1 cl) [] [] 1 (lineC 1 true (.slice none 0 0) 0 false (.slice none 0 0) 0 false false (.slice ah m.length ch)) false := L11.alike (fun n h _ => upd_ne _ _ (h 1))
  have q12 : upd own11 (.e 1) (.obj w11.heap.size (.cells #[.int .u8 119, .int .u8 111, .int .u8 114, .int .u8 100] 5 (4, 5))) (.e 0) = _ := (upd_ne _ _ (fun e => by cases e)).trans q11
  have r12 := upd_at own11 (.e 1) (.obj w11.heap.size (.cells #[.int .u8 119, .int .u8 111, .int .u8 114, .int .u8 100] 5 (4, 5)))
  obtain ⟨own12, hown12⟩ : ∃ own12, upd own11 (.e 1) (.obj w11.heap.size (.cells #[.int .u8 119, .int .u8 111, .int .u8 114, .int .u8 100] 5 (4, 5))) = own12 := ⟨_, rfl⟩
  rw [hown12] at S12 L12 q12 r12
  obtain ⟨x2, y2⟩ := L12.line S12 2 (by omega)
  have x2' : W12.cell? ⟨al, ol + 2, none⟩ = some (.slice none 0 0) := x2
  obtain ⟨own13, S13, L13, e13⟩ := L12.setLine S12 2 (.slice (some ⟨w11.heap.size, 0, none⟩) 4 4)
  have q13 := (e13 0).trans q12
  have r13 := (e13 1).trans r12
  obtain ⟨W13, hW13⟩ : ∃ W13, W12.setCell ⟨al, ol + 2, none⟩ (.slice (some ⟨w11.heap.size, 0, none⟩) 4 4) = W13 := ⟨_, rfl⟩
  rw [hW13] at S13
  have L13' : LinkAt own13 w2.heap.size gx gy (Cl (1 + na) (1 + nb) 1 1 150 [1] (S1b m word) none) (Bz (1 + na) (1 + nb)) vu4 vd4 (.slice (some ⟨al, ol, none⟩) 1 cl) [] [] 1 (lineC 1 true (.slice (some ⟨w11.heap.size, 0, none⟩) 4 4) 0 false (.slice none 0 0) 0 false false (.slice ah m.length ch)) false := L13
  obtain ⟨p5, pg⟩ := settle2 (a := 1 + na) (b := 1 + nb) (R := 1099511627776) (by omega) (by omega) (by omega) hpk rfl
  have ks := k_settle_any L13' S13 1099511627776 rfl pg
  rw [p5] at ks
  dsimp only at ks
  clear hor kW E11 X11 L9 q9 L11 q11 S11 hW12 S12 L12 q12 r12 hown12 x2 S13 L13 L13' e13 p5 pg e9 hW9 hcv
  go_wp2_with fail
  refine ks.mono ?_
  rintro e w14 ⟨rfl, own14, vu, vd, S14, L14, e14⟩
  have q14 := (e14 0).trans q13
  have r14 := (e14 1).trans r13
  have S15 := (S14.drop .o).drop (.e 2)
  have L15 : LinkAt (upd (upd own14 .o .none) (.e 2) .none) w2.heap.size gx gy (Ay (1 + na) (1 + nb)) (By (1 + na) (1 + nb) m) vu vd (.slice (some ⟨al, ol, none⟩) 1 cl) [] [] 1 (lineC 1 true (.slice (some ⟨w11.heap.size, 0, none⟩) 4 4) 0 false (.slice none 0 0) 0 false false (.slice ah m.length ch)) false := L14.alike (fun n h h' => (upd_ne _ _ (h 2)).trans (upd_ne _ _ h'))
  have q15 : upd (upd own14 .o .none) (.e 2) .none (.e 0) = _ := ((upd_ne _ _ (fun e => by cases e)).trans (upd_ne _ _ (fun e => by cases e))).trans q14
  have r15 : upd (upd own14 .o .none) (.e 2) .none (.e 1) = _ := ((upd_ne _ _ (fun e => by cases e)).trans (upd_ne _ _ (fun e => by cases e))).trans r14
  have z15 : upd (upd own14 .o .none) (.e 2) .none .o = .none := (upd_ne _ _ (fun e => by cases e)).trans (upd_at _ _ _)
  have z15' : upd (upd own14 .o .none) (.e 2) .none (.e 2) = .none := upd_at _ _ _
  obtain ⟨own15, hown15⟩ : ∃ own15, upd (upd own14 .o .none) (.e 2) .none = own15 := ⟨_, rfl⟩
  rw [hown15] at S15 L15 q15 r15 z15 z15'
  have BOK := by_ok (a := 1 + na) (b := 1 + nb) (by omega) (by omega) hpk
  have kR := d_Read_at L15.ey S15 (BOK.fits.mono (by omega)) 1 2 (by omega) (by omega) (by omega) .o (fun _ e => by cases e) z15
  obtain ⟨b1, b2, b3, b4⟩ := by_read (a := 1 + na) (b := 1 + nb) (h := m)
  rw [b1, b2, b3, b4] at kR
  clear ks q13 r13 S14 L14 e14 q14 r14 hown15 BOK b1 b2 b3 b4
  go_wp2_with fail
  refine kR.mono ?_
  rintro e w16 ⟨vo, own16, S16, E16, hor⟩
  have hor' : e = .returned (.tuple #[vo, .int .i64 0]) ∧ EndAt own16 LN.y gy (Bx (1 + na) (1 + nb) m) ∧ own16 .o = .row 5 1 vo 2 (bcells [119, 111]) := by
    rcases hor with ⟨hno, -⟩ | ⟨-, h1, h2, h3⟩
    · exact absurd rfl hno
    · exact ⟨h1, h2, h3⟩
  obtain ⟨rfl, Y16, o16⟩ := hor'
  have L16 := L15.withY Y16 (fun n _ ho h => E16 n ho h)
  have q16 := (E16 (.e 0) (fun e => by cases e) (fun _ e => by cases e)).trans q15
  have r16 := (E16 (.e 1) (fun e => by cases e) (fun _ e => by cases e)).trans r15
  have z16 := (E16 (.e 2) (fun e => by cases e) (fun _ e => by cases e)).trans z15'
  obtain ⟨ao, co, hvo, -, -⟩ := (show OwnAt w16 5 1 vo 2 _ from S16.get o16).slice
  subst hvo
  have c4 : w16.cell? ⟨w2.heap.size, 4, none⟩ = some (.slice (some ⟨al, ol, none⟩) 1 cl) := L16.cc S16 4
  obtain ⟨x3, y3⟩ := L16.line S16 3 (by omega)
  have x3' : w16.cell? ⟨al, ol + 3, none⟩ = some (.int .i64 0) := x3
  -- the line: so much is read
  have S17 := S16.setRow L16.nl 3 (.int .i64 2)
  obtain ⟨own17, hown17⟩ : ∃ own17, upd own16 .lines (.row 65 10 (.slice (some ⟨al, ol, none⟩) 1 cl) 1 ((lineC 1 true (.slice (some ⟨w11.heap.size, 0, none⟩) 4 4) 0 false (.slice none 0 0) 0 false false (.slice ah m.length ch)).set 3 (.int .i64 2))) = own17 := ⟨_, rfl⟩
  rw [hown17] at S17
  have e17 : ∀ n, n ≠ .lines → own17 n = own16 n := fun n hn => by rw [← hown17]; exact upd_ne _ _ hn
  have L17 : LinkAt own17 w2.heap.size gx gy (Ay (1 + na) (1 + nb)) (Bx (1 + na) (1 + nb) m) vu vd (.slice (some ⟨al, ol, none⟩) 1 cl) [] [] 1 (lineC 1 true (.slice (some ⟨w11.heap.size, 0, none⟩) 4 4) 2 false (.slice none 0 0) 0 false false (.slice ah m.length ch)) false :=
    ⟨L16.ex.alike (fun x => e17 _ (fun e => by cases e)), L16.ey.alike (fun x => e17 _ (fun e => by cases e)), (e17 _ (fun e => by cases e)).trans L16.lk, (e17 _ (fun e => by cases e)).trans L16.nu, (e17 _ (fun e => by cases e)).trans L16.nd, by rw [← hown17, upd_at]; rfl⟩
  have q17 := (e17 (.e 0) (fun e => by cases e)).trans q16
  have r17 := (e17 (.e 1) (fun e => by cases e)).trans r16
  have z17 := (e17 (.e 2) (fun e => by cases e)).trans z16
  have o17 := (e17 .o (fun e => by cases e)).trans o16
  obtain ⟨W17, hW17⟩ : ∃ W17, w16.setCell ⟨al, ol + 3, none⟩ (.int .i64 2) = W17 := ⟨_, rfl⟩
  rw [hW17] at S17
  have BOK := bx_ok (a := 1 + na) (b := 1 + nb) (by omega) (by omega) hpk
  have kH := d_Headers_at L17.ey S17 (BOK.fits.mono (by omega)) 1 (by omega) (by omega) (.e 2) (fun _ e => by cases e) z17
  rw [bx_headers hpk] at kH
  clear kR S15 L15 q15 r15 z15 z15' E16 Y16 o16 S16 L16 q16 r16 z16 hor x3 hown17 e17 BOK z17
  go_wp2_with fail
  refine kH.mono ?_
  rintro e w18 ⟨own18, S18, Y18, E18, hor⟩
  obtain ⟨vk, rfl, k18⟩ : ∃ vk, e = .returned (.tuple #[vk, .int .i64 0]) ∧ own18 (.e 2) = .row 42 2 vk m.length (pcells m) := by
    rcases hor with ⟨hno, -⟩ | ⟨hd, vo, h1, h2, h3⟩
    · cases hno
    · injection h1 with h1
      subst h1
      exact ⟨vo, h2, h3⟩
  have L18 := L17.withY Y18 (fun n h _ h' => E18 n (h 2) h')
  have q18 := (E18 (.e 0) (fun e => by cases e) (fun _ e => by cases e)).trans q17
  have r18 := (E18 (.e 1) (fun e => by cases e) (fun _ e => by cases e)).trans r17
  have o18 := (E18 .o (fun e => by cases e) (fun _ e => by cases e)).trans o17
  have hP1 := OwnAt.isPairs (show OwnAt w18 42 2 (.slice ah m.length ch) m.length (pcells m) from S18.get q18)
  have hP2 := OwnAt.isPairs (show OwnAt w18 42 2 vk m.length (pcells m) from S18.get k18)
  have ksm := same_any _ _ m w18 hP1 hP2 (by have := (packs_enc m hpk).2.2; omega)
  have HFIN : Hid (∀ w19, Ext w18 w19 → RJoined w (1 + na) (1 + nb) (.returned (.pointer (some ⟨w2.heap.size, 0, none⟩))) w19) := fun w19 he => ⟨w2.heap.size, gx, gy, w11.heap.size, own18, vu, vd, .slice (some ⟨al, ol, none⟩) 1 cl, m, .slice ah m.length ch, rfl, S18.ext he, hpk, L18, q18, r18⟩
  have v1 := fun (w19 : World) (he : Ext w18 w19) => conv_bytes ((OwnAt.isBytes (l := [119, 111]) (show OwnAt w18 5 1 (.slice ao 2 co) 2 (bcells [119, 111]) from S18.get o18)).ext he)
  obtain ⟨ak, ck, hvk, -, -, -⟩ := hP2
  subst hvk
  clear kH S17 L17 q17 r17 o17 Y18 E18 hor hP1 k18 L18 q18 r18 o18
  go_wp2_with fail
  refine ksm.mono ?_
  rintro e w19 ⟨rfl, he19⟩
  have v2 := v1 w19 he19
  have HF := hide (HFIN.out w19 he19)
  clear v1 HFIN S18 ksm he19
  go_wp2
  go_ret
  exact HF.out
end Go.Proofs.Ytoijpogadkogcaa
namespace Go.Proofs.Ytoijpogadkogcaa
open Go.RowKit
set_option maxRecDepth 100000

set_option maxHeartbeats 1600000 in
theorem bytes_any (f n s : Nat) (w : World) (hf : f ≤ 1000000) (hn : n ≤ 1000) (hs : s ≤ 65535) :
    Calls Try.prog 15 #[.int .i64 (f : Int), .int .i64 (n : Int), .int .i64 (s : Int)] w fun e w' => ∃ (l : Bytes) (v : Value), e = .returned v ∧ l.length = n ∧ w'.ownsRow w.heap.size 5 1 v l.length (bcells l) ∧ Ext w w' := by
  obtain ⟨i0, hi, hz0, hz1, hz2⟩ := info_parts' Try.infoU
  go_enter Try.func15, Try.ntmps15
  go_wp2
  go_loopw [7, 8] (fun b i wr => ∃ l : Bytes, l.length ≤ n ∧ i = .int .i64 (l.length : Int) ∧ wr.ownsRow w.heap.size 5 1 b l.length (bcells l) ∧ Ext w wr) (fun _ i _ => n - (intOf i).toNat)
  case atStart => exact ⟨[], Nat.zero_le _, rfl, World.ownsRow_nil _ _ _ _, Ext.refl _⟩
  case round =>
    obtain ⟨l, hl, rfl, hown, hE⟩ := hrel
    by_cases hlt : l.length < n
    · have hlt' : (l.length : Int) < (n : Int) := by omega
      have hsz : w.heap.size ≤ wr.heap.size := hE.size
      obtain ⟨x, hx⟩ : ∃ x : UInt8, (x.toNat : Int) = (((f : Int) + (l.length : Int)) * 7 + (s : Int)) % 256 := ⟨UInt8.ofNat ((f + l.length) * 7 + s), by rw [UInt8.toNat_ofNat']; omega⟩
      go_wp2_with (at_builtin; refine wpList_append_src _ rfl (.tmp 14) (.tmp 22) 22 22 rfl w.heap.size 5 i0 (.int .u8 0) 1 1 Try.underlying22 hi hz0 hz1 hz2 rfl (by decide) _ _ _ rfl (hown.alloc _) _ 1 [.int .u8 ((((f : Int) + (l.length : Int)) * 7 + (s : Int)) % 256)] rfl (src_one _ _ Try.underlying22 _ rfl) ?_ ?_ ?_ ?_)
      · unfold maxLen; omega
      · omega
      · simp; omega
      intro v1 w1 hown1 hgrew1
      have hown2 : w1.ownsRow w.heap.size 5 1 v1 (l ++ [x]).length (bcells (l ++ [x])) := owns_len hown1 (by simp) (by rw [bcells_append, ← hx]; rfl)
      have hE2 : Ext w w1 := Ext.trans' (hE.alloc _) hgrew1 (hown.alloc _) (Nat.le_refl _)
      clear hown1 hgrew1 hown hE hx
      go_wp2
      go_roundw
      case rel => exact ⟨l ++ [x], by simp; omega, by simp, hown2, hE2⟩
      case measure => simp [intOf]; omega
    · have hlt' : decide ((l.length : Int) < (n : Int)) = false := by simp; omega
      have hln : l.length = n := by omega
      have HL := hide hln
      clear hln
      go_wp2
      go_ret
      exact ⟨l, _, rfl, HL.out, hown, hE⟩
/-- The lengths of frames of data, of a stream. -/
def dlen (id : Nat) : List (Nat × Nat × Nat × Bytes) → Nat
  | [] => 0
  | f :: r => (if f.1 = 0 ∧ f.2.2.1 = id then f.2.2.2.length else 0) + dlen id r
theorem dlen_append (id : Nat) (a b : List (Nat × Nat × Nat × Bytes)) : dlen id (a ++ b) = dlen id a + dlen id b := by
  induction a with
  | nil => simp [dlen]
  | cons f r ih => show _ + dlen id (r ++ b) = _ + dlen id r + dlen id b; rw [ih]; omega
theorem dlen_le (id : Nat) (a : List (Nat × Nat × Nat × Bytes)) : dlen id a ≤ (flat a).length := by
  induction a with
  | nil => exact Nat.zero_le _
  | cons f r ih =>
    show (if f.1 = 0 ∧ f.2.2.1 = id then f.2.2.2.length else 0) + dlen id r ≤ (frame f.1 f.2.1 f.2.2.1 f.2.2.2 ++ flat r).length
    rw [List.length_append, frame_len]
    split <;> omega
theorem frame_at (p r : Bytes) (k f i : Nat) (body : Bytes) (j : Nat) (hj : j < 6 + body.length) : (p ++ (frame k f i body ++ r)).getD (p.length + j) 0 = (frame k f i body).getD j 0 := by
  rw [List.getD_eq_getElem?_getD, List.getD_eq_getElem?_getD, List.getElem?_append_right (by omega), show p.length + j - p.length = j by omega, List.getElem?_append_left (by rw [frame_len]; exact hj)]
set_option maxHeartbeats 3200000 in
theorem lengths_any (vb : Value) (fs : List (Nat × Nat × Nat × Bytes)) (id : Nat) (w : World) (hb : IsBytes w vb (flat fs)) (hf : ∀ f ∈ fs, f.1 ≤ 255 ∧ f.2.2.1 ≤ 65535 ∧ f.2.2.2.length ≤ 64) (hl : (flat fs).length ≤ 1000000000) :
    Calls Try.prog 17 #[vb, .int .i64 (id : Int)] w fun e w' => e = .returned (.int .i64 (dlen id fs : Int)) ∧ Ext w w' := by
  obtain ⟨a, cap, rfl, -, -, hcell⟩ := hb
  have HC := hide hcell
  have HF := hide hf
  obtain ⟨N, hN⟩ : ∃ N, (flat fs).length = N := ⟨_, rfl⟩
  rw [hN] at hl ⊢
  have HN := hide hN
  clear hcell hf hN
  go_enter Try.func17, Try.ntmps17
  go_wp2
  go_loopw [5, 6, 7] (fun sn sa _ wr => ∃ (done rest : List (Nat × Nat × Nat × Bytes)) (n k : Nat), Hid (fs = done ++ rest ∧ n = dlen id done ∧ k = (flat done).length) ∧ n ≤ k ∧ k ≤ N ∧ sn = .int .i64 (n : Int) ∧ sa = .int .i64 (k : Int) ∧ Ext w wr) (fun _ sa _ _ => N - (intOf sa).toNat)
  case atStart => exact ⟨[], fs, 0, 0, ⟨rfl, rfl, rfl⟩, Nat.le_refl _, Nat.zero_le _, rfl, rfl, Ext.refl _⟩
  case round =>
    obtain ⟨done, rest, n, k, HS, hnk, hkN, rfl, rfl, hE⟩ := hrel
    cases rest with
    | nil =>
      have e1 : fs = done := by have := HS.out.1; rw [List.append_nil] at this; exact this
      have e2 : k = N := by rw [HS.out.2.2, ← e1, HN.out]
      have HR : Hid (n = dlen id fs) := by show n = _; rw [HS.out.2.1, e1]
      have hlt' : decide (k < N) = false := by simp; omega
      clear e1 e2
      go_wp2
      go_ret
      exact ⟨by simp [HR.out], hE⟩
    | cons f r =>
      have hfm := HF.out f (by rw [HS.out.1]; simp)
      obtain ⟨kd, fl, i, body⟩ := f
      dsimp only at hfm
      obtain ⟨hk255, hi65, hb64⟩ := hfm
      have hflat : flat fs = flat done ++ (frame kd fl i body ++ flat r) := by rw [HS.out.1, flat_append]; rfl
      have hlen : N = k + (6 + body.length) + (flat r).length := by rw [← HN.out, hflat, List.length_append, List.length_append, frame_len, HS.out.2.2]; omega
      obtain ⟨g, o, rfl, hc⟩ : ∃ b o, a = some ⟨b, o, none⟩ ∧ ∀ i, i < (flat fs).length → w.cell? ⟨b, o + i, none⟩ = some (.int .u8 (((flat fs).getD i 0).toNat : Int)) := by
        rcases HC.out with h | h
        · have : (flat fs).length = 0 := by rw [h]; rfl
          have := HN.out
          omega
        · exact h
      have hg : ∀ j, j < 6 → wr.cell? ⟨g, o + (k + j), none⟩ = some (.int .u8 (((frame kd fl i body).getD j 0).toNat : Int)) := fun j hj => by
        have h1 := hE.cell (hc (k + j) (by have := HN.out; omega))
        rw [hflat, HS.out.2.2, frame_at _ _ _ _ _ _ j (by omega)] at h1
        rw [HS.out.2.2]
        exact h1
      have g0 : wr.cell? ⟨g, o + k, none⟩ = some (.int .u8 0) := (hg 0 (by omega)).trans (by simp [frame, two]; omega)
      have g1 : wr.cell? ⟨g, o + (k + 1), none⟩ = some (.int .u8 (body.length : Int)) := (hg 1 (by omega)).trans (by simp [frame, two]; omega)
      have g2 : wr.cell? ⟨g, o + (k + 2), none⟩ = some (.int .u8 (kd : Int)) := (hg 2 (by omega)).trans (by simp [frame, two]; omega)
      have g4 : wr.cell? ⟨g, o + (k + 4), none⟩ = some (.int .u8 ((i / 256 : Nat) : Int)) := (hg 4 (by omega)).trans (by simp [frame, two]; omega)
      have g5 : wr.cell? ⟨g, o + (k + 5), none⟩ = some (.int .u8 ((i % 256 : Nat) : Int)) := (hg 5 (by omega)).trans (by simp [frame, two])
      obtain ⟨q, hq⟩ : ∃ q, i / 256 = q := ⟨_, rfl⟩
      obtain ⟨p, hp⟩ : ∃ p, i % 256 = p := ⟨_, rfl⟩
      rw [hq] at g4
      rw [hp] at g5
      obtain ⟨b, hbl⟩ : ∃ b, body.length = b := ⟨_, rfl⟩
      rw [hbl] at g1 hlen hb64
      have hlt' : (k : Int) < (N : Int) := by omega
      have hlt2 : k < N := by omega
      have h6' : decide ((N : Int) < (k : Int) + 6) = false := by simp; omega
      have hqp : i = q * 256 + p := by omega
      have hq' : q ≤ 255 := by omega
      have hp' : p ≤ 255 := by omega
      have hback : decide ((N : Int) < (k : Int) + 6 + (b : Int)) = false := by simp; omega
      have h64' : decide ((64 : Int) < (b : Int)) = false := by simp; omega
      have HQP := hide hqp
      have HBL := hide hbl
      have HLN := hide hlen
      have hkb : k + 6 + b ≤ N := by omega
      clear hg hc hflat hqp hbl hlen hq hp
      generalize (flat r).length = rl at *
      by_cases hk0 : kd = 0
      · have hk0' : ((kd : Int) == 0) = true := by rw [hk0]; rfl
        by_cases hii : q * 256 + p = id
        · have hii' : (((q : Int) * 256 + (p : Int)) == (id : Int)) = true := by rw [beq_iff_eq]; omega
          have HD : Hid (dlen id (done ++ [(kd, fl, i, body)]) = n + b) := by
            show _ = _
            rw [dlen_append, HS.out.2.1]
            show _ + ((if kd = 0 ∧ i = id then body.length else 0) + 0) = _
            rw [if_pos ⟨hk0, by rw [HQP.out]; exact hii⟩, HBL.out]; rfl
          clear hii
          go_wp2_with fail
          go_quiet (fail)
          go_wp2_with fail
          go_quiet (fail)
          go_wp2
          go_roundw
          case rel =>
            refine ⟨done ++ [(kd, fl, i, body)], r, n + b, k + 6 + b, ⟨?_, ?_, ?_⟩, ?_, hkb, ?_, ?_, hE.trans (drewN_ext wr _)⟩
            · rw [HS.out.1]; simp
            · exact HD.out.symm
            · rw [flat_append, List.length_append, ← HS.out.2.2]; show _ = _ + (frame kd fl i body ++ []).length; rw [List.append_nil, frame_len, HBL.out]; omega
            · omega
            · go_num
            · go_num
          case measure => simp [intOf]; omega
        · have hii' : (((q : Int) * 256 + (p : Int)) == (id : Int)) = false := by rw [beq_eq_false_iff_ne]; omega
          have HD : Hid (dlen id (done ++ [(kd, fl, i, body)]) = n) := by
            show _ = _
            rw [dlen_append, HS.out.2.1]
            show _ + ((if kd = 0 ∧ i = id then body.length else 0) + 0) = _
            rw [if_neg (by rw [HQP.out]; exact fun h => hii h.2)]; rfl
          clear hii
          go_wp2_with fail
          go_quiet (fail)
          go_wp2_with fail
          go_quiet (fail)
          go_wp2
          go_roundw
          case rel =>
            refine ⟨done ++ [(kd, fl, i, body)], r, n, k + 6 + b, ⟨?_, ?_, ?_⟩, ?_, hkb, ?_, ?_, hE.trans (drewN_ext wr _)⟩
            · rw [HS.out.1]; simp
            · exact HD.out.symm
            · rw [flat_append, List.length_append, ← HS.out.2.2]; show _ = _ + (frame kd fl i body ++ []).length; rw [List.append_nil, frame_len, HBL.out]; omega
            · omega
            · go_num
            · go_num
          case measure => simp [intOf]; omega
      · have hk0' : ((kd : Int) == 0) = false := by rw [beq_eq_false_iff_ne]; omega
        have HD : Hid (dlen id (done ++ [(kd, fl, i, body)]) = n) := by
          show _ = _
          rw [dlen_append, HS.out.2.1]
          show _ + ((if kd = 0 ∧ i = id then body.length else 0) + 0) = _
          rw [if_neg (fun h => hk0 h.1)]; rfl
        clear hk0
        go_wp2_with fail
        go_quiet (fail)
        go_wp2_with fail
        go_quiet (fail)
        go_wp2
        go_roundw
        case rel =>
          refine ⟨done ++ [(kd, fl, i, body)], r, n, k + 6 + b, ⟨?_, ?_, ?_⟩, ?_, hkb, ?_, ?_, hE.trans (drewN_ext wr _)⟩
          · rw [HS.out.1]; simp
          · exact HD.out.symm
          · rw [flat_append, List.length_append, ← HS.out.2.2]; show _ = _ + (frame kd fl i body ++ []).length; rw [List.append_nil, frame_len, HBL.out]; omega
          · omega
          · go_num
          · go_num
        case measure => simp [intOf]; omega
end Go.Proofs.Ytoijpogadkogcaa
