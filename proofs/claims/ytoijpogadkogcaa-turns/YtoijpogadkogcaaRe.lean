/-
  Two ends and the bytes between them: some bytes are handed over (written by wip/mkHg.py).
-/
import Derived.Test.YtoijpogadkogcaaRa
import Derived.Deep.CutBlock
namespace Go.Proofs.Ytoijpogadkogcaa
open Go.RowKit
set_option maxRecDepth 100000

theorem grew_fresh {w w1 w' : World} {v v' : Value} (h : Ext w w1) (g : Grew w1 v w' v') (hv : ∀ k, v.ownBlock = some k → w.heap.size ≤ k) : Ext w w' ∧ ∀ b, v'.ownBlock = some b → w.heap.size ≤ b := by
  refine ⟨ext_grew h g hv, fun b hb => ?_⟩
  rcases g.place with e | ⟨k, e, hk⟩
  · exact hv b (by rw [← e]; exact hb)
  · rw [e] at hb
    injection hb with hb
    have := h.size
    omega
set_option maxHeartbeats 1600000 in
theorem sl_CloneB_any (w : World) (vb : Value) (l : Bytes) (hb : IsBytes w vb l) (hl : l.length ≤ 35184372088832) :
    Calls Try.prog 55 #[vb] w fun e w' => ∃ v', e = .returned v' ∧ OwnAt w' 5 1 v' l.length (bcells l) ∧ Ext w w' ∧ ∀ b, v'.ownBlock = some b → w.heap.size ≤ b := by
  obtain ⟨i0, hi0, hz0, hz1, hz2⟩ := info_parts' Try.infoU
  have HB := hide hb
  obtain ⟨a, c, hv, hc1, hc2, h3⟩ := hb
  subst hv
  cases a with
  | none =>
    have hl0 : l = [] := by
      rcases h3 with h | ⟨b, o, e, _⟩
      · exact h
      · cases e
    subst hl0
    clear h3 hc1 HB hl
    have heq := run_eql_nil Try.underlying22
    have hnil : (Value.slice none ([] : Bytes).length c) = .slice none 0 c := rfl
    rw [hnil]
    go_enter Try.func55, Try.ntmps55
    go_wp2
    go_ret
    exact ⟨_, rfl, OwnAt.nil _ _ _, Ext.refl w, fun b hb => by simp [Value.ownBlock] at hb⟩
  | some x =>
    have heq := run_eql_nil Try.underlying22
    have he1 : Ext w (w.alloc (.cells #[] 5)) := (Ext.refl w).alloc _
    have hsrc := src_isB (HB.out.ext he1)
    have hO : OwnAt (w.alloc (.cells #[] 5)) 5 1 (.slice (some ⟨w.heap.size, 0, none⟩) 0 0) 0 [] := ⟨rfl, .inr ⟨w.heap.size, 0, 0, #[], rfl, heap_alloc_new w _, Nat.le_refl _, by simp [maxLen], by simp, rfl⟩⟩
    clear h3
    go_enter Try.func55, Try.ntmps55
    go_wp2_with (at_builtin; refine wpList_append_at _ rfl (.tmp 5) (.tmp 6) 22 22 rfl 5 i0 (.int .u8 0) 1 1 Try.underlying22 hi0 hz0 hz1 hz2 rfl _ _ _ rfl hO _ _ _ rfl hsrc ?_ ?_ ?_)
    · unfold maxLen; omega
    · omega
    intro v2 w2 hA2 hG2
    have hA3 := cut_len (m := l.length) (ys := bcells l) hA2 (by omega) (List.nil_append _)
    obtain ⟨a2, k2, hv2, -, -⟩ := hA3.slice
    have hF := grew_fresh he1 hG2 (fun k hk => by simp only [Value.ownBlock, Option.some.injEq] at hk; omega)
    have HX := hide (And.intro hA3 hF)
    clear hA2 hG2 hA3 hF hO hsrc
    subst hv2
    go_wp2
    go_ret
    exact ⟨_, rfl, HX.out.1, HX.out.2.1, HX.out.2.2⟩
theorem pcells_one : ∀ m : Hdrs, ∀ u ∈ pcells m, u.oneCell' = true
  | [], u, hu => by cases hu
  | p :: r, u, hu => by
    have h : u ∈ Value.string ⟨p.1.toArray⟩ :: Value.string ⟨p.2.toArray⟩ :: pcells r := hu
    rcases List.mem_cons.1 h with e | h
    · rw [e]; rfl
    rcases List.mem_cons.1 h with e | h
    · rw [e]; rfl
    · exact pcells_one r u h
set_option maxHeartbeats 1600000 in
theorem sl_CloneP_any (w : World) (vh : Value) (m : Hdrs) (hb : OwnAt w 42 2 vh m.length (pcells m)) (hl : m.length ≤ 1000) :
    Calls Try.prog 57 #[vh] w fun e w' => ∃ v', e = .returned v' ∧ OwnAt w' 42 2 v' m.length (pcells m) ∧ Ext w w' ∧ ∀ b, v'.ownBlock = some b → w.heap.size ≤ b := by
  obtain ⟨i0, hi0, hz0, hz1, hz2⟩ := info_parts Try.infoPair
  have heq := run_eql_nil Try.underlying23
  rcases hb.2 with ⟨rfl, hm0⟩ | ⟨g, o, cap, cur, rfl, hg, hc1, hc2, hc3, hc4⟩
  · have hml : m = [] := List.eq_nil_of_length_eq_zero hm0
    subst hml
    go_enter Try.func57, Try.ntmps57
    go_wp2
    go_ret
    exact ⟨_, rfl, OwnAt.nil _ _ _, Ext.refl w, fun b hb => by simp [Value.ownBlock] at hb⟩
  · have hone : ∀ u ∈ pcells m, u.oneCell' = true := pcells_one m
    have he1 : Ext w (w.alloc (.cells #[] 42)) := (Ext.refl w).alloc _
    have hsrc := (hb.ext he1).src (tx := 23) Try.underlying23 hone
    have hO : OwnAt (w.alloc (.cells #[] 42)) 42 2 (.slice (some ⟨w.heap.size, 0, none⟩) 0 0) 0 [] := ⟨rfl, .inr ⟨w.heap.size, 0, 0, #[], rfl, heap_alloc_new w _, Nat.le_refl _, by simp [maxLen], by simp, rfl⟩⟩
    clear hb hc4 hc3 hg
    go_enter Try.func57, Try.ntmps57
    go_wp2_with (at_builtin; refine wpList_append_at _ rfl (.tmp 5) (.tmp 6) 23 23 rfl 42 i0 (.agg #[.string .empty, .string .empty]) 2 32 Try.underlying23 hi0 hz0 hz1 hz2 rfl _ _ _ rfl hO _ _ _ rfl hsrc ?_ ?_ ?_)
    · unfold maxLen; omega
    · omega
    intro v2 w2 hA2 hG2
    have hA3 := cut_len (m := m.length) (ys := pcells m) hA2 (by omega) (List.nil_append _)
    obtain ⟨a2, k2, hv2, -, -⟩ := hA3.slice
    have hF := grew_fresh he1 hG2 (fun k hk => by simp only [Value.ownBlock, Option.some.injEq] at hk; omega)
    have HX := hide (And.intro hA3 hF)
    clear hA2 hG2 hA3 hF hO hsrc
    subst hv2
    go_wp2
    go_ret
    exact ⟨_, rfl, HX.out.1, HX.out.2.1, HX.out.2.2⟩
section
variable {N : Type} {own : N → Res} {nm : DN → N} {g : Nat} {d : Ds} {v : DV} {wb w : World}
/-- What was read is given back. -/
def Ds.given (d : Ds) (s : DS) (n : Nat) : Ds := (if stEnded s.state then d else d.giveS s n).give0 n
theorem given_keep (d : Ds) (s : DS) (n : Nat) : (d.given s n).failed = d.failed ∧ (d.given s n).inn = d.inn := by unfold Ds.given; split <;> exact ⟨rfl, rfl⟩
set_option maxHeartbeats 3200000 in
theorem d_giveBack_any (h : DevAt own nm g d v) (hs : Sep wb w own) (hf : d.Fits 4) {s : DS} (hst : d.str s.id = some s) (n : Nat) (hn : s.to_ + n + s.unread.length ≤ 100) :
    Calls Try.prog 56 #[.pointer (some ⟨g, 0, none⟩), .pointer (some ⟨v.ptr s.id, 0, none⟩), .int .i64 (n : Int)] w fun e w' => e = .returned (.tuple #[]) ∧ LeftD nm g wb own d v w' (d.given s n) := by
  have fs := hf.st _ _ hst
  have hn2 : n ≤ 1000 := by have := fs.to0; omega
  have f2 := h.s2 hs hst
  have f0 := h.s0 hs hst
  have ke := d_ended_any s.state fs.state w
  cases he : stEnded s.state with
  | true =>
    have HG : Hid (d.given s n = d.give0 n) := by show _ = _; unfold Ds.given; rw [he]; rfl
    rw [HG.out]
    rw [he] at ke
    have k0 := d_give0_any h hs (hf.mono (by omega)) n hn2
    clear he
    go_enter Try.func56, Try.ntmps56
    go_wp2_with fail
    refine ke.mono ?_
    rintro e w1 ⟨rfl, hw⟩
    replace hw := hw.symm
    subst hw
    go_wp2_with fail
    refine k0.mono ?_
    rintro e w2 ⟨rfl, hL⟩
    have HL := hide hL
    clear hL
    go_wp2
    go_end0
    exact ⟨rfl, HL.out⟩
  | false =>
    have HG : Hid (d.given s n = (d.giveS s n).give0 n) := by show _ = _; unfold Ds.given; rw [he]; rfl
    rw [HG.out]
    rw [he] at ke
    have kS := d_giveS_any h (hs.ext (Ext.refl w).drew) (hf.mono (by omega)) hst n hn
    have F2 : (d.giveS s n).Fits 2 := by
      unfold Ds.giveS
      refine Ds.Fits.lay ?_ _ _ _ _ (by simp [two]) fs.id
      exact (hf.setS s.id { s with to_ := s.to_ + (n : Int) } ⟨fs.id, fs.state, fs.from0, fs.from1, by have := fs.to0; show 0 ≤ s.to_ + (n : Int); omega, by show s.to_ + (n : Int) + (s.unread.length : Int) ≤ 100; omega, fs.headers, fs.block, fs.data, fs.code⟩).mono (by omega : 2 + 1 ≤ 4)
    clear he
    go_enter Try.func56, Try.ntmps56
    go_wp2_with fail
    refine ke.mono ?_
    rintro e w1 ⟨rfl, hw⟩
    replace hw := hw.symm
    subst hw
    go_wp2_with fail
    first | go_region_with (go_at_call 80; refine kS.mono ?_; rintro e w2 ⟨rfl, own2, v2, S2, H2, E2, r2, i2, p2⟩) | fail
    all_goals
      have k0 := d_give0_any H2 S2 F2 n hn2
      have HP := hide (And.intro E2 (And.intro r2 (And.intro i2 p2)))
      clear S2 H2 E2 r2 i2 p2
      go_wp2_with fail
      refine k0.mono ?_
      rintro e w3 ⟨rfl, hL⟩
      have HL := hide (hL.trans (own := own) (d := d) (v := v) HP.out.1 HP.out.2.1 HP.out.2.2.1 HP.out.2.2.2)
      clear hL
      go_wp2
      go_end0
      exact ⟨rfl, HL.out⟩
/-- Some bytes of what is unread are read. -/
theorem DevAt.cutU (h : DevAt own nm g d v) (hs : Sep wb w own) {s : DS} (hn : d.str s.id = some s) {a : Option Addr} {cap : Nat} (hv : (v.sv s.id).vU = .slice a s.unread.length cap) (k : Nat) (hk : k ≤ s.unread.length) {y : Value} (hy : sliced a k s.unread.length cap 1 = y) :
    ∃ own', Sep wb (w.setCell ⟨v.ptr s.id, 9, none⟩ y) own' ∧ DevAt own' nm g (d.setS s.id { s with unread := s.unread.drop k }) { v with sv := fun j => if j = s.id then { v.sv s.id with vU := y } else v.sv j } ∧ SameD nm own own' := by
  subst hy
  have ed := h.unread hn
  rw [hv] at ed
  have s1 := hs.cutFrom ed k hk
  have c1 := (upd_dn h.inj own (.unread s.id) (.st s.id) (.row 5 1 (sliced a k s.unread.length cap 1) (s.unread.length - k) ((bcells s.unread).drop k))).trans ((if_neg (by simp)).trans (h.st hn))
  have s2 := s1.setObj c1 9 (sliced a k s.unread.length cap 1)
  have hm := h.setU hn (s.unread.drop k) (sliced a k s.unread.length cap 1)
  have e1 : (s.unread.drop k).length = s.unread.length - k := List.length_drop
  have e2 : bcells (s.unread.drop k) = (bcells s.unread).drop k := by unfold bcells; rw [List.map_drop]
  rw [e1, e2] at hm
  exact ⟨_, s2, hm, ((SameD.refl nm own).upd _ _).upd _ _⟩
/-- What Read answers, and leaves. -/
def RRead {N : Type} (nm : DN → N) (g : Nat) (wb : World) (own : N → Res) (d : Ds) (v : DV) (id most : Int) (e : Ending) (w' : World) : Prop :=
  (Ds.read? (d.find id) most ≠ 0 ∧ e = .returned (.tuple #[.slice none 0 0, .int .i64 (Ds.read? (d.find id) most : Int)]) ∧ LeftD nm g wb own d v w' d) ∨
  (Ds.read? (d.find id) most = 0 ∧ ∃ (vo : Value) (own' : Option N → Res) (v' : DV), e = .returned (.tuple #[vo, .int .i64 0]) ∧ Sep wb w' own' ∧ DevAt own' (fun x => some (nm x)) g (d.read (d.find id) (Ds.readN (d.find id) most)) v' ∧ own' none = .row 5 1 vo (Ds.readN (d.find id) most) (bcells ((d.find id).unread.take (Ds.readN (d.find id) most))) ∧ (∀ n, (∀ x, n ≠ nm x) → own' (some n) = own n) ∧ v'.rp = v.rp ∧ (d.failed = false → v'.vI = v.vI))

set_option maxHeartbeats 6400000 in
theorem d_Read_any (h : DevAt own nm g d v) (hs : Sep wb w own) (hf : d.Fits 4) (id most : Int) (h1 : -9223372036854775808 ≤ id) (h2 : id ≤ 9223372036854775807) (hm2 : most ≤ 9223372036854775807) :
    Calls Try.prog 27 #[.pointer (some ⟨g, 0, none⟩), .int .i64 id, .int .i64 most] w (RRead nm g wb own d v id most) := by
  cases hr : d.real id with
  | none =>
    obtain ⟨z, hz, hzz⟩ := known_z d id
    obtain ⟨W1, hW⟩ : ∃ W1, w.alloc (.cells (zeroSt z) 86) = W1 := ⟨_, rfl⟩
    obtain ⟨hE, z2, z8, -⟩ := zero_at w z hW
    have S1 := hs.ext hE
    have k := d_find_none h hs h1 h2 hr hz hW
    have efind := find_none hr
    rw [hz] at efind
    have HL := hide (h.left S1)
    rcases hzz with rfl | rfl
    · have hq : Ds.read? (d.find id) most = 6 := by rw [efind]; rfl
      have HF : Hid (RRead nm g wb own d v id most (.returned (.tuple #[.slice none 0 0, .int .i64 6])) W1) := .inl ⟨by rw [hq]; omega, by rw [hq]; rfl, HL.out⟩
      clear efind hr hz hW hq
      go_enter Try.func27, Try.ntmps27
      go_wp2_with fail
      refine k.mono ?_
      rintro e w1 ⟨rfl, hw⟩
      replace hw := hw.symm
      subst hw
      go_wp2
      go_ret2
      exact HF.out
    · have kr := d_wasReset_any 8 (by omega) W1
      by_cases hm : most < 0
      · have hq : Ds.read? (d.find id) most = 9 := by rw [efind]; unfold Ds.read?; rw [if_neg (by show ¬ (8 : Nat) = 0; omega), if_pos hm]
        have HF : Hid (RRead nm g wb own d v id most (.returned (.tuple #[.slice none 0 0, .int .i64 9])) W1) := .inl ⟨by rw [hq]; omega, by rw [hq]; rfl, HL.out⟩
        clear efind hr hz hW hq
        go_enter Try.func27, Try.ntmps27
        go_wp2_with fail
        refine k.mono ?_
        rintro e w1 ⟨rfl, hw⟩
        replace hw := hw.symm
        subst hw
        go_wp2
        go_ret2
        exact HF.out
      · have hq : Ds.read? (d.find id) most = 7 := by rw [efind]; unfold Ds.read?; rw [if_neg (by show ¬ (8 : Nat) = 0; omega), if_neg hm]; rfl
        have HF : Hid (RRead nm g wb own d v id most (.returned (.tuple #[.slice none 0 0, .int .i64 7])) W1) := .inl ⟨by rw [hq]; omega, by rw [hq]; rfl, HL.out⟩
        clear efind hr hz hW hq
        go_enter Try.func27, Try.ntmps27
        go_wp2_with fail
        refine k.mono ?_
        rintro e w1 ⟨rfl, hw⟩
        replace hw := hw.symm
        subst hw
        go_wp2_with (go_at_call 45; refine kr.mono ?_; rintro e w' ⟨rfl, hw⟩; replace hw := hw.symm; subst hw)
        go_ret2
        exact HF.out
  | some s =>
    have hst := real_str h hr
    have fs := hf.st _ _ hst
    have k := d_find_some h hs h1 h2 hr
    have efind := find_some hr
    have f2 := h.s2 hs hst
    have f9 := h.s9 hs hst
    have f20 := h.c20 hs
    have kr := d_wasReset_any s.state fs.state w
    have ken := d_ended_any s.state fs.state w
    obtain ⟨aU, cU, hvU, hcU, -⟩ := (hs.get (h.unread hst)).slice
    rw [hvU] at f9
    have HL := hide (h.left hs)
    by_cases hq : Ds.read? s most = 0
    · have hq0 : s.state ≠ 0 := by intro e; unfold Ds.read? at hq; rw [if_pos e] at hq; omega
      have hqm : ¬ most < 0 := by intro e; unfold Ds.read? at hq; rw [if_neg hq0, if_pos e] at hq; omega
      have hqr : stReset s.state = false := by
        cases e : stReset s.state with
        | false => rfl
        | true => unfold Ds.read? at hq; rw [if_neg hq0, if_neg hqm, if_pos e] at hq; omega
      have hqe : ¬ (s.unread.length = 0 ∧ stEnded s.state = true) := by intro e; unfold Ds.read? at hq; rw [if_neg hq0, if_neg hqm, if_neg (by rw [hqr]; simp), if_pos e] at hq; omega
      have hOU : OwnAt w 5 1 (.slice aU s.unread.length cU) s.unread.length (bcells s.unread) := by
        have := hs.get (h.unread hst)
        rw [hvU] at this
        exact this
      obtain ⟨n, hn⟩ : ∃ n, Ds.readN s most = n := ⟨_, rfl⟩
      have hnm : (n : Int) = min most (s.unread.length : Int) := by unfold Ds.readN at hn; omega
      have hnu : n ≤ s.unread.length := by omega
      have hmin : ∀ (W : World) (ts : Array TypeId) (ty : TypeId), (Builtin.min_ ts ty #[.int .i64 most, .int .i64 (s.unread.length : Int)]).run Try.prog W = .ok (.int .i64 (n : Int)) W := fun W ts ty => by
        simp [Builtin.min_, Builtin.min2]
        split <;> omega
      have hBt := IsBytes.take (OwnAt.isBytes hOU) n hnu
      rw [sliced_zero'] at hBt
      have hrun1 : ∀ W : World, (Instr.slice 22 (.slice aU s.unread.length cU) none (some (.int .i64 (n : Int))) none).run Try.prog W = .ok (.slice aU n cU) W := fun W => by
        rw [run_slice_h W 22 _ _ cU (by rw [elem_bytes]; exact Try.underlying22) .i64 (n : Int) (by omega) (by omega), elem_bytes, size_bytes]
        show Result.ok (sliced aU 0 n cU 1) W = _
        rw [sliced_zero']
      have hOr := hOU.from n hnu
      obtain ⟨ay, ky, hvy, -, -⟩ := hOr.slice
      have hrun2 : ∀ W : World, (Instr.slice 22 (.slice aU s.unread.length cU) (some (.int .i64 (n : Int))) none none).run Try.prog W = .ok (.slice ay (s.unread.length - n) ky) W := fun W => by
        rw [run_slice_l W 22 _ _ cU (by rw [elem_bytes]; exact Try.underlying22) .i64 (n : Int) (by omega) (by omega), elem_bytes, size_bytes]
        show Result.ok (sliced aU n s.unread.length cU 1) W = _
        rw [hvy]
      have hul := fs.to1
      have hu0 := fs.to0
      have kC := sl_CloneB_any w _ _ hBt (by rw [List.length_take]; omega)
      have htl : (s.unread.take n).length = n := by rw [List.length_take]; omega
      rw [htl] at kC
      have HVY := hide hvy
      have HNU := hide hnu
      have HVU := hide hvU
      rw [hqr] at kr
      have hq0b : ((s.state : Int) == 0) = false := by rw [beq_eq_false_iff_ne]; omega
      have hm' : decide (most < 0) = false := by simp; omega
      have HEF := hide efind
      have HN := hide hn
      have HQ0 := hide hq
      clear hBt hOr htl hvy hOU hq hn hnm efind hr
      have hug : (((s.unread.length : Int) == 0) = true ∧ stEnded s.state = false) ∨ ((s.unread.length : Int) == 0) = false := by
        by_cases e : s.unread.length = 0
        · left
          refine ⟨by rw [e]; rfl, ?_⟩
          cases e2 : stEnded s.state with
          | false => rfl
          | true => exact absurd ⟨e, e2⟩ hqe
        · right; rw [beq_eq_false_iff_ne]; omega
      have HQE := hide hqe
      clear hqe
      generalize hsl : s.unread.length = ul at *
      have HUL := hide hsl
      clear hsl
      rcases hug with ⟨hu1, hu2⟩ | hu1
      · rw [hu2] at ken
        have HU2 := hide hu2
        clear hu2
        go_enter Try.func27, Try.ntmps27
        go_wp2_with fail
        refine k.mono ?_
        rintro e w1 ⟨rfl, hw⟩
        replace hw := hw.symm
        subst hw
        go_wp2_with (first | (go_at_call 45; refine kr.mono ?_; rintro e w' ⟨rfl, hw⟩; replace hw := hw.symm; subst hw) | (go_at_call 54; refine ken.mono ?_; rintro e w' ⟨rfl, hw⟩; replace hw := hw.symm; subst hw))
        refine kC.mono ?_
        rintro e w2 ⟨vo, rfl, hO2, hE2, hfr2⟩
        have SL := hs.liftRow hE2 hO2 hfr2
        have HLf := h.lift (.row 5 1 vo n (bcells (s.unread.take n)))
        obtain ⟨ao, co, hvo, -, -⟩ := hO2.slice
        have f9' := HLf.s9 SL hst
        rw [HVU.out] at f9'
        have t9 := HLf.sthaw SL hst 9
        obtain ⟨own3, S3, H3, E3⟩ := HLf.cutU (y := .slice ay (ul - n) ky) SL hst (by rw [HUL.out]; exact HVU.out) n (by rw [HUL.out]; exact HNU.out) (by rw [HUL.out]; exact HVY.out)
        obtain ⟨W3, hW3⟩ : ∃ W3, w2.setCell ⟨v.ptr s.id, 9, none⟩ (.slice ay (ul - n) ky) = W3 := ⟨_, rfl⟩
        rw [hW3] at S3
        have g20 : W3.cell? ⟨g, 20, none⟩ = some (.bool d.failed) := H3.c20 S3
        have n0 : own3 none = .row 5 1 vo n (bcells (s.unread.take n)) := (E3 none (fun x e => by cases e)).trans rfl
        have e0 : ∀ n', (∀ x, n' ≠ nm x) → own3 (some n') = own n' := fun n' hn' => (E3 (some n') (fun x e => hn' x (by injection e))).trans rfl
        have g20b := g20
        obtain ⟨v3, H3, r3, i3, p3⟩ : ∃ v3, DevAt own3 (fun x => some (nm x)) g (d.setS s.id { s with unread := s.unread.drop n }) v3 ∧ v3.rp = v.rp ∧ v3.vI = v.vI ∧ v3.ptr s.id = v.ptr s.id := ⟨_, H3, rfl, rfl, rfl⟩
        subst hvo
        clear hO2 hE2 hfr2 SL HLf kC g20b
        by_cases hz : n = 0
        · have HF : Hid (RRead nm g wb own d v id most (.returned (.tuple #[.slice ao n co, .int .i64 0])) W3) := by
            refine .inr ⟨by rw [HEF.out]; exact HQ0.out, _, own3, v3, rfl, S3, ?_, by rw [HEF.out, HN.out]; exact n0, e0, r3, fun _ => i3⟩
            rw [HEF.out, HN.out]
            unfold Ds.read
            dsimp only
            rw [if_pos (.inl hz)]
            exact H3
          have hz' : decide ((0 : Int) < (n : Int)) = false := by simp; omega
          have hz2 : decide (0 < n) = false := by simp; omega
          have hz3 : ¬ 0 < n := by omega
          clear S3 H3 n0 e0 E3 hz
          go_wp2
          go_ret2
          exact HF.out
        · have hz' : (0 : Int) < (n : Int) := by omega
          cases hfl : d.failed with
          | true =>
            have HF : Hid (RRead nm g wb own d v id most (.returned (.tuple #[.slice ao n co, .int .i64 0])) W3) := by
              refine .inr ⟨by rw [HEF.out]; exact HQ0.out, _, own3, v3, rfl, S3, ?_, by rw [HEF.out, HN.out]; exact n0, e0, r3, fun _ => i3⟩
              rw [HEF.out, HN.out]
              unfold Ds.read
              dsimp only
              rw [if_pos (.inr hfl)]
              exact H3
            rw [hfl] at g20
            clear S3 H3 n0 e0 E3 hz hfl
            go_wp2
            go_ret2
            exact HF.out
          | false =>
            have n3 : (d.setS s.id { s with unread := s.unread.drop n }).str ({ s with unread := s.unread.drop n } : DS).id = some { s with unread := s.unread.drop n } := by rw [setS_str]; exact if_pos rfl
            have hdl : (s.unread.drop n).length = ul - n := by rw [List.length_drop, HUL.out]
            have hnu := HNU.out
            have F3 : (d.setS s.id { s with unread := s.unread.drop n }).Fits 4 := hf.setS _ _ ⟨fs.id, fs.state, fs.from0, fs.from1, fs.to0, by show s.to_ + ((s.unread.drop n).length : Int) ≤ 100; rw [hdl]; omega, fs.headers, fs.block, fs.data, fs.code⟩
            have kG := d_giveBack_any H3 S3 F3 n3 n (by show s.to_ + (n : Int) + ((s.unread.drop n).length : Int) ≤ 100; rw [hdl]; omega)
            rw [show v3.ptr ({ s with unread := s.unread.drop n } : DS).id = v.ptr s.id from p3] at kG
            rw [hfl] at g20
            have HND := hide (And.intro n0 e0)
            have HFL := hide hfl
            have HZ := hide hz
            clear S3 H3 n0 e0 E3 hz hfl F3 n3 hdl hnu
            go_wp2_with fail
            refine kG.mono ?_
            rintro e w4 ⟨rfl, own4, v4, S4, H4, E4, r4, i4, -⟩
            have HF : Hid (RRead nm g wb own d v id most (.returned (.tuple #[.slice ao n co, .int .i64 0])) w4) := by
              refine .inr ⟨by rw [HEF.out]; exact HQ0.out, _, own4, v4, rfl, S4, ?_, by rw [HEF.out, HN.out]; exact (E4 none (fun x e => by cases e)).trans HND.out.1, fun n' hn' => (E4 (some n') (fun x e => hn' x (by injection e))).trans (HND.out.2 n' hn'), r4.trans r3, fun hx => (i4 (by rw [(given_keep _ _ _).1]; exact hx)).trans i3⟩
              rw [HEF.out, HN.out]
              unfold Ds.read
              dsimp only
              rw [if_neg (by rw [HFL.out]; simp; exact HZ.out)]
              exact H4
            clear S4 H4 E4 r4 i4
            go_wp2
            go_ret2
            exact HF.out
      · have HU1 := hide hu1
        clear ken
        go_enter Try.func27, Try.ntmps27
        go_wp2_with fail
        refine k.mono ?_
        rintro e w1 ⟨rfl, hw⟩
        replace hw := hw.symm
        subst hw
        go_wp2_with (go_at_call 45; refine kr.mono ?_; rintro e w' ⟨rfl, hw⟩; replace hw := hw.symm; subst hw)
        refine kC.mono ?_
        rintro e w2 ⟨vo, rfl, hO2, hE2, hfr2⟩
        have SL := hs.liftRow hE2 hO2 hfr2
        have HLf := h.lift (.row 5 1 vo n (bcells (s.unread.take n)))
        obtain ⟨ao, co, hvo, -, -⟩ := hO2.slice
        have f9' := HLf.s9 SL hst
        rw [HVU.out] at f9'
        have t9 := HLf.sthaw SL hst 9
        obtain ⟨own3, S3, H3, E3⟩ := HLf.cutU (y := .slice ay (ul - n) ky) SL hst (by rw [HUL.out]; exact HVU.out) n (by rw [HUL.out]; exact HNU.out) (by rw [HUL.out]; exact HVY.out)
        obtain ⟨W3, hW3⟩ : ∃ W3, w2.setCell ⟨v.ptr s.id, 9, none⟩ (.slice ay (ul - n) ky) = W3 := ⟨_, rfl⟩
        rw [hW3] at S3
        have g20 : W3.cell? ⟨g, 20, none⟩ = some (.bool d.failed) := H3.c20 S3
        have n0 : own3 none = .row 5 1 vo n (bcells (s.unread.take n)) := (E3 none (fun x e => by cases e)).trans rfl
        have e0 : ∀ n', (∀ x, n' ≠ nm x) → own3 (some n') = own n' := fun n' hn' => (E3 (some n') (fun x e => hn' x (by injection e))).trans rfl
        have g20b := g20
        obtain ⟨v3, H3, r3, i3, p3⟩ : ∃ v3, DevAt own3 (fun x => some (nm x)) g (d.setS s.id { s with unread := s.unread.drop n }) v3 ∧ v3.rp = v.rp ∧ v3.vI = v.vI ∧ v3.ptr s.id = v.ptr s.id := ⟨_, H3, rfl, rfl, rfl⟩
        subst hvo
        clear hO2 hE2 hfr2 SL HLf kC g20b
        by_cases hz : n = 0
        · have HF : Hid (RRead nm g wb own d v id most (.returned (.tuple #[.slice ao n co, .int .i64 0])) W3) := by
            refine .inr ⟨by rw [HEF.out]; exact HQ0.out, _, own3, v3, rfl, S3, ?_, by rw [HEF.out, HN.out]; exact n0, e0, r3, fun _ => i3⟩
            rw [HEF.out, HN.out]
            unfold Ds.read
            dsimp only
            rw [if_pos (.inl hz)]
            exact H3
          have hz' : decide ((0 : Int) < (n : Int)) = false := by simp; omega
          have hz2 : decide (0 < n) = false := by simp; omega
          have hz3 : ¬ 0 < n := by omega
          clear S3 H3 n0 e0 E3 hz
          go_wp2
          go_ret2
          exact HF.out
        · have hz' : (0 : Int) < (n : Int) := by omega
          cases hfl : d.failed with
          | true =>
            have HF : Hid (RRead nm g wb own d v id most (.returned (.tuple #[.slice ao n co, .int .i64 0])) W3) := by
              refine .inr ⟨by rw [HEF.out]; exact HQ0.out, _, own3, v3, rfl, S3, ?_, by rw [HEF.out, HN.out]; exact n0, e0, r3, fun _ => i3⟩
              rw [HEF.out, HN.out]
              unfold Ds.read
              dsimp only
              rw [if_pos (.inr hfl)]
              exact H3
            rw [hfl] at g20
            clear S3 H3 n0 e0 E3 hz hfl
            go_wp2
            go_ret2
            exact HF.out
          | false =>
            have n3 : (d.setS s.id { s with unread := s.unread.drop n }).str ({ s with unread := s.unread.drop n } : DS).id = some { s with unread := s.unread.drop n } := by rw [setS_str]; exact if_pos rfl
            have hdl : (s.unread.drop n).length = ul - n := by rw [List.length_drop, HUL.out]
            have hnu := HNU.out
            have F3 : (d.setS s.id { s with unread := s.unread.drop n }).Fits 4 := hf.setS _ _ ⟨fs.id, fs.state, fs.from0, fs.from1, fs.to0, by show s.to_ + ((s.unread.drop n).length : Int) ≤ 100; rw [hdl]; omega, fs.headers, fs.block, fs.data, fs.code⟩
            have kG := d_giveBack_any H3 S3 F3 n3 n (by show s.to_ + (n : Int) + ((s.unread.drop n).length : Int) ≤ 100; rw [hdl]; omega)
            rw [show v3.ptr ({ s with unread := s.unread.drop n } : DS).id = v.ptr s.id from p3] at kG
            rw [hfl] at g20
            have HND := hide (And.intro n0 e0)
            have HFL := hide hfl
            have HZ := hide hz
            clear S3 H3 n0 e0 E3 hz hfl F3 n3 hdl hnu
            go_wp2_with fail
            refine kG.mono ?_
            rintro e w4 ⟨rfl, own4, v4, S4, H4, E4, r4, i4, -⟩
            have HF : Hid (RRead nm g wb own d v id most (.returned (.tuple #[.slice ao n co, .int .i64 0])) w4) := by
              refine .inr ⟨by rw [HEF.out]; exact HQ0.out, _, own4, v4, rfl, S4, ?_, by rw [HEF.out, HN.out]; exact (E4 none (fun x e => by cases e)).trans HND.out.1, fun n' hn' => (E4 (some n') (fun x e => hn' x (by injection e))).trans (HND.out.2 n' hn'), r4.trans r3, fun hx => (i4 (by rw [(given_keep _ _ _).1]; exact hx)).trans i3⟩
              rw [HEF.out, HN.out]
              unfold Ds.read
              dsimp only
              rw [if_neg (by rw [HFL.out]; simp; exact HZ.out)]
              exact H4
            clear S4 H4 E4 r4 i4
            go_wp2
            go_ret2
            exact HF.out
    · have HF : Hid (RRead nm g wb own d v id most (.returned (.tuple #[.slice none 0 0, .int .i64 (Ds.read? s most : Int)])) w) := .inl ⟨by rw [efind]; exact hq, by rw [efind], HL.out⟩
      clear efind hr
      by_cases h0 : s.state = 0
      · have hv : Ds.read? s most = 6 := by unfold Ds.read?; rw [if_pos h0]
        rw [hv] at HF
        rw [h0] at f2
        clear hq hv
        go_enter Try.func27, Try.ntmps27
        go_wp2_with fail
        refine k.mono ?_
        rintro e w1 ⟨rfl, hw⟩
        replace hw := hw.symm
        subst hw
        go_wp2
        go_ret2
        exact HF.out
      have h0b : ((s.state : Int) == 0) = false := by rw [beq_eq_false_iff_ne]; omega
      by_cases hm : most < 0
      · have hv : Ds.read? s most = 9 := by unfold Ds.read?; rw [if_neg h0, if_pos hm]
        rw [hv] at HF
        clear hq hv
        go_enter Try.func27, Try.ntmps27
        go_wp2_with fail
        refine k.mono ?_
        rintro e w1 ⟨rfl, hw⟩
        replace hw := hw.symm
        subst hw
        go_wp2
        go_ret2
        exact HF.out
      have hm' : decide (most < 0) = false := by simp; omega
      cases hqr : stReset s.state with
      | true =>
        have hv : Ds.read? s most = 7 := by unfold Ds.read?; rw [if_neg h0, if_neg hm, if_pos hqr]
        rw [hv] at HF
        rw [hqr] at kr
        clear hq hv hqr ken
        go_enter Try.func27, Try.ntmps27
        go_wp2_with fail
        refine k.mono ?_
        rintro e w1 ⟨rfl, hw⟩
        replace hw := hw.symm
        subst hw
        go_wp2_with (go_at_call 45; refine kr.mono ?_; rintro e w' ⟨rfl, hw⟩; replace hw := hw.symm; subst hw)
        go_ret2
        exact HF.out
      | false =>
        have hqe : s.unread.length = 0 ∧ stEnded s.state = true := by
          by_cases e : s.unread.length = 0 ∧ stEnded s.state = true
          · exact e
          · exact absurd (by unfold Ds.read?; rw [if_neg h0, if_neg hm, if_neg (by rw [hqr]; simp), if_neg e]) hq
        have hv : Ds.read? s most = 8 := by unfold Ds.read?; rw [if_neg h0, if_neg hm, if_neg (by rw [hqr]; simp), if_pos hqe]
        rw [hv] at HF
        rw [hqr] at kr
        rw [hqe.2] at ken
        rw [hqe.1] at f9
        clear hq hv hqr hqe
        go_enter Try.func27, Try.ntmps27
        go_wp2_with fail
        refine k.mono ?_
        rintro e w1 ⟨rfl, hw⟩
        replace hw := hw.symm
        subst hw
        go_wp2_with (first | (go_at_call 45; refine kr.mono ?_; rintro e w' ⟨rfl, hw⟩; replace hw := hw.symm; subst hw) | (go_at_call 54; refine ken.mono ?_; rintro e w' ⟨rfl, hw⟩; replace hw := hw.symm; subst hw))
        go_ret2
        exact HF.out
end
end Go.Proofs.Ytoijpogadkogcaa
namespace Go.Proofs.Ytoijpogadkogcaa
open Go.RowKit
set_option maxRecDepth 100000

section
variable {N : Type} {own : N → Res} {nm : DN → N} {g : Nat} {d : Ds} {v : DV} {wb w : World}
/-- What Headers answers, and leaves. -/
def RHeaders {N : Type} (nm : DN → N) (g : Nat) (wb : World) (own : N → Res) (d : Ds) (v : DV) (id : Int) (e : Ending) (w' : World) : Prop :=
  (d.headers? id = none ∧ e = .returned (.tuple #[.slice none 0 0, .int .i64 6]) ∧ LeftD nm g wb own d v w' d) ∨
  (∃ hd, d.headers? id = some hd ∧ ∃ vo, e = .returned (.tuple #[vo, .int .i64 0]) ∧ Sep wb w' (lift own (.row 42 2 vo hd.length (pcells hd))) ∧ DevAt (lift own (.row 42 2 vo hd.length (pcells hd))) (fun x => some (nm x)) g d v)
theorem held_str {d : Ds} {m : Bool} {n : Nat} {s : DS} (h : d.held m n = some s) : d.str n = some s := by
  unfold Ds.held at h
  split at h
  · cases h
  · split at h
    · rename_i s' hs' _
      injection h with h
      rw [← h]; exact hs'
    · cases h

set_option maxHeartbeats 3200000 in
theorem d_Headers_any (h : DevAt own nm g d v) (hs : Sep wb w own) (hf : d.Fits 0) (id : Int) (h1 : -9223372036854775808 ≤ id) (h2 : id ≤ 9223372036854775807) :
    Calls Try.prog 28 #[.pointer (some ⟨g, 0, none⟩), .int .i64 id] w (RHeaders nm g wb own d v id) := by
  have f9 := h.c9 hs
  have hb : w.heap[v.gt]? = some (.map v.esT v.ckT) := hs.get (h.res .mt)
  have hk := run_lookup_map (P := Try.prog) (w := w) Try.underlying68 Try.underlying3 Try.zeroPS hb h.mapT (a := id) (wf_i64 id h1 h2)
  have heq := run_eql_nil Try.underlying23
  have HL := hide (h.left hs)
  cases hm : d.mapF false v.ptr id with
  | none =>
    have hq : d.headers? id = none := by
      unfold Ds.mapF at hm
      unfold Ds.headers?
      by_cases h0 : 0 ≤ id
      · rw [if_pos h0] at hm ⊢
        cases e : d.held false id.toNat with
        | none => rfl
        | some s => rw [e] at hm; cases hm
      · rw [if_neg h0]
    have HF : Hid (RHeaders nm g wb own d v id (.returned (.tuple #[.slice none 0 0, .int .i64 6])) w) := .inl ⟨hq, rfl, HL.out⟩
    rw [hm] at hk
    simp only [ptrTo] at hk
    clear hq hm
    go_enter Try.func28, Try.ntmps28
    go_wp2
    go_ret2
    exact HF.out
  | some p =>
    have hm0 := hm
    unfold Ds.mapF at hm0
    have h0 : 0 ≤ id := by
      by_cases h0 : 0 ≤ id
      · exact h0
      · rw [if_neg h0] at hm0; cases hm0
    rw [if_pos h0] at hm0
    obtain ⟨s, hhe⟩ : ∃ s, d.held false id.toNat = some s := by
      cases e : d.held false id.toNat with
      | none => rw [e] at hm0; cases hm0
      | some s => exact ⟨s, rfl⟩
    rw [hhe] at hm0
    simp only [Option.map_some, Option.some.injEq] at hm0
    have hst := held_str hhe
    have fs := hf.st _ _ hst
    have f5 := h.s5 hs hst
    rw [hm0] at f5
    rw [hm] at hk
    simp only [ptrTo] at hk
    by_cases hhd : s.headers = []
    · have hq : d.headers? id = none := by unfold Ds.headers?; rw [if_pos h0, hhe]; show (if s.headers = [] then none else some s.headers) = none; rw [if_pos hhd]
      have HF : Hid (RHeaders nm g wb own d v id (.returned (.tuple #[.slice none 0 0, .int .i64 6])) w) := .inl ⟨hq, rfl, HL.out⟩
      rw [h.nilH _ _ hst hhd] at f5
      clear hq hm hm0 hhe
      go_enter Try.func28, Try.ntmps28
      go_wp2
      go_ret2
      exact HF.out
    · have hq : d.headers? id = some s.headers := by unfold Ds.headers?; rw [if_pos h0, hhe]; show (if s.headers = [] then none else some s.headers) = _; rw [if_neg hhd]
      have hOH := (show OwnAt w 42 2 (v.sv id.toNat).vH s.headers.length (pcells s.headers) from hs.get (h.hdr hst))
      have kC := sl_CloneP_any w _ s.headers hOH fs.headers
      obtain ⟨ah, oh, ch, hvh, -⟩ := not_nil hOH (List.length_pos_iff.2 hhd)
      rw [hvh] at f5 kC
      have HQ := hide hq
      clear hm hm0 hhe hq hOH hvh hhd
      go_enter Try.func28, Try.ntmps28
      go_wp2_with fail
      refine kC.mono ?_
      rintro e w1 ⟨vo, rfl, hO1, hE1, hfr1⟩
      have SL := hs.liftRow hE1 hO1 hfr1
      have HLf := h.lift (.row 42 2 vo s.headers.length (pcells s.headers))
      obtain ⟨ao, co, hvo, -, -⟩ := hO1.slice
      have HF : Hid (RHeaders nm g wb own d v id (.returned (.tuple #[vo, .int .i64 0])) w1) := .inr ⟨s.headers, HQ.out, vo, rfl, SL, HLf⟩
      clear hO1 hE1 hfr1 SL HLf kC
      subst hvo
      go_wp2
      go_ret2
      exact HF.out
theorem read_keep (d : Ds) (s : DS) (n : Nat) : (d.read s n).failed = d.failed ∧ (d.read s n).inn = d.inn := by
  unfold Ds.read
  dsimp only
  split
  · exact ⟨rfl, rfl⟩
  · split <;> exact ⟨rfl, rfl⟩
/-- Read: what is read takes the name k. -/
theorem d_Read_at (h : EndAt own nm g d) (hs : Sep wb w own) (hf : d.Fits 4) (id most : Int) (h1 : -9223372036854775808 ≤ id) (h2 : id ≤ 9223372036854775807) (hm2 : most ≤ 9223372036854775807) (k : N) (hk : ∀ x, nm x ≠ k) (hk0 : own k = .none) :
    Calls Try.prog 27 #[.pointer (some ⟨g, 0, none⟩), .int .i64 id, .int .i64 most] w fun e w' => ∃ vo own', Sep wb w' own' ∧ (∀ n, n ≠ k → (∀ x, n ≠ nm x) → own' n = own n) ∧
      ((Ds.read? (d.find id) most ≠ 0 ∧ e = .returned (.tuple #[.slice none 0 0, .int .i64 (Ds.read? (d.find id) most : Int)]) ∧ EndAt own' nm g d ∧ own' k = .none) ∨
      (Ds.read? (d.find id) most = 0 ∧ e = .returned (.tuple #[vo, .int .i64 0]) ∧ EndAt own' nm g (d.read (d.find id) (Ds.readN (d.find id) most)) ∧ own' k = .row 5 1 vo (Ds.readN (d.find id) most) (bcells ((d.find id).unread.take (Ds.readN (d.find id) most))))) := by
  obtain ⟨v, k1, k2⟩ := h
  refine (d_Read_any k1 hs hf id most h1 h2 hm2).mono ?_
  rintro e w' (⟨a, b, c⟩ | ⟨a, vo, own', v', b, S, H, n0, e0, r0, i0⟩)
  · obtain ⟨own', S, X, E⟩ := c.endAt k2 ⟨rfl, rfl⟩
    exact ⟨.slice none 0 0, own', S, fun n _ hx => E n hx, .inl ⟨a, b, X, (E k (fun x e => hk x e.symm)).trans hk0⟩⟩
  · obtain ⟨q1, q2⟩ := read_keep d (d.find id) (Ds.readN (d.find id) most)
    refine ⟨vo, _, S.fold k, fun n hn hx => by rw [upd_ne _ _ hn]; exact e0 n hx, .inr ⟨a, b, ⟨v', H.fold hk, fun hx => ?_⟩, by rw [upd_at]; exact n0⟩⟩
    rw [q1] at hx
    rw [r0, i0 hx, q2]
    exact k2 hx
/-- Headers: they take the name k. -/
theorem d_Headers_at (h : EndAt own nm g d) (hs : Sep wb w own) (hf : d.Fits 0) (id : Int) (h1 : -9223372036854775808 ≤ id) (h2 : id ≤ 9223372036854775807) (k : N) (hk : ∀ x, nm x ≠ k) (hk0 : own k = .none) :
    Calls Try.prog 28 #[.pointer (some ⟨g, 0, none⟩), .int .i64 id] w fun e w' => ∃ own', Sep wb w' own' ∧ EndAt own' nm g d ∧ (∀ n, n ≠ k → (∀ x, n ≠ nm x) → own' n = own n) ∧
      ((d.headers? id = none ∧ e = .returned (.tuple #[.slice none 0 0, .int .i64 6]) ∧ own' k = .none) ∨ (∃ hd vo, d.headers? id = some hd ∧ e = .returned (.tuple #[vo, .int .i64 0]) ∧ own' k = .row 42 2 vo hd.length (pcells hd))) := by
  obtain ⟨v, k1, k2⟩ := h
  refine (d_Headers_any k1 hs hf id h1 h2).mono ?_
  rintro e w' (⟨a, b, c⟩ | ⟨hd, a, vo, b, S, H⟩)
  · obtain ⟨own', S, X, E⟩ := c.endAt k2 ⟨rfl, rfl⟩
    exact ⟨own', S, X, fun n _ hx => E n hx, .inl ⟨a, b, (E k (fun x e => hk x e.symm)).trans hk0⟩⟩
  · exact ⟨_, S.fold k, ⟨v, H.fold hk, k2⟩, fun n hn _ => by rw [upd_ne _ _ hn]; rfl, .inr ⟨hd, vo, a, b, by rw [upd_at]; rfl⟩⟩
end
end Go.Proofs.Ytoijpogadkogcaa
namespace Go.Proofs.Ytoijpogadkogcaa
open Go.RowKit
set_option maxRecDepth 100000

/-- The parts of two ends, of what is between them, and others. -/
inductive LN
  | x (n : DN) | y (n : DN) | link | up | down | lines | o | e (k : Nat)
  deriving DecidableEq
/-- Two ends, and what is between them. -/
structure LinkAt (own : LN → Res) (gl gx gy : Nat) (dx dy : Ds) (vu vd vl : Value) (up down : Bytes) (nl : Nat) (xs : List Value) (lv : Bool) : Prop where
  ex : EndAt own LN.x gx dx
  ey : EndAt own LN.y gy dy
  lk : own .link = .obj gl (.cells #[.pointer (some ⟨gx, 0, none⟩), .pointer (some ⟨gy, 0, none⟩), vu, vd, vl, .bool lv] 39 (0, 0))
  nu : own .up = .row 5 1 vu up.length (bcells up)
  nd : own .down = .row 5 1 vd down.length (bcells down)
  nl : own .lines = .row 65 10 vl nl xs
theorem min2_of (P : Program) (W : World) (ts : Array TypeId) (ty : TypeId) (a b c : Int) (h : min a b = c) : (Builtin.min_ ts ty #[.int .i64 a, .int .i64 b]).run P W = .ok (.int .i64 c) W := by
  simp [Builtin.min_, Builtin.min2]
  split <;> omega
/-- What the receiver is behind some bytes. -/
def fed (r : Ds) (u : Bytes) (n : Int) : Ds := if n ≤ 0 then r else r.takes (u.take (min n.toNat u.length))
theorem take_take_drop (u : Bytes) (j k : Nat) : u.take j ++ (u.drop j).take k = u.take (j + k) := by
  rw [List.take_add]
section
variable {own : LN → Res} {gl gx gy : Nat} {dx dy : Ds} {vu vd vl : Value} {up down : Bytes} {nl : Nat} {xs : List Value} {lv : Bool} {wb w : World}
theorem LinkAt.cc (h : LinkAt own gl gx gy dx dy vu vd vl up down nl xs lv) (hs : Sep wb w own) (k : Nat) : w.cell? ⟨gl, k, none⟩ = (#[.pointer (some ⟨gx, 0, none⟩), .pointer (some ⟨gy, 0, none⟩), vu, vd, vl, .bool lv] : Array Value)[k]? := hs.cell h.lk k

set_option maxHeartbeats 12800000 in
theorem k_carry_up (h : LinkAt own gl gx gy dx dy vu vd vl up down nl xs lv) (hs : Sep wb w own) (room n piece : Int) (hr0 : -9223372036854775808 ≤ room) (hr1 : room ≤ 17592186044416) (hn0 : -9223372036854775808 ≤ n) (hn1 : n ≤ 17592186044416) (hp0 : 1 ≤ piece) (hp1 : piece ≤ 17592186044416)
    (hO : OutOk dx) (hck : ∀ f ∈ dx.ctl, f.1 ≤ 255 ∧ f.2.1 ≤ 255) (Good : Ds → Prop) (hG : GoodD Good) (hl : up.length + (dx.out room).2.length ≤ 17592186044416)
    (hI : ∀ (D : Ds) (j k : Nat), (D = dy ∧ j = 0 ∨ D = dy.takes ((up ++ (dx.out room).2).take j)) → j + k ≤ (up ++ (dx.out room).2).length → D.failed = false → D.inn.length + k ≤ 68719476736 ∧ Good { D with inn := D.inn ++ ((up ++ (dx.out room).2).drop j).take k }) :
    Calls Try.prog 53 #[.pointer (some ⟨gl, 0, none⟩), .bool true, .int .i64 room, .int .i64 n, .int .i64 piece] w fun e w' => e = .returned (.tuple #[]) ∧ ∃ own' v', Sep wb w' own' ∧ LinkAt own' gl gx gy (dx.out room).1 (fed dy (up ++ (dx.out room).2) n) v' vd vl ((up ++ (dx.out room).2).drop (min n.toNat (up ++ (dx.out room).2).length)) down nl xs lv ∧ ∀ k, own' (.e k) = own (.e k) := by
  obtain ⟨i0, hi0, hz0, hz1, hz2⟩ := info_parts' Try.infoU
  have kO := d_Out_at h.ex hs hO hck room hr0 hr1 .o (fun _ e => by cases e)
  obtain ⟨R, hR⟩ : ∃ R, dx.out room = R := ⟨_, rfl⟩
  rw [hR] at kO hl hI ⊢
  obtain ⟨U, hU⟩ : ∃ U, up ++ R.2 = U := ⟨_, rfl⟩
  rw [hU] at hI ⊢
  have hUl : U.length = up.length + R.2.length := by rw [← hU, List.length_append]
  have c0 : w.cell? ⟨gl, 0, none⟩ = some (.pointer (some ⟨gx, 0, none⟩)) := h.cc hs 0
  have HI := hide hI
  have HU := hide hU
  have HUL := hide hUl
  have hUb : U.length ≤ 17592186044416 := by omega
  clear hI hO hck hU hR hUl
  go_enter Try.func53, Try.ntmps53
  go_wp2_with fail
  refine kO.mono ?_
  rintro e w1 ⟨vo, own1, rfl, S1, X1, o1, E1⟩
  have lk1 := (E1 .link (fun e => by cases e) (fun _ e => by cases e)).trans h.lk
  have nu1 := (E1 .up (fun e => by cases e) (fun _ e => by cases e)).trans h.nu
  have hOU := (show OwnAt w1 5 1 vu up.length (bcells up) from S1.get nu1)
  have hOo := (show OwnAt w1 5 1 vo R.2.length (bcells R.2) from S1.get o1)
  have hsrc := src_isB (OwnAt.isBytes hOo)
  obtain ⟨aU, cU, hvU, -, -⟩ := hOU.slice
  obtain ⟨ao, co, hvo, -, -⟩ := hOo.slice
  have c2 : w1.cell? ⟨gl, 2, none⟩ = some vu := S1.cell lk1 2
  rw [hvU] at c2 hOU
  have HVU := hide hvU
  subst hvo
  have HST : Hid (∀ (v3 : Value) (w3 : World), OwnAt w3 5 1 v3 U.length (bcells U) → Grew w1 vu w3 v3 → (w3.cell? ⟨gl, 2, none⟩ = some vu ∧ w3.frozen? ⟨gl, 2, none⟩ = false) ∧ ∃ own3, Sep wb (w3.setCell ⟨gl, 2, none⟩ v3) own3 ∧ LinkAt own3 gl gx gy R.1 dy v3 vd vl U down nl xs lv ∧ ∀ k, own3 (.e k) = own (.e k)) := fun v3 w3 hO3 hG3 => by
    have S3 := S1.grew nu1 hG3 hO3
    have lk3 : upd own1 .up (.row 5 1 v3 U.length (bcells U)) .link = .obj gl (.cells #[.pointer (some ⟨gx, 0, none⟩), .pointer (some ⟨gy, 0, none⟩), vu, vd, vl, .bool lv] 39 (0, 0)) := (upd_ne _ _ (fun e => by cases e)).trans lk1
    refine ⟨⟨S3.cell lk3 2, S3.thaw lk3 2⟩, _, S3.setObj lk3 2 v3, ⟨?_, ?_, ?_, ?_, ?_, ?_⟩, fun k => ?_⟩
    · exact (X1.updO (fun _ e => by cases e) _).updO (fun _ e => by cases e) _
    · exact ((h.ey.alike (fun z => E1 (.y z) (fun e => by cases e) (fun _ e => by cases e))).updO (fun _ e => by cases e) _).updO (fun _ e => by cases e) _
    · rw [upd_at]; rfl
    · rw [upd_ne _ _ (fun e => by cases e), upd_at]
    · rw [upd_ne _ _ (fun e => by cases e), upd_ne _ _ (fun e => by cases e)]; exact (E1 .down (fun e => by cases e) (fun _ e => by cases e)).trans h.nd
    · rw [upd_ne _ _ (fun e => by cases e), upd_ne _ _ (fun e => by cases e)]; exact (E1 .lines (fun e => by cases e) (fun _ e => by cases e)).trans h.nl
    · rw [upd_ne _ _ (fun e => by cases e), upd_ne _ _ (fun e => by cases e)]; exact E1 (.e k) (fun e => by cases e) (fun _ e => by cases e)
  have HCB : Hid (bcells up ++ bcells R.2 = bcells U) := by show _ = _; rw [← HU.out, bcells_append]
  clear S1 X1 o1 E1 hOo nu1 lk1 hs kO
  go_wp2_with (at_builtin; refine wpList_append_at _ rfl (.tmp 24) (.tmp 25) 22 22 rfl 5 i0 (.int .u8 0) 1 1 Try.underlying22 hi0 hz0 hz1 hz2 rfl _ _ _ rfl hOU _ _ _ rfl hsrc ?_ ?_ ?_)
  · unfold maxLen; omega
  · omega
  intro v3 w3 hA3 hG3
  have hA4 := cut_len (m := U.length) (ys := bcells U) hA3 HUL.out.symm HCB.out
  rw [← HVU.out] at hG3
  obtain ⟨⟨c2', t2'⟩, own3, S3, L3, e3⟩ := HST.out v3 w3 hA4 hG3
  obtain ⟨a3, k3, hv3, -, -⟩ := hA4.slice
  subst hv3
  obtain ⟨W3, hW3⟩ : ∃ W3, w3.setCell ⟨gl, 2, none⟩ (.slice a3 U.length k3) = W3 := ⟨_, rfl⟩
  rw [hW3] at S3
  clear hA3 hA4 hG3 HST hsrc hOU HCB h
  go_wp2
  go_loopw [3] (fun s3 wr => ∃ (j : Nat) (D : Ds) (own4 : LN → Res) (v4 : Value), s3 = .int .i64 (n - (j : Int)) ∧ j ≤ U.length ∧ ((j : Int) ≤ n ∨ j = 0) ∧ Hid (D = dy ∧ j = 0 ∨ 0 < j ∧ D = dy.takes (U.take j)) ∧ Sep wb wr own4 ∧ LinkAt own4 gl gx gy R.1 D v4 vd vl (U.drop j) down nl xs lv ∧ ∀ k, own4 (.e k) = own (.e k)) (fun s3 _ => (intOf s3).toNat)
  case atStart => exact ⟨0, dy, own3, .slice a3 U.length k3, by simp, Nat.zero_le _, .inr rfl, .inl ⟨rfl, rfl⟩, S3, L3, e3⟩
  case round =>
    obtain ⟨j, D, own4, v4, rfl, hj, hjn, HD, S4, L4, e4⟩ := hrel
    clear S3 L3 e3
    have hO4 := (show OwnAt wr 5 1 v4 (U.drop j).length (bcells (U.drop j)) from S4.get L4.nu)
    have hdl : (U.drop j).length = U.length - j := List.length_drop
    obtain ⟨a4, k4, hv4, hk4, -⟩ := hO4.slice
    by_cases hgo : 0 < n - (j : Int)
    · obtain ⟨k, hk⟩ : ∃ k : Nat, min (min (n - (j : Int)) piece) ((U.drop j).length : Int) = (k : Int) := ⟨(min (min (n - (j : Int)) piece) ((U.drop j).length : Int)).toNat, by omega⟩
      have hkl : k ≤ (U.drop j).length := by omega
      have hmin2 : ∀ (W : World) (ts : Array TypeId) (ty : TypeId), (Builtin.min_ ts ty #[.int .i64 (min (n - (j : Int)) piece), .int .i64 ((U.drop j).length : Int)]).run Try.prog W = .ok (.int .i64 (k : Int)) W := fun W ts ty => min2_of _ W ts ty _ _ _ hk
      obtain ⟨q, hq⟩ : ∃ q, min (n - (j : Int)) piece = q := ⟨_, rfl⟩
      have hmin1 : ∀ (W : World) (ts : Array TypeId) (ty : TypeId), (Builtin.min_ ts ty #[.int .i64 (n - (j : Int)), .int .i64 piece]).run Try.prog W = .ok (.int .i64 q) W := fun W ts ty => min2_of _ W ts ty _ _ _ hq
      rw [hq] at hmin2
      have hkz : (k : Int) = 0 → (U.drop j).length = 0 := by omega
      have HKZ := hide hkz
      have hkn : (j : Int) + k ≤ n := by omega
      have hBt := IsBytes.take (OwnAt.isBytes (by rw [hv4] at hO4; exact hO4)) k hkl
      rw [sliced_zero'] at hBt
      have hrun1 : ∀ W : World, (Instr.slice 22 (.slice a4 (U.drop j).length k4) none (some (.int .i64 (k : Int))) none).run Try.prog W = .ok (.slice a4 k k4) W := fun W => by
        rw [run_slice_h W 22 _ _ k4 (by rw [elem_bytes]; exact Try.underlying22) .i64 (k : Int) (by omega) (by omega), elem_bytes, size_bytes]
        show Result.ok (sliced a4 0 k k4 1) W = _
        rw [sliced_zero']
      have hOr := (show OwnAt wr 5 1 (.slice a4 (U.drop j).length k4) (U.drop j).length (bcells (U.drop j)) by rw [← hv4]; exact hO4).from k hkl
      obtain ⟨ay, ky, hvy, -, -⟩ := hOr.slice
      have hrun2 : ∀ W : World, (Instr.slice 22 (.slice a4 (U.drop j).length k4) (some (.int .i64 (k : Int))) none none).run Try.prog W = .ok (.slice ay ((U.drop j).length - k) ky) W := fun W => by
        rw [run_slice_l W 22 _ _ k4 (by rw [elem_bytes]; exact Try.underlying22) .i64 (k : Int) (by omega) (by omega), elem_bytes, size_bytes]
        show Result.ok (sliced a4 k (U.drop j).length k4 1) W = _
        rw [hvy]
      have hck : ((U.drop j).take k).length = k := by rw [List.length_take]; omega
      have hcond := fun hfD => HI.out D j k (HD.out.elim .inl (fun h => .inr h.2)) (by omega) hfD
      have kI := d_In_at Good hG L4.ey (S4.ext (Ext.refl wr).drew) _ _ (hBt.ext (Ext.refl wr).drew) (fun hfD => by rw [hck]; exact (hcond hfD).1) (fun hfD => (hcond hfD).2)
      have c1 : wr.cell? ⟨gl, 1, none⟩ = some (.pointer (some ⟨gy, 0, none⟩)) := L4.cc S4 1
      have c2 : wr.cell? ⟨gl, 2, none⟩ = some v4 := L4.cc S4 2
      rw [hv4] at c2
      have HV4 := hide hv4
      have HVY := hide hvy
      have HKL := hide hkl
      have HL4 := hide L4
      have HTK : Hid (D.takes ((U.drop j).take k) = dy.takes (U.take (j + k))) := by
        show _ = _
        rcases HD.out with ⟨e1, e2⟩ | ⟨-, e1⟩
        · rw [e1, e2]; simp
        · rw [e1, ← dtakes_append, take_take_drop]
      have hndl : ((U.drop j).length : Int) ≤ 17592186044416 := by omega
      clear hBt hOr hvy hO4 hq hk hck hcond hkz
      generalize hdn : (U.drop j).length = dn at *
      have HDN := hide hdn
      have hdj : dn = U.length - j := by omega
      have HDJ := hide hdj
      clear hdn hdl hdj
      go_wp2_with fail
      first | go_region_with (go_at_call 19; refine kI.mono ?_; rintro e w5 ⟨rfl, own5, S5, Y5, E5⟩) | fail
      all_goals
        have lk5 := (E5 .link (fun _ e => by cases e)).trans HL4.out.lk
        have nu5 := (E5 .up (fun _ e => by cases e)).trans HL4.out.nu
        rw [HV4.out, HDN.out] at nu5
        have c25 : w5.cell? ⟨gl, 2, none⟩ = some v4 := S5.cell lk5 2
        have t25 := S5.thaw lk5 2
        rw [HV4.out] at c25
        have S6 := S5.cutFrom nu5 k HKL.out
        rw [HVY.out] at S6
        have lk6 := (upd_ne own5 (.row 5 1 (.slice ay (dn - k) ky) (dn - k) ((bcells (U.drop j)).drop k)) (show LN.link ≠ .up from fun e => by cases e)).trans lk5
        have S7 := S6.setObj lk6 2 (.slice ay (dn - k) ky)
        obtain ⟨W7, hW7⟩ : ∃ W7, w5.setCell ⟨gl, 2, none⟩ (.slice ay (dn - k) ky) = W7 := ⟨_, rfl⟩
        rw [hW7] at S7
        have hrow : (Res.row 5 1 (.slice ay (dn - k) ky) (dn - k) ((bcells (U.drop j)).drop k)) = .row 5 1 (.slice ay (dn - k) ky) (U.drop (j + k)).length (bcells (U.drop (j + k))) := by
          have e1 : (U.drop (j + k)).length = dn - k := by rw [List.length_drop, HDJ.out]; omega
          have e2 : (bcells (U.drop j)).drop k = bcells (U.drop (j + k)) := by unfold bcells; rw [← List.map_drop, List.drop_drop]
          rw [e1, e2]
        obtain ⟨own7, S7, L7, e7⟩ : ∃ own7, Sep wb W7 own7 ∧ LinkAt own7 gl gx gy R.1 (D.takes ((U.drop j).take k)) (.slice ay (dn - k) ky) vd vl (U.drop (j + k)) down nl xs lv ∧ ∀ k, own7 (.e k) = own (.e k) := by
          refine ⟨_, S7, ⟨?_, ?_, ?_, ?_, ?_, ?_⟩, fun k => ?_⟩
          · exact ((HL4.out.ex.alike (fun z => E5 (.x z) (fun _ e => by cases e))).updO (fun _ e => by cases e) _).updO (fun _ e => by cases e) _
          · exact (Y5.updO (fun _ e => by cases e) _).updO (fun _ e => by cases e) _
          · rw [upd_at]; rfl
          · rw [upd_ne _ _ (fun e => by cases e), upd_at, hrow]
          · rw [upd_ne _ _ (fun e => by cases e), upd_ne _ _ (fun e => by cases e)]; exact (E5 .down (fun _ e => by cases e)).trans HL4.out.nd
          · rw [upd_ne _ _ (fun e => by cases e), upd_ne _ _ (fun e => by cases e)]; exact (E5 .lines (fun _ e => by cases e)).trans HL4.out.nl
          · rw [upd_ne _ _ (fun e => by cases e), upd_ne _ _ (fun e => by cases e)]; exact (E5 (.e k) (fun _ e => by cases e)).trans (e4 k)
        clear S5 Y5 E5 lk5 nu5 S6 lk6 hrow kI
        by_cases hz : k = 0
        · have hkz2 := HKZ.out (by omega)
          have HF : Hid (D.takes ((U.drop j).take k) = fed dy U n ∧ U.drop (j + k) = U.drop (min n.toNat U.length)) := by
            have hdj := HDJ.out
            have hjU : j = U.length := by omega
            refine ⟨?_, ?_⟩
            · rw [HTK.out]
              unfold fed
              rw [if_neg (by omega)]
              rw [hz, hjU, Nat.add_zero, List.take_of_length_le (Nat.le_refl _), Nat.min_eq_right (by omega), List.take_of_length_le (Nat.le_refl _)]
            · rw [hz, hjU, Nat.add_zero, Nat.min_eq_right (by omega)]
          have hzb : ((k : Int) == 0) = true := by rw [hz]; rfl
          have HS7 := hide S7
          have HL7 := hide L7
          clear S7 L7 hz hkz2
          go_wp2
          refine bodyPost_ret (results_none rfl _ _ _) rfl ?_
          have L8 := HL7.out
          rw [HF.out.1, HF.out.2] at L8
          exact ⟨rfl, own7, _, HS7.out, L8, e7⟩
        · have hzb : ((k : Int) == 0) = false := by rw [beq_eq_false_iff_ne]; omega
          have HNZ := hide hz
          have hdj := HDJ.out
          have HS7 := hide S7
          have HL7 := hide L7
          have HKN := hide hkn
          clear S7 L7 hz hkn hdj
          go_wp2
          go_roundw
          case rel =>
            have hA : (n - (j : Int) - (k : Int)) = n - ((j + k : Nat) : Int) := by omega
            exact ⟨j + k, D.takes ((U.drop j).take k), own7, _, congrArg (Value.int .i64) hA, (by have := HDJ.out; have := HKL.out; omega), .inl (by have := HKN.out; omega), .inr ⟨by have := HNZ.out; omega, HTK.out⟩, HS7.out, HL7.out, e7⟩
          case measure =>
            have := HNZ.out
            simp [intOf]
            omega
    · have HF : Hid (D = fed dy U n ∧ U.drop j = U.drop (min n.toNat U.length)) := by
        rcases HD.out with ⟨e1, e2⟩ | ⟨e2, e1⟩
        · have hn : n ≤ 0 := by omega
          refine ⟨?_, ?_⟩
          · unfold fed; rw [if_pos hn]; exact e1
          · rw [e2, show n.toNat = 0 by omega, Nat.zero_min]
        · have hjn' : (j : Int) = n := by omega
          have hm : min n.toNat U.length = j := by omega
          refine ⟨?_, by rw [hm]⟩
          unfold fed
          rw [if_neg (by omega), hm]
          exact e1
      have hgo' : decide (0 < n - (j : Int)) = false := by simp; omega
      have HS4 := hide S4
      have HL4 := hide L4
      clear S4 L4 hO4
      go_wp2
      go_end0
      have L8 := HL4.out
      rw [HF.out.1, HF.out.2] at L8
      exact ⟨rfl, own4, HS4.out, ⟨_, L8⟩, e4⟩

set_option maxHeartbeats 12800000 in
theorem k_carry_down (h : LinkAt own gl gx gy dx dy vu vd vl up down nl xs lv) (hs : Sep wb w own) (room n piece : Int) (hr0 : -9223372036854775808 ≤ room) (hr1 : room ≤ 17592186044416) (hn0 : -9223372036854775808 ≤ n) (hn1 : n ≤ 17592186044416) (hp0 : 1 ≤ piece) (hp1 : piece ≤ 17592186044416)
    (hO : OutOk dy) (hck : ∀ f ∈ dy.ctl, f.1 ≤ 255 ∧ f.2.1 ≤ 255) (Good : Ds → Prop) (hG : GoodD Good) (hl : down.length + (dy.out room).2.length ≤ 17592186044416)
    (hI : ∀ (D : Ds) (j k : Nat), (D = dx ∧ j = 0 ∨ D = dx.takes ((down ++ (dy.out room).2).take j)) → j + k ≤ (down ++ (dy.out room).2).length → D.failed = false → D.inn.length + k ≤ 68719476736 ∧ Good { D with inn := D.inn ++ ((down ++ (dy.out room).2).drop j).take k }) :
    Calls Try.prog 53 #[.pointer (some ⟨gl, 0, none⟩), .bool false, .int .i64 room, .int .i64 n, .int .i64 piece] w fun e w' => e = .returned (.tuple #[]) ∧ ∃ own' v', Sep wb w' own' ∧ LinkAt own' gl gx gy (fed dx (down ++ (dy.out room).2) n) (dy.out room).1 vu v' vl up ((down ++ (dy.out room).2).drop (min n.toNat (down ++ (dy.out room).2).length)) nl xs lv ∧ ∀ k, own' (.e k) = own (.e k) := by
  obtain ⟨i0, hi0, hz0, hz1, hz2⟩ := info_parts' Try.infoU
  have kO := d_Out_at h.ey hs hO hck room hr0 hr1 .o (fun _ e => by cases e)
  obtain ⟨R, hR⟩ : ∃ R, dy.out room = R := ⟨_, rfl⟩
  rw [hR] at kO hl hI ⊢
  obtain ⟨U, hU⟩ : ∃ U, down ++ R.2 = U := ⟨_, rfl⟩
  rw [hU] at hI ⊢
  have hUl : U.length = down.length + R.2.length := by rw [← hU, List.length_append]
  have c0 : w.cell? ⟨gl, 1, none⟩ = some (.pointer (some ⟨gy, 0, none⟩)) := h.cc hs 1
  have HI := hide hI
  have HU := hide hU
  have HUL := hide hUl
  have hUb : U.length ≤ 17592186044416 := by omega
  clear hI hO hck hU hR hUl
  go_enter Try.func53, Try.ntmps53
  go_wp2_with fail
  refine kO.mono ?_
  rintro e w1 ⟨vo, own1, rfl, S1, X1, o1, E1⟩
  have lk1 := (E1 .link (fun e => by cases e) (fun _ e => by cases e)).trans h.lk
  have nu1 := (E1 .down (fun e => by cases e) (fun _ e => by cases e)).trans h.nd
  have hOU := (show OwnAt w1 5 1 vd down.length (bcells down) from S1.get nu1)
  have hOo := (show OwnAt w1 5 1 vo R.2.length (bcells R.2) from S1.get o1)
  have hsrc := src_isB (OwnAt.isBytes hOo)
  obtain ⟨aU, cU, hvU, -, -⟩ := hOU.slice
  obtain ⟨ao, co, hvo, -, -⟩ := hOo.slice
  have c2 : w1.cell? ⟨gl, 3, none⟩ = some vd := S1.cell lk1 3
  rw [hvU] at c2 hOU
  have HVU := hide hvU
  subst hvo
  have HST : Hid (∀ (v3 : Value) (w3 : World), OwnAt w3 5 1 v3 U.length (bcells U) → Grew w1 vd w3 v3 → (w3.cell? ⟨gl, 3, none⟩ = some vd ∧ w3.frozen? ⟨gl, 3, none⟩ = false) ∧ ∃ own3, Sep wb (w3.setCell ⟨gl, 3, none⟩ v3) own3 ∧ LinkAt own3 gl gx gy dx R.1 vu v3 vl up U nl xs lv ∧ ∀ k, own3 (.e k) = own (.e k)) := fun v3 w3 hO3 hG3 => by
    have S3 := S1.grew nu1 hG3 hO3
    have lk3 : upd own1 .down (.row 5 1 v3 U.length (bcells U)) .link = .obj gl (.cells #[.pointer (some ⟨gx, 0, none⟩), .pointer (some ⟨gy, 0, none⟩), vu, vd, vl, .bool lv] 39 (0, 0)) := (upd_ne _ _ (fun e => by cases e)).trans lk1
    refine ⟨⟨S3.cell lk3 3, S3.thaw lk3 3⟩, _, S3.setObj lk3 3 v3, ⟨?_, ?_, ?_, ?_, ?_, ?_⟩, fun k => ?_⟩
    · exact ((h.ex.alike (fun z => E1 (.x z) (fun e => by cases e) (fun _ e => by cases e))).updO (fun _ e => by cases e) _).updO (fun _ e => by cases e) _
    · exact (X1.updO (fun _ e => by cases e) _).updO (fun _ e => by cases e) _
    · rw [upd_at]; rfl
    · rw [upd_ne _ _ (fun e => by cases e), upd_ne _ _ (fun e => by cases e)]; exact (E1 .up (fun e => by cases e) (fun _ e => by cases e)).trans h.nu
    · rw [upd_ne _ _ (fun e => by cases e), upd_at]
    · rw [upd_ne _ _ (fun e => by cases e), upd_ne _ _ (fun e => by cases e)]; exact (E1 .lines (fun e => by cases e) (fun _ e => by cases e)).trans h.nl
    · rw [upd_ne _ _ (fun e => by cases e), upd_ne _ _ (fun e => by cases e)]; exact E1 (.e k) (fun e => by cases e) (fun _ e => by cases e)
  have HCB : Hid (bcells down ++ bcells R.2 = bcells U) := by show _ = _; rw [← HU.out, bcells_append]
  clear S1 X1 o1 E1 hOo nu1 lk1 hs kO
  go_wp2_with (at_builtin; refine wpList_append_at _ rfl (.tmp 39) (.tmp 40) 22 22 rfl 5 i0 (.int .u8 0) 1 1 Try.underlying22 hi0 hz0 hz1 hz2 rfl _ _ _ rfl hOU _ _ _ rfl hsrc ?_ ?_ ?_)
  · unfold maxLen; omega
  · omega
  intro v3 w3 hA3 hG3
  have hA4 := cut_len (m := U.length) (ys := bcells U) hA3 HUL.out.symm HCB.out
  rw [← HVU.out] at hG3
  obtain ⟨⟨c2', t2'⟩, own3, S3, L3, e3⟩ := HST.out v3 w3 hA4 hG3
  obtain ⟨a3, k3, hv3, -, -⟩ := hA4.slice
  subst hv3
  obtain ⟨W3, hW3⟩ : ∃ W3, w3.setCell ⟨gl, 3, none⟩ (.slice a3 U.length k3) = W3 := ⟨_, rfl⟩
  rw [hW3] at S3
  clear hA3 hA4 hG3 HST hsrc hOU HCB h
  go_wp2
  go_loopw [3] (fun s3 wr => ∃ (j : Nat) (D : Ds) (own4 : LN → Res) (v4 : Value), s3 = .int .i64 (n - (j : Int)) ∧ j ≤ U.length ∧ ((j : Int) ≤ n ∨ j = 0) ∧ Hid (D = dx ∧ j = 0 ∨ 0 < j ∧ D = dx.takes (U.take j)) ∧ Sep wb wr own4 ∧ LinkAt own4 gl gx gy D R.1 vu v4 vl up (U.drop j) nl xs lv ∧ ∀ k, own4 (.e k) = own (.e k)) (fun s3 _ => (intOf s3).toNat)
  case atStart => exact ⟨0, dx, own3, .slice a3 U.length k3, by simp, Nat.zero_le _, .inr rfl, .inl ⟨rfl, rfl⟩, S3, L3, e3⟩
  case round =>
    obtain ⟨j, D, own4, v4, rfl, hj, hjn, HD, S4, L4, e4⟩ := hrel
    clear S3 L3 e3
    have hO4 := (show OwnAt wr 5 1 v4 (U.drop j).length (bcells (U.drop j)) from S4.get L4.nd)
    have hdl : (U.drop j).length = U.length - j := List.length_drop
    obtain ⟨a4, k4, hv4, hk4, -⟩ := hO4.slice
    by_cases hgo : 0 < n - (j : Int)
    · obtain ⟨k, hk⟩ : ∃ k : Nat, min (min (n - (j : Int)) piece) ((U.drop j).length : Int) = (k : Int) := ⟨(min (min (n - (j : Int)) piece) ((U.drop j).length : Int)).toNat, by omega⟩
      have hkl : k ≤ (U.drop j).length := by omega
      have hmin2 : ∀ (W : World) (ts : Array TypeId) (ty : TypeId), (Builtin.min_ ts ty #[.int .i64 (min (n - (j : Int)) piece), .int .i64 ((U.drop j).length : Int)]).run Try.prog W = .ok (.int .i64 (k : Int)) W := fun W ts ty => min2_of _ W ts ty _ _ _ hk
      obtain ⟨q, hq⟩ : ∃ q, min (n - (j : Int)) piece = q := ⟨_, rfl⟩
      have hmin1 : ∀ (W : World) (ts : Array TypeId) (ty : TypeId), (Builtin.min_ ts ty #[.int .i64 (n - (j : Int)), .int .i64 piece]).run Try.prog W = .ok (.int .i64 q) W := fun W ts ty => min2_of _ W ts ty _ _ _ hq
      rw [hq] at hmin2
      have hkz : (k : Int) = 0 → (U.drop j).length = 0 := by omega
      have HKZ := hide hkz
      have hkn : (j : Int) + k ≤ n := by omega
      have hBt := IsBytes.take (OwnAt.isBytes (by rw [hv4] at hO4; exact hO4)) k hkl
      rw [sliced_zero'] at hBt
      have hrun1 : ∀ W : World, (Instr.slice 22 (.slice a4 (U.drop j).length k4) none (some (.int .i64 (k : Int))) none).run Try.prog W = .ok (.slice a4 k k4) W := fun W => by
        rw [run_slice_h W 22 _ _ k4 (by rw [elem_bytes]; exact Try.underlying22) .i64 (k : Int) (by omega) (by omega), elem_bytes, size_bytes]
        show Result.ok (sliced a4 0 k k4 1) W = _
        rw [sliced_zero']
      have hOr := (show OwnAt wr 5 1 (.slice a4 (U.drop j).length k4) (U.drop j).length (bcells (U.drop j)) by rw [← hv4]; exact hO4).from k hkl
      obtain ⟨ay, ky, hvy, -, -⟩ := hOr.slice
      have hrun2 : ∀ W : World, (Instr.slice 22 (.slice a4 (U.drop j).length k4) (some (.int .i64 (k : Int))) none none).run Try.prog W = .ok (.slice ay ((U.drop j).length - k) ky) W := fun W => by
        rw [run_slice_l W 22 _ _ k4 (by rw [elem_bytes]; exact Try.underlying22) .i64 (k : Int) (by omega) (by omega), elem_bytes, size_bytes]
        show Result.ok (sliced a4 k (U.drop j).length k4 1) W = _
        rw [hvy]
      have hck : ((U.drop j).take k).length = k := by rw [List.length_take]; omega
      have hcond := fun hfD => HI.out D j k (HD.out.elim .inl (fun h => .inr h.2)) (by omega) hfD
      have kI := d_In_at Good hG L4.ex (S4.ext (Ext.refl wr).drew) _ _ (hBt.ext (Ext.refl wr).drew) (fun hfD => by rw [hck]; exact (hcond hfD).1) (fun hfD => (hcond hfD).2)
      have c1 : wr.cell? ⟨gl, 0, none⟩ = some (.pointer (some ⟨gx, 0, none⟩)) := L4.cc S4 0
      have c2 : wr.cell? ⟨gl, 3, none⟩ = some v4 := L4.cc S4 3
      rw [hv4] at c2
      have HV4 := hide hv4
      have HVY := hide hvy
      have HKL := hide hkl
      have HL4 := hide L4
      have HTK : Hid (D.takes ((U.drop j).take k) = dx.takes (U.take (j + k))) := by
        show _ = _
        rcases HD.out with ⟨e1, e2⟩ | ⟨-, e1⟩
        · rw [e1, e2]; simp
        · rw [e1, ← dtakes_append, take_take_drop]
      have hndl : ((U.drop j).length : Int) ≤ 17592186044416 := by omega
      clear hBt hOr hvy hO4 hq hk hck hcond hkz
      generalize hdn : (U.drop j).length = dn at *
      have HDN := hide hdn
      have hdj : dn = U.length - j := by omega
      have HDJ := hide hdj
      clear hdn hdl hdj
      go_wp2_with fail
      first | go_region_with (go_at_call 19; refine kI.mono ?_; rintro e w5 ⟨rfl, own5, S5, Y5, E5⟩) | fail
      all_goals
        have lk5 := (E5 .link (fun _ e => by cases e)).trans HL4.out.lk
        have nu5 := (E5 .down (fun _ e => by cases e)).trans HL4.out.nd
        rw [HV4.out, HDN.out] at nu5
        have c25 : w5.cell? ⟨gl, 3, none⟩ = some v4 := S5.cell lk5 3
        have t25 := S5.thaw lk5 3
        rw [HV4.out] at c25
        have S6 := S5.cutFrom nu5 k HKL.out
        rw [HVY.out] at S6
        have lk6 := (upd_ne own5 (.row 5 1 (.slice ay (dn - k) ky) (dn - k) ((bcells (U.drop j)).drop k)) (show LN.link ≠ .down from fun e => by cases e)).trans lk5
        have S7 := S6.setObj lk6 3 (.slice ay (dn - k) ky)
        obtain ⟨W7, hW7⟩ : ∃ W7, w5.setCell ⟨gl, 3, none⟩ (.slice ay (dn - k) ky) = W7 := ⟨_, rfl⟩
        rw [hW7] at S7
        have hrow : (Res.row 5 1 (.slice ay (dn - k) ky) (dn - k) ((bcells (U.drop j)).drop k)) = .row 5 1 (.slice ay (dn - k) ky) (U.drop (j + k)).length (bcells (U.drop (j + k))) := by
          have e1 : (U.drop (j + k)).length = dn - k := by rw [List.length_drop, HDJ.out]; omega
          have e2 : (bcells (U.drop j)).drop k = bcells (U.drop (j + k)) := by unfold bcells; rw [← List.map_drop, List.drop_drop]
          rw [e1, e2]
        obtain ⟨own7, S7, L7, e7⟩ : ∃ own7, Sep wb W7 own7 ∧ LinkAt own7 gl gx gy (D.takes ((U.drop j).take k)) R.1 vu (.slice ay (dn - k) ky) vl up (U.drop (j + k)) nl xs lv ∧ ∀ k, own7 (.e k) = own (.e k) := by
          refine ⟨_, S7, ⟨?_, ?_, ?_, ?_, ?_, ?_⟩, fun k => ?_⟩
          · exact (Y5.updO (fun _ e => by cases e) _).updO (fun _ e => by cases e) _
          · exact ((HL4.out.ey.alike (fun z => E5 (.y z) (fun _ e => by cases e))).updO (fun _ e => by cases e) _).updO (fun _ e => by cases e) _
          · rw [upd_at]; rfl
          · rw [upd_ne _ _ (fun e => by cases e), upd_ne _ _ (fun e => by cases e)]; exact (E5 .up (fun _ e => by cases e)).trans HL4.out.nu
          · rw [upd_ne _ _ (fun e => by cases e), upd_at, hrow]
          · rw [upd_ne _ _ (fun e => by cases e), upd_ne _ _ (fun e => by cases e)]; exact (E5 .lines (fun _ e => by cases e)).trans HL4.out.nl
          · rw [upd_ne _ _ (fun e => by cases e), upd_ne _ _ (fun e => by cases e)]; exact (E5 (.e k) (fun _ e => by cases e)).trans (e4 k)
        clear S5 Y5 E5 lk5 nu5 S6 lk6 hrow kI
        by_cases hz : k = 0
        · have hkz2 := HKZ.out (by omega)
          have HF : Hid (D.takes ((U.drop j).take k) = fed dx U n ∧ U.drop (j + k) = U.drop (min n.toNat U.length)) := by
            have hdj := HDJ.out
            have hjU : j = U.length := by omega
            refine ⟨?_, ?_⟩
            · rw [HTK.out]
              unfold fed
              rw [if_neg (by omega)]
              rw [hz, hjU, Nat.add_zero, List.take_of_length_le (Nat.le_refl _), Nat.min_eq_right (by omega), List.take_of_length_le (Nat.le_refl _)]
            · rw [hz, hjU, Nat.add_zero, Nat.min_eq_right (by omega)]
          have hzb : ((k : Int) == 0) = true := by rw [hz]; rfl
          have HS7 := hide S7
          have HL7 := hide L7
          clear S7 L7 hz hkz2
          go_wp2
          refine bodyPost_ret (results_none rfl _ _ _) rfl ?_
          have L8 := HL7.out
          rw [HF.out.1, HF.out.2] at L8
          exact ⟨rfl, own7, _, HS7.out, L8, e7⟩
        · have hzb : ((k : Int) == 0) = false := by rw [beq_eq_false_iff_ne]; omega
          have HNZ := hide hz
          have hdj := HDJ.out
          have HS7 := hide S7
          have HL7 := hide L7
          have HKN := hide hkn
          clear S7 L7 hz hkn hdj
          go_wp2
          go_roundw
          case rel =>
            have hA : (n - (j : Int) - (k : Int)) = n - ((j + k : Nat) : Int) := by omega
            exact ⟨j + k, D.takes ((U.drop j).take k), own7, _, congrArg (Value.int .i64) hA, (by have := HDJ.out; have := HKL.out; omega), .inl (by have := HKN.out; omega), .inr ⟨by have := HNZ.out; omega, HTK.out⟩, HS7.out, HL7.out, e7⟩
          case measure =>
            have := HNZ.out
            simp [intOf]
            omega
    · have HF : Hid (D = fed dx U n ∧ U.drop j = U.drop (min n.toNat U.length)) := by
        rcases HD.out with ⟨e1, e2⟩ | ⟨e2, e1⟩
        · have hn : n ≤ 0 := by omega
          refine ⟨?_, ?_⟩
          · unfold fed; rw [if_pos hn]; exact e1
          · rw [e2, show n.toNat = 0 by omega, Nat.zero_min]
        · have hjn' : (j : Int) = n := by omega
          have hm : min n.toNat U.length = j := by omega
          refine ⟨?_, by rw [hm]⟩
          unfold fed
          rw [if_neg (by omega), hm]
          exact e1
      have hgo' : decide (0 < n - (j : Int)) = false := by simp; omega
      have HS4 := hide S4
      have HL4 := hide L4
      clear S4 L4 hO4
      go_wp2
      go_end0
      have L8 := HL4.out
      rw [HF.out.1, HF.out.2] at L8
      exact ⟨rfl, own4, HS4.out, ⟨_, L8⟩, e4⟩
end
end Go.Proofs.Ytoijpogadkogcaa
