/-
  The law of what goes on or has failed: pure part.
-/
import Derived.Test.YtoijpogadkogcaaRa
import Derived.Test.YtoijpogadkogcaaQx
namespace Go.Proofs.Ytoijpogadkogcaa
open Go.RowKit
set_option maxRecDepth 100000

/-- A stream is opened. -/
theorem Ds.Ok.opened {d : Ds} {m q B : Nat} (h : d.Ok (m + 2) q B) (hd : Hdrs) (hp : packs hd = true) (hc : d.coming = none) (hsd : d.side d.next = some true) (hn : d.next ≤ 99) (hl : d.mLast ≤ d.next) : (d.opened hd).Ok m q B := by
  have f := h.fits
  obtain ⟨hel, -, -⟩ := packs_enc hd hp
  have h1 : Ds.Ok { d with mLast := d.next } (m + 2) q B := by
    refine ⟨⟨by show d.next ≤ 200; omega, f.tLast, f.mMost, f.tMost, f.mCount0, f.mCount1, f.tCount0, f.tCount1, f.from0, f.from1, f.to0, f.to1, f.ctl, f.ring, f.ev, f.inn, f.pings, f.coming, f.bodies, f.st⟩, h.ids, h.newT, fun id hi hl' => h.newM id hi ?_, h.cm, h.ck, h.rb, h.cb⟩
    have : d.next < id := hl'
    omega
  have h2 := h1.bump true 1 (by omega) (by omega)
  obtain ⟨e1, e2, e3, e4, e5, -, -⟩ := bump_same { d with mLast := d.next } true 1
  have hsd' : (Ds.bump { d with mLast := d.next } true 1).side d.next = some true := by unfold Ds.side; rw [e2]; exact hsd
  have fb := begun_fits d.next true (by omega)
  have h3 : ((Ds.bump { d with mLast := d.next } true 1).setS d.next { Ds.begun d.next true with block := encAll hd }).Ok (m + 1) q B :=
    Ds.Ok.put (s := { Ds.begun d.next true with block := encAll hd }) h2 (by rw [e5]; exact hc) ⟨fb.id, fb.state, fb.from0, fb.from1, fb.to0, fb.to1, fb.headers, hel, fb.data, fb.code⟩ (by show (1 : Nat) ≠ 0; omega) ⟨fun _ => rfl, fun _ => rfl⟩
      (fun e => by rw [show ({ Ds.begun d.next true with block := encAll hd } : DS).id = d.next from rfl, hsd'] at e; cases e) (fun _ => by rw [e4]; exact Nat.le_refl _)
  exact h3.enter _

theorem pEnd_open (client : Bool) (hd : Hdrs) (hp : packs hd = true) : (pEnd client).open? hd = 0 := by
  unfold Ds.open?
  rw [if_neg (by rw [hp]; simp), if_neg (by cases client <;> simp [pEnd, Ds.new, Ds.lay]), if_neg (by cases client <;> simp [pEnd, Ds.new, Ds.lay, Ds.next])]
theorem pEnd_next (client : Bool) : (pEnd client).next = if client then 1 else 2 := rfl
/-- The end with a stream of its own. -/
def oEnd (client : Bool) (hd : Hdrs) : Ds := (pEnd client).opened hd
theorem oEnd_ok (client : Bool) (hd : Hdrs) (hp : packs hd = true) : (oEnd client hd).Ok 2999998 2 3000001 := by
  refine Ds.Ok.opened (m := 2999998) (pEnd_ok client) hd hp rfl ?_ ?_ ?_
  · cases client <;> rfl
  · cases client <;> (show _ ≤ _; simp [pEnd_next])
  · exact Nat.zero_le _
theorem oEnd_inn (client : Bool) (hd : Hdrs) : (oEnd client hd).inn = [] := (opened_keep _ _).2
theorem oEnd_live (client : Bool) (hd : Hdrs) : Live (oEnd client hd) := by
  refine ⟨(opened_keep _ _).1, ?_⟩
  have e : (oEnd client hd).ev = [] := by
    unfold oEnd Ds.opened
    dsimp only
    rw [(e5_enter _ _).ev, (e5_setS _ _ _).ev, (e5_bump _ _ _).ev]
    rfl
  rw [e]
  intro x hx
  cases hx
theorem oEnd_pings (client : Bool) (hd : Hdrs) : (oEnd client hd).pings = 0 := by
  unfold oEnd Ds.opened
  dsimp only
  rw [(e5_enter _ _).pg, (e5_setS _ _ _).pg, (e5_bump _ _ _).pg]
  rfl
theorem oEnd_last (client : Bool) (hd : Hdrs) : (oEnd client hd).mLast = (pEnd client).next ∧ (oEnd client hd).client = client := by
  unfold oEnd Ds.opened
  dsimp only
  rw [(e5_enter _ _).ml, (e5_setS _ _ _).ml, (e5_bump _ _ _).ml, (e5_enter _ _).cl, (e5_setS _ _ _).cl, (e5_bump _ _ _).cl]
  exact ⟨rfl, rfl⟩
theorem oTakes_ok (client : Bool) (hd : Hdrs) (hp : packs hd = true) (b : Bytes) (hb : b.length ≤ 1048576) : ((oEnd client hd).takes b).Ok (2999996 - b.length) 2 3000001 := by
  refine Ds.Ok.takes b ?_ ?_
  · refine (oEnd_ok client hd hp).mono ?_
    rw [oEnd_inn]
    show 2999996 - b.length + 0 + b.length + 2 ≤ 2999998
    omega
  · rw [oEnd_inn]
    show 0 + b.length ≤ _
    omega
theorem oGood (client : Bool) (hd : Hdrs) (hp : packs hd = true) (b : Bytes) (hb : b.length ≤ 1048576) : GoodB 2 3000001 { (oEnd client hd) with inn := (oEnd client hd).inn ++ b } := by
  unfold GoodB
  refine ((oEnd_ok client hd hp).inn _ ?_).mono ?_
  · rw [oEnd_inn]; show b.length ≤ _; omega
  · show 6 + ((oEnd client hd).inn ++ b).length ≤ _
    rw [oEnd_inn]; show 6 + b.length ≤ _; omega
/-- An end of which nothing was written and all goes out. -/
structure Idle (room : Int) (d d2 : Ds) (o : Bytes) : Prop where
  out : d.out room = (d2, o)
  ctl : d2.ctl = []
  ring : d2.ring = []
  e5 : E5 d d2
  ok : OutOk d2 10
theorem quiet_of {d : Ds} {m B : Nat} (h : d.Ok m 2 B) (hm : B + 11 ≤ 2 * m) (hr : ∀ n, n ∈ d.ring → ∃ s, d.str n = some s) : Quiet d 10 :=
  ⟨h.outOk (by omega) hm, fun n s hn => (h.ids n s hn).2.2.2 (by omega), hr⟩
theorem out_all (d : Ds) (room : Int) (hb : ∀ f ∈ d.ctl, f.2.2.2.length ≤ 1000) (hr : 1006 * (d.ctl.length : Int) ≤ room) : d.out room = Ds.outRing room (room.toNat + 1) { d with ctl := [] } (flat d.ctl) := by
  have e1 := outCtl_all room d.ctl [] hb (by simp; omega)
  rw [List.nil_append] at e1
  unfold Ds.out
  dsimp only
  rw [e1]
  simp only [List.length_nil, if_true]
theorem idle_of {d : Ds} {m : Nat} (h : d.Ok m 2 3000001) (hm : 1900000 ≤ m) (hr : ∀ n, n ∈ d.ring → ∃ s, d.str n = some s) (room : Int) (hroom : room = 1099511627776) : ∃ d2 o, Idle room d d2 o := by
  have hq := quiet_of h (by omega) hr
  have h1 := h.rb
  have h2 := h.cb
  have hb : ∀ f ∈ d.ctl, f.2.2.2.length ≤ 1000 := fun f hf => (h.fits.bodies f hf).1
  have hfl := flat_len d.ctl hb
  have hbn : blocksN d ≤ d.ring.length := List.length_filter_le _ _
  have hq2 : Quiet { d with ctl := [] } 10 := ⟨hq.ok.ctl0, hq.data, hq.ring⟩
  have hbn2 : blocksN { d with ctl := [] } = blocksN d := rfl
  obtain ⟨i1, i2, i3, i4⟩ := drain room 10 (room.toNat + 1) { d with ctl := [] } (flat d.ctl) hq2 (by rw [hbn2]; show d.ring.length + _ < _; omega) (by rw [hbn2]; show ((flat d.ctl).length : Int) + 7006 * ((d.ring.length + blocksN d : Nat) : Int) ≤ _; omega)
  have eo := out_all d room hb (by omega)
  exact ⟨_, _, ⟨eo, i3, i1, ⟨i2.ml, i2.pg, i2.cl, i2.fd, i2.ev⟩, i4.ok⟩⟩
/-- Behind a failure: what goes out ends with an Away frame. -/
theorem dead_out {d : Ds} {m : Nat} (h : d.Ok m 2 3000001) (hm : 1900000 ≤ m) (hd : Dead d) (room : Int) (hroom : room = 1099511627776) : ∃ l b, b.length = 3 ∧ d.asked.out room = ({ d.asked with ctl := [] }, l ++ frame 6 0 0 b) ∧ l.length ≤ 2000000000 := by
  obtain ⟨hf, -, ⟨l, b, hc, hb3⟩, hr⟩ := hd
  have h2 := h.cb
  have hb : ∀ f ∈ d.ctl, f.2.2.2.length ≤ 1000 := fun f hf => (h.fits.bodies f hf).1
  refine ⟨flat l, b, hb3, ?_, ?_⟩
  · have e2 : flat d.asked.ctl = flat l ++ frame 6 0 0 b := by
      show flat d.ctl = _
      rw [hc, flat_append]
      show flat l ++ (frame 6 0 0 b ++ []) = _
      rw [List.append_nil]
    rw [out_all d.asked room hb (by show 1006 * (d.ctl.length : Int) ≤ room; omega), e2]
    refine ring_none (turned_none _ ?_)
    unfold Ds.ready
    rw [show ({ d.asked with ctl := [] } : Ds).ring = d.ring from rfl, hr]
    rfl
  · have hl : l.length ≤ d.ctl.length := by rw [hc]; simp
    have := flat_len l (fun f hf => hb f (by rw [hc]; exact List.mem_append.2 (.inl hf)))
    omega
/-- The ping of an end that is idle. -/
theorem ping_out {d : Ds} (h1 : d.ctl = []) (h2 : d.ring = []) (h3 : d.pings = 0) : d.ping.out 99 = ({ d with pings := 1 }, frame 5 0 0 (two 1)) := by
  have e : d.ping = { d with pings := 1, ctl := [(5, 0, 0, two 1)] } := by
    unfold Ds.ping Ds.lay
    dsimp only
    rw [h1, h3]
    rfl
  rw [e]
  have ec : Ds.outCtl 99 [(5, 0, 0, two 1)] [] = ([], frame 5 0 0 (two 1)) := rfl
  unfold Ds.out
  dsimp only
  rw [ec]
  simp only [List.length_nil, if_true]
  have e2 : ({ d with pings := 1, ctl := [] } : Ds) = { d with pings := 1 } := by rw [← h1]
  rw [e2]
  refine ring_none (turned_none _ ?_)
  unfold Ds.ready
  rw [show ({ d with pings := 1 } : Ds).ring = d.ring from rfl, h2]
  rfl
end Go.Proofs.Ytoijpogadkogcaa
