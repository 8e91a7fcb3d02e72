import Derived.Test.YtoijpogadkogcaaGreatQx
namespace Go.Proofs.YtoijpogadkogcaaGreat
open Go.RowKit
set_option maxRecDepth 100000
structure E5 (d x:Ds):Prop where
 ml:x.mLast=d.mLast
 pg:x.pings=d.pings
 cl:x.client=d.client
 fd:x.failed=d.failed
 ev:x.ev=d.ev
theorem E5.refl (d:Ds):E5 d d:=⟨rfl,rfl,rfl,rfl,rfl⟩
theorem E5.trans {a b c:Ds} (h:E5 a b) (k:E5 b c):E5 a c:=⟨k.ml.trans h.ml,k.pg.trans h.pg,k.cl.trans h.cl,k.fd.trans h.fd,k.ev.trans h.ev⟩
theorem zzbfd (d:Ds) (m:Bool) (k:Int):E5 d (d.bump m k):=by unfold Ds.bump; split <;> exact ⟨rfl,rfl,rfl,rfl,rfl⟩
theorem zzbfe (d:Ds) (n:Nat) (s:DS):E5 d (d.setS n s):=⟨rfl,rfl,rfl,rfl,rfl⟩
theorem zzbff (d:Ds) (s:DS) (t:Nat):E5 d (d.move s t):=(zzbfd d _ _).trans (zzbfe _ _ _)
def Dead (x:Ds):Prop:=x.failed=true∧(∃ l c,x.ev=l++[(6,0,c)]∧1≤c∧c≤5 ∧ ∀ e∈l,e.1≠6)∧(∃ l b,x.ctl=l++[(6,0,0,b)]∧b.length=3)∧x.ring=[]
def Live (x:Ds):Prop:=x.failed=false ∧ ∀ e∈x.ev,e.1≠6
structure LD (d x:Ds):Prop where
 ml:x.mLast=d.mLast
 pg:x.pings=d.pings
 cl:x.client=d.client
 ld:Live x∨Dead x
theorem LD.of {d x:Ds} (h:E5 d x) (hl:Live d):LD d x:=⟨h.ml,h.pg,h.cl,.inl ⟨h.fd.trans hl.1,by rw [h.ev]; exact hl.2⟩⟩
theorem LD.tell {d x:Ds} (h:E5 d x) (hl:Live d) (k i c:Nat) (hk:k≠6):LD d (x.tell k i c) :=
 ⟨h.ml,h.pg,h.cl,.inl ⟨h.fd.trans hl.1,fun e he=>by
  have he':e∈x.ev++[(k,i,c)]:=he;rcases List.mem_append.1 he' with h1 | h1
  ·rw [h.ev] at h1; exact hl.2 e h1
  ·rw [List.mem_singleton.1 h1]; exact hk⟩⟩
theorem LD.fail {d x:Ds} (h:E5 d x) (hl:Live d) (c:Nat) (h1:1≤c) (h5:c≤5):LD d (x.fail c) :=
 ⟨h.ml,h.pg,h.cl,.inr ⟨rfl,⟨x.ev,c,rfl,h1,h5,by rw [h.ev]; exact hl.2⟩,⟨x.ctl,two x.tLast++[UInt8.ofNat c],rfl,by simp [two]⟩,rfl⟩⟩
theorem LD.ite {d:Ds} {p:Prop} [Decidable p] {a b:Ds} (ha:LD d a) (hb:LD d b):LD d (if p then a else b):=by split <;> assumption
section
variable {d:Ds}
end
def flat:List (Nat × Nat × Nat × Bytes)→Bytes
 | []=>[]
 | f::r=>frame f.1 f.2.1 f.2.2.1 f.2.2.2++flat r
theorem zph (room:Int):∀ (l:List (Nat × Nat × Nat × Bytes)) (out:Bytes),(∀ f∈l,f.2.2.2.length≤1000)→(out.length:Int)+1006 * l.length≤room→Ds.outCtl room l out=([],out++flat l)
 | [],out,_,_=>by rw [zjd]; show _=([],out++[]); rw [List.append_nil]
 | f::r,out,hb,hr=>by
  have h1:=hb f (by simp);have hl:((f::r).length:Int)=r.length+1:=by simp
  rw [hl] at hr;rw [zia,if_neg (by omega),zph room r _ (fun g hg=>hb g (by simp [hg])) (by rw [List.length_append,zag]; omega)]
  show _=([],out++(_++flat r))
  rw [List.append_assoc]
theorem zum:∀ (l:List (Nat × Nat × Nat × Bytes)),(∀ f∈l,f.2.2.2.length≤1000)→(flat l).length≤1006 * l.length
 | [],_=>Nat.zero_le _
 | f::r,hb=>by
  have h1:=hb f (by simp);have h2:=zum r (fun g hg=>hb g (by simp [hg]))
  show (_++flat r).length≤1006 * (r.length+1)
  rw [List.length_append,zag];omega
def blocksN (d:Ds):Nat:=(d.ring.filter (fun n=>decide ((d.stOf n).block≠[]))).length
structure Quiet (d:Ds) (c:Nat:=0):Prop where
 ok:OutOk d c
 data:∀ n s,d.str n=some s→s.data=[]
 ring:∀ n,n∈d.ring → ∃ s,d.str n=some s
theorem zeg (d:Ds) (room:Int) (h1:d.ctl=[]) (h2:d.ring=[]):d.out room=(d,[]):=by
 unfold Ds.out;dsimp only;rw [h1,zjd];simp only [List.length_nil,if_true];have e:({ d with ctl:=[] }:Ds)=d:=by rw [← h1]
 rw [e];refine zfo (zfh _ ?_);unfold Ds.ready;rw [h2];rfl
theorem zzi (d:Ds) (k:Nat) (s:DS) (h:s.waits=false):d.leave k s = { d with ring:=d.ring.eraseIdx k }:=by
 unfold Ds.leave;rw [if_neg (by rw [h]; simp)]
theorem zzbbn (d:Ds) (k:Nat) (s:DS) (n:Nat) (h:n∈(d.leave k s).ring):n∈d.ring∨n=s.id:=by
 unfold Ds.leave at h;dsimp only at h;split at h
 ·rw [zct] at h;dsimp only at h;split at h
  ·exact .inl (List.mem_of_mem_eraseIdx h)
  ·rcases List.mem_append.1 h with h | h
   ·exact .inl (List.mem_of_mem_eraseIdx h)
   ·exact .inr (by simpa using h)
 ·exact .inl (List.mem_of_mem_eraseIdx h)
theorem zmx (id fuel kind:Nat) (b:Bytes):(Ds.hframes id fuel kind b).length≠0:=by
 cases fuel with
 | zero=>unfold Ds.hframes; rw [zag]; omega
 | succ f =>
  unfold Ds.hframes;split
  ·rw [List.length_append,zag]; omega
  ·rw [zag]; omega
structure Less (d d2:Ds) (c:Nat):Prop where
 quiet:Quiet d2 c
 less:d2.ring.length+blocksN d2+1≤d.ring.length+blocksN d
 e5:E5 d d2
 ctl:d2.ctl=d.ctl
theorem zwk (d:Ds) {n:Nat} {r:List Nat} (hr:d.ring=n::r):blocksN d=(if (d.stOf n).block≠[] then 1 else 0)+(r.filter (fun n=>decide ((d.stOf n).block≠[]))).length:=by
 unfold blocksN;rw [hr,List.filter_cons];by_cases h:(d.stOf n).block≠[]
 ·simp only [h,if_true,decide_true,List.length_cons,ne_eq,not_false_iff]; omega
 ·simp [h]
theorem Quiet.first {d:Ds} {c:Nat} (h:Quiet d c) {n:Nat} {r:List Nat} (hr:d.ring=n::r) {s:DS} (hs:d.str n=some s) (room:Int) (hroom:7006≤room) :
  (d.turn s room).1.length≠0∧(d.turn s room).1.length≤7006∧Less d ((d.turn s room).2.1.leave 0 (d.turn s room).2.2) c:=by
 obtain ⟨hid,hen⟩:=h.ok.ids _ _ hs;have hda:=h.data _ _ hs;have fs:=h.ok.fits.st _ _ hs;have hs':d.str s.id=some s:=by rw [hid]; exact hs
 have hso:d.stOf n=s:=zbi hs;have hk:0 < d.ring.length:=by rw [hr]; simp
 have hg0:d.ring.getD 0 0=n:=by rw [hr]; rfl
 have hs0:d.str (d.ring.getD 0 0)=some s:=by rw [hg0]; exact hs
 have he0:d.ring.eraseIdx 0=r:=by rw [hr]; rfl
 have hlen:d.ring.length=r.length+1:=by rw [hr]; rfl
 have hbh:=zwk d hr;by_cases hb:s.block≠[]
 ·have hfl:(Ds.headerFrames s.id s.block).length≤7006:=by
   have:=zfd s.id s.block.length 1 s.block (Nat.le_refl _)
   have:=fs.block
   unfold Ds.headerFrames; omega
  have e:=zfm d s room hb;rw [if_neg (by omega)] at e;have hne:(d.turn s room).1.length≠0:=by rw [e]; exact zmx _ _ _ _
  obtain ⟨m,fm,tm,im,idm,sm⟩:=h.ok.turn hk hs0 room hne;refine ⟨hne,by rw [e]; exact hfl,?_⟩;rw [e] at fm tm im idm sm ⊢;dsimp only at fm tm im idm sm ⊢;have hrl:=zbs (d.setS s.id { s with block:=[] }) 0 { s with block:=[] };refine ⟨⟨znt (d1:=d.setS s.id { s with block:=[] }) hk (by show s.id=d.ring.getD 0 0; rw [hg0]; exact hid) fm tm im,fun k t ht => ?_,fun k hk' => ?_⟩,?_,?_,?_⟩
  ·rw [hrl] at ht;have ht':(d.setS s.id { s with block:=[] }).str k=some t:=ht;rw [zac] at ht';by_cases e1:k=s.id
   ·rw [if_pos e1] at ht'; injection ht' with ht'; rw [← ht']; exact hda
   ·rw [if_neg e1] at ht'; exact h.data k t ht'
  ·rw [hrl]
   show ∃ t,(d.setS s.id { s with block:=[] }).str k=some t
   rw [zac];by_cases e1:k=s.id
   ·exact ⟨_,if_pos e1⟩
   ·rw [if_neg e1];rcases zzbbn _ _ _ _ hk' with h1 | h1
    ·exact h.ring k h1
    ·exact absurd h1 e1
  ·have hl:=zhp (d.setS s.id { s with block:=[] }) 0 { s with block:=[] } hk;have hl':((d.setS s.id { s with block:=[] }).leave 0 { s with block:=[] }).ring.length≤d.ring.length:=hl;have hb2:blocksN ((d.setS s.id { s with block:=[] }).leave 0 { s with block:=[] })≤(r.filter (fun n=>decide ((d.stOf n).block≠[]))).length:=by
    have e3:blocksN ((d.setS s.id { s with block:=[] }).leave 0 { s with block:=[] })=(((d.setS s.id { s with block:=[] }).leave 0 { s with block:=[] }).ring.filter (fun n=>decide (((d.setS s.id { s with block:=[] }).stOf n).block≠[]))).length:=by
     unfold blocksN; rw [hrl]; rfl
    rw [e3];refine Nat.le_trans (zfe _ _ _ _) ?_;have e4:decide (((d.setS s.id { s with block:=[] }).stOf ({ s with block:=[] }:DS).id).block≠[])=false:=by rw [zbh]; simp
    rw [e4]
    show ((d.ring.eraseIdx 0).filter _).length+0≤_
    rw [he0];refine zfn _ _ (fun k hk2 => ?_) r;rw [zbh] at hk2;by_cases e1:k=s.id
    ·rw [if_pos e1] at hk2; simp at hk2
    ·rw [if_neg e1] at hk2; exact hk2
   rw [hso,if_pos hb] at hbh;omega
  ·rw [hrl]; exact ⟨rfl,rfl,rfl,rfl,rfl⟩
  ·rw [hrl]; rfl
 ·have hb':s.block=[]:=by
   cases e:s.block with
   | nil=>rfl
   | cons a l=>exact absurd (by rw [e]; simp) hb
  rw [hso,if_neg hb] at hbh;have key:∀ (d1:Ds) (s1:DS),d1.ring=d.ring→s1.waits=false→(∀ k,d1.str k=if k=s.id then some s1 else d.str k)→s1.id=s.id→s1.block=[]→s1.data=[]→E5 d d1→d1.ctl=d.ctl→OutOk (d1.leave 0 s1) c→Less d (d1.leave 0 s1) c:=fun d1 s1 r1 w1 q1 i1 b1 a1 e1 c1 o1=>by
   have hg:=zzi d1 0 s1 w1;rw [hg] at o1 ⊢;have er:d1.ring.eraseIdx 0=r:=by rw [r1,he0]
   refine ⟨⟨o1,fun k t ht => ?_,fun k hk' => ?_⟩,?_,⟨e1.ml,e1.pg,e1.cl,e1.fd,e1.ev⟩,c1⟩
   ·have ht':d1.str k=some t:=ht;rw [q1] at ht';by_cases e2:k=s.id
    ·rw [if_pos e2] at ht'; injection ht' with ht'; rw [← ht']; exact a1
    ·rw [if_neg e2] at ht'; exact h.data k t ht'
   ·show ∃ t,d1.str k=some t
    rw [q1];by_cases e2:k=s.id
    ·exact ⟨_,if_pos e2⟩
    ·rw [if_neg e2];have hk2:k∈d1.ring.eraseIdx 0:=hk';rw [er] at hk2;exact h.ring k (by rw [hr]; exact List.mem_cons_of_mem _ hk2)
   ·have hb2:blocksN { d1 with ring:=d1.ring.eraseIdx 0 }≤(r.filter (fun n=>decide ((d.stOf n).block≠[]))).length:=by
     unfold blocksN;dsimp only;rw [er];refine zfn _ _ (fun k hk2 => ?_) r;have e3:Ds.stOf { d1 with ring:=r } k=if k=s.id then s1 else d.stOf k:=by
      unfold Ds.stOf;dsimp only;rw [q1];by_cases e2:k=s.id
      ·rw [if_pos e2,if_pos e2]; rfl
      ·rw [if_neg e2,if_neg e2]
     rw [e3] at hk2;by_cases e2:k=s.id
     ·rw [if_pos e2,b1] at hk2; simp at hk2
     ·rw [if_neg e2] at hk2; exact hk2
    have el:(d1.ring.eraseIdx 0).length=r.length:=by rw [er]
    show (d1.ring.eraseIdx 0).length+_+1≤_
    omega
  cases ht:stTells s.state with
  | true =>
   have e:=zfx d s room hb' ht;rw [if_neg (by omega)] at e;have hne:(d.turn s room).1.length≠0:=by rw [e]; dsimp only; rw [zag]; omega
   obtain ⟨m,fm,tm,im,idm,sm⟩:=h.ok.turn hk hs0 room hne;refine ⟨hne,by rw [e]; dsimp only; rw [zag]; simp,?_⟩;rw [e] at fm tm im idm sm ⊢;dsimp only at fm tm im idm sm ⊢;refine key (d.move s 8) (Ds.moved s 8) (zbb _ _ _) ?_ (fun k => ?_) rfl hb' hda (zzbff _ _ _) (zld _ _ _).2.2 (znt (by rw [zbb]; exact hk) (by rw [zbb]; show s.id=_; rw [hg0]; exact hid) fm tm im)
   ·show (decide (s.block≠[]) || stTells 8 || decide (0 < s.data.length) || (s.ends && stSends 8))=false
    rw [hda,hen,hb']; rfl
   ·unfold Ds.move Ds.bump;rw [zac];split
    ·rfl
    ·split <;> rfl
  | false =>
   have hlt:¬ room < 6+min s.data.length 1:=by rw [hda]; simp; omega
   have hfr0:=fs.from0;have hdf0:=h.ok.fits.from0;have hn0:d.dataN s room=((0:Nat):Int):=by unfold Ds.dataN; rw [hda]; simp; omega
   have e:=zho d s room hb' ht hen 0 hn0;rw [if_neg hlt] at e;have hne:(d.turn s room).1.length≠0:=by rw [e]; unfold dataT; dsimp only; rw [zag]; omega
   obtain ⟨m,fm,tm,im,idm,sm⟩:=h.ok.turn hk hs0 room hne;refine ⟨hne,by rw [e]; unfold dataT; dsimp only; rw [zag]; simp,?_⟩;rw [e] at fm tm im idm sm ⊢;unfold dataT at fm tm im idm sm ⊢;dsimp only at fm tm im idm sm ⊢;refine key _ _ rfl ?_ (fun k=>rfl) rfl hb' (by rw [hda]; rfl) ⟨rfl,rfl,rfl,rfl,rfl⟩ rfl (by refine znt ?_ ?_ fm tm im; exact hk; show s.id=d.ring.getD 0 0; rw [hg0]; exact hid)
   show (decide (s.block≠[]) || stTells s.state || decide (0 < (s.data.drop 0).length) || (s.ends && stSends s.state))=false
   rw [hda,hen,hb',ht]; rfl
open Go.RowKit
set_option maxRecDepth 100000
section
variable {N:Type} {own:N→Res} {nm:DN→N} {g:Nat} {d:Ds} {v:DV} {wb w:World}
theorem DevAt.setD (h:DevAt own nm g d v) {s:DS} (hn:d.str s.id=some s) (u:Bytes) (x:Value) :
  DevAt (upd (upd own (nm (.data s.id)) (.row 5 1 x u.length (bcells u))) (nm (.st s.id)) (.obj (v.ptr s.id) (.cells ((dsCells g s (v.sv s.id)).setIfInBounds 7 x) 94 (0,0)))) nm g (d.setS s.id { s with data:=u }) { v with sv:=fun k=>if k=s.id then { v.sv s.id with vD:=x } else v.sv k }:=by
 have ehdr:=h.hdr hn;have eblock:=h.block hn;have eunread:=h.unread hn;refine h.modS hn { s with data:=u } { v.sv s.id with vD:=x } _ ?_ ?_ ?_ ?_ ?_ ?_ rfl rfl rfl (fun e=>h.nilB _ _ hn e) (fun e=>h.nilH _ _ hn e)
 ·rw [zad]; rfl
 ·rw [zab h.inj,if_neg (by simp),zab h.inj,if_neg (by simp)]; exact ehdr
 ·rw [zab h.inj,if_neg (by simp),zab h.inj,if_neg (by simp)]; exact eblock
 ·rw [zab h.inj,if_neg (by simp),zab h.inj,if_pos rfl]
 ·rw [zab h.inj,if_neg (by simp),zab h.inj,if_neg (by simp)]; exact eunread
 ·intro y h0 _ _ h4 _;rw [zab h.inj,if_neg h0,zab h.inj,if_neg h4]
theorem zbd (a:Option Addr) (n cap:Nat):sliced a 0 n cap 1 = .slice a n cap:=by
 unfold sliced;cases a with
 | none=>simp
 | some x=>simp [Addr.add]
def RWrite {N:Type} (nm:DN→N) (g:Nat) (wb:World) (own:N→Res) (d:Ds) (v:DV) (id:Int) (data:Bytes) (e:Ending) (w':World):Prop :=
 (d.unwritable (d.find id)≠0∧e = .returned (.tuple #[.int .i64 0,.int .i64 (d.unwritable (d.find id):Int)])∧LeftD nm g wb own d v w' d) ∨
 (d.unwritable (d.find id)=0∧e = .returned (.tuple #[.int .i64 (Ds.room (d.find id) data:Int),.int .i64 0])∧LeftD nm g wb own d v w' (d.write (d.find id) data))
set_option maxHeartbeats 6400000 in
theorem zwl (h:DevAt own nm g d v) (hs:Sep wb w own) (hf:d.Fits 1) (id:Int) (h1:-9223372036854775808≤id) (h2:id≤9223372036854775807) (vb:Value) (data:Bytes) (hb:IsBytes w vb data) :
  Calls Tryz.prog 30 #[.pointer (some ⟨g,0,none⟩),.int .i64 id,vb] w (RWrite nm g wb own d v id data):=by
 obtain ⟨i0,hi0,hz0,hz1,hz2⟩:=zam Tryz.infoU;have HB:=hide hb;obtain ⟨ab,cb,hvb,hcb1,hcb2,-⟩:=hb;subst hvb;cases hr:d.real id with
 | none =>
  obtain ⟨z,hz,hzz⟩:=zev d id;obtain ⟨W1,hW⟩:∃ W1,w.alloc (.cells (zeroSt z) 94)=W1:=⟨_,rfl⟩;obtain ⟨hE,z2,z8,-⟩:=zgj w z hW;have S1:=hs.ext hE;have k:=zbl h hs h1 h2 hr hz hW;have efind:=zde hr;rw [hz] at efind;have ku:=zby h S1 w.heap.size { state:=z } (by show z≤8; rcases hzz with e | e <;> omega) z2 z8;rw [← efind] at ku;have hne:d.unwritable (d.find id)≠0:=by
   rw [efind];unfold Ds.unwritable;rcases hzz with rfl | rfl
   ·rw [if_pos rfl]; omega
   ·rw [if_neg (by show ¬ (8:Nat)=0; omega)];split
    ·omega
    ·show (if stReset 8=true then 7 else _)≠0
     rw [if_pos (by decide)]; omega
  have fin:RWrite nm g wb own d v id data (.returned (.tuple #[.int .i64 0,.int .i64 (d.unwritable (d.find id):Int)])) W1:=.inl ⟨hne,rfl,h.left S1⟩;have HF:=hide fin;have hnb:((d.unwritable (d.find id):Int) != 0)=true:=bne_iff_ne.2 (by omega);generalize d.unwritable (d.find id)=er at *;clear fin hne efind hr hz hW
  go_enter Tryz.func30,Tryz.ntmps30
  go_wp2_with fail
  refine k.mono ?_;rintro e w1 ⟨rfl,hw⟩;replace hw:=hw.symm;subst hw
  go_wp2_with fail
  refine ku.mono ?_;rintro e w2 ⟨rfl,hw⟩;replace hw:=hw.symm;subst hw
  go_wp2
  go_ret2
  exact HF.out
 | some s =>
  have hst:=zdd h hr;have fs:=hf.st _ _ hst;have k:=zbu h hs h1 h2 hr;have efind:=zbz hr;have ku:=zby h hs (v.ptr s.id) s fs.state (h.s2 hs hst) (h.s8 hs hst);by_cases hu:d.unwritable s=0
  ·have f7:=h.s7 hs hst;have hrow:=h.data hst;obtain ⟨aD,cD,hvD,hcD,-⟩:=(hs.get hrow).slice;rw [hvD] at f7;have fd:=fs.data;rw [hu] at ku;have hrm:Ds.room s data=min data.length (256 - s.data.length):=rfl;by_cases hcmp:256 - (s.data.length:Int) < (data.length:Int)
   ·by_cases hz:Ds.room s data=0
    ·have HF:Hid (RWrite nm g wb own d v id data (.returned (.tuple #[.int .i64 0,.int .i64 0])) w):=by
      refine .inr ⟨by rw [efind]; exact hu,by rw [efind,hz]; rfl,?_⟩;rw [efind];unfold Ds.write;rw [if_pos hz];exact h.left hs
     have hki:(256 - (s.data.length:Int))=0:=by omega
     have HZK:=hide hki;have hnp:¬ (0:Int) < (256 - (s.data.length:Int)):=by omega
     clear hz hrm hu efind hr hki;generalize data.length=dl at *;generalize s.data.length=sl at *
     go_enter Tryz.func30,Tryz.ntmps30
     go_wp2_with fail
     refine k.mono ?_;rintro e w1 ⟨rfl,hw⟩;replace hw:=hw.symm;subst hw
     go_wp2_with fail
     refine ku.mono ?_;rintro e w2 ⟨rfl,hw⟩;replace hw:=hw.symm;subst hw
     go_wp2
     go_ret2
     show RWrite nm g wb own d v id data (.returned (.tuple #[.int .i64 (256 - (sl:Int)),.int .i64 0])) w
     rw [HZK.out];exact HF.out
    ·have hkk:(256 - (s.data.length:Int))=((Ds.room s data:Nat):Int):=by omega
     have hpos:(0:Int) < (256 - (s.data.length:Int)):=by omega
     obtain ⟨n,hn⟩:∃ n,Ds.room s data=n:=⟨_,rfl⟩;rw [hn] at hkk;have hnd:n≤data.length:=by omega
     have hBt:=IsBytes.take HB.out n hnd;rw [zbd] at hBt;have hrun:∀ W:World,(Instr.slice 34 (.slice ab data.length cb) none (some (.int .i64 (256 - (s.data.length:Int)))) none).run Tryz.prog W = .ok (.slice ab n cb) W:=fun W=>by
      rw [hkk,run_slice_h W 34 _ _ cb (by rw [zae]; exact Tryz.underlying34) .i64 (n:Int) (by omega) (by omega),zae,zan]
      show Result.ok (sliced ab 0 n cb 1) W=_
      rw [zbd]
     have hsrc:=zbw (hBt.ext (Ext.refl w).drew);have hdt:(data.take n).length=n:=by rw [List.length_take]; omega
     rw [hdt] at hsrc;have Sd:=hs.ext (Ext.refl w).drew;have hOd:OwnAt w.drew 5 1 (.slice aD s.data.length cD) s.data.length (bcells s.data):=by
      have:=Sd.get hrow
      rw [hvD] at this;exact this
     have HWR:Hid (RWrite nm g wb own d v id data=fun e w'=>e = .returned (.tuple #[.int .i64 (n:Int),.int .i64 0])∧LeftD nm g wb own d v w' ((d.setS s.id { s with data:=s.data++data.take n }).enter s.id)):=by
      show _=_
      funext e w'
      unfold RWrite;rw [efind];have hw:d.write s data=(d.setS s.id { s with data:=s.data++data.take n }).enter s.id:=by unfold Ds.write; rw [if_neg hz,hn]
      rw [hw,hn];simp [hu]
     rw [HWR.out];have HKK:=hide hkk;have HVD:=hide hvD;have HCB:Hid (bcells s.data++bcells (data.take n)=bcells (s.data++data.take n)):=(zai _ _).symm;have HNL:Hid (s.data.length+n=(s.data++data.take n).length):=by show _=_; rw [List.length_append,hdt]
     have hfd2:(s.data++data.take n).length≤256:=by rw [List.length_append,hdt]; omega
     have FN:(d.setS s.id { s with data:=s.data++data.take n }).Fits 1:=hf.setS _ _ ⟨fs.id,fs.state,fs.from0,fs.from1,fs.to0,fs.to1,fs.headers,fs.block,hfd2,fs.code⟩;have hls:s.data.length+n≤256:=by rw [HNL.out]; exact hfd2
     clear hz hrm hu efind hr hkk hn hnd hBt hdt HB hfd2 hvD;generalize hND:s.data++data.take n=ND at *;generalize data.length=dl at *;generalize hsl:s.data.length=sl at *;have HSL:=hide hsl;clear hsl hND;have ft7:=h.sthaw hs hst 7
     go_enter Tryz.func30,Tryz.ntmps30
     go_wp2_with fail
     refine k.mono ?_;rintro e w1 ⟨rfl,hw⟩;replace hw:=hw.symm;subst hw
     go_wp2_with fail
     refine ku.mono ?_;rintro e w2 ⟨rfl,hw⟩;replace hw:=hw.symm;subst hw
     go_wp2_with fail
     go_region_law (
      refine zdo rfl (.tmp 35) (.tmp 38) 34 34 rfl 5 i0 (.int .u8 0) 1 1 Tryz.underlying34 hi0 hz0 hz1 hz2 rfl (.slice aD sl cD) sl (bcells s.data) ?_ hOd (.slice ab n cb) n (bcells (data.take n)) ?_ hsrc ?_ ?_ ?_
      ·simp [Act.eval]
      ·simp [Act.eval]
      ·unfold maxLen; omega
      ·omega
      intro v5 w5 hO5 hG5;have hO6:=zap hO5 HNL.out HCB.out;rw [← HVD.out] at hG5;obtain ⟨a5,k5,hv5,_,_⟩:=hO6.slice;subst hv5;have S5:=Sd.grew hrow hG5 hO6;have c5:=(zab h.inj own (.data s.id) (.st s.id) (.row 5 1 (.slice a5 ND.length k5) ND.length (bcells ND))).trans ((if_neg (by simp)).trans (h.st hst));have t7:w5.frozen? ⟨v.ptr s.id,7,none⟩=false:=S5.thaw c5 7;have f7':w5.cell? ⟨v.ptr s.id,7,none⟩=some (v.sv s.id).vD:=S5.cell c5 7;clear hG5 hO5 hO6)
     all_goals
      have S6:=S5.setObj c5 7 (.slice a5 ND.length k5);have H6:=h.setD hst ND (.slice a5 ND.length k5);obtain ⟨W6,hW6⟩:∃ W6,w5.setCell ⟨v.ptr s.id,7,none⟩ (.slice a5 ND.length k5)=W6:=⟨_,rfl⟩;rw [hW6] at S6;have E6:=((SameD.refl nm own).upd (.data s.id) (.row 5 1 (.slice a5 ND.length k5) ND.length (bcells ND))).upd (.st s.id) (.obj (v.ptr s.id) (.cells ((dsCells g s (v.sv s.id)).setIfInBounds 7 (.slice a5 ND.length k5)) 94 (0,0)));have n6:(d.setS s.id { s with data:=ND }).str s.id=some { s with data:=ND }:=by rw [zac]; exact if_pos rfl
      have ke:=zcz H6 S6 FN (n:=s.id) n6;dsimp only at ke;have HE:=hide E6;clear S5 H6 S6 E6 Sd hOd
      go_wp2_with fail
      refine ke.mono ?_;rintro e w7 ⟨rfl,hL⟩;have HL:=hide (hL.trans (own:=own) (d:=d) (v:=v) HE.out rfl (fun _=>rfl) (fun k hk=>⟨rfl,zaj _ _ _ k hk⟩));clear hL
      go_wp2
      go_ret2
      refine ⟨?_,HL.out⟩
      show Ending.returned (.tuple #[.int .i64 (256 - (sl:Int)),.int .i64 0])=_
      rw [HKK.out]
   ·by_cases hz:Ds.room s data=0
    ·have HF:Hid (RWrite nm g wb own d v id data (.returned (.tuple #[.int .i64 0,.int .i64 0])) w):=by
      refine .inr ⟨by rw [efind]; exact hu,by rw [efind,hz]; rfl,?_⟩;rw [efind];unfold Ds.write;rw [if_pos hz];exact h.left hs
     have hki:((data.length:Int))=0:=by omega
     have HZK:=hide hki;have hnp:¬ (0:Int) < ((data.length:Int)):=by omega
     clear hz hrm hu efind hr hki;generalize data.length=dl at *;generalize s.data.length=sl at *
     go_enter Tryz.func30,Tryz.ntmps30
     go_wp2_with fail
     refine k.mono ?_;rintro e w1 ⟨rfl,hw⟩;replace hw:=hw.symm;subst hw
     go_wp2_with fail
     refine ku.mono ?_;rintro e w2 ⟨rfl,hw⟩;replace hw:=hw.symm;subst hw
     go_wp2
     go_ret2
     show RWrite nm g wb own d v id data (.returned (.tuple #[.int .i64 ((dl:Int)),.int .i64 0])) w
     rw [HZK.out];exact HF.out
    ·have hkk:((data.length:Int))=((Ds.room s data:Nat):Int):=by omega
     have hpos:(0:Int) < ((data.length:Int)):=by omega
     obtain ⟨n,hn⟩:∃ n,Ds.room s data=n:=⟨_,rfl⟩;rw [hn] at hkk;have hnd:n≤data.length:=by omega
     have hBt:=IsBytes.take HB.out n hnd;rw [zbd] at hBt;have hrun:∀ W:World,(Instr.slice 34 (.slice ab data.length cb) none (some (.int .i64 ((data.length:Int)))) none).run Tryz.prog W = .ok (.slice ab n cb) W:=fun W=>by
      rw [hkk,run_slice_h W 34 _ _ cb (by rw [zae]; exact Tryz.underlying34) .i64 (n:Int) (by omega) (by omega),zae,zan]
      show Result.ok (sliced ab 0 n cb 1) W=_
      rw [zbd]
     have hsrc:=zbw (hBt.ext (Ext.refl w).drew);have hdt:(data.take n).length=n:=by rw [List.length_take]; omega
     rw [hdt] at hsrc;have Sd:=hs.ext (Ext.refl w).drew;have hOd:OwnAt w.drew 5 1 (.slice aD s.data.length cD) s.data.length (bcells s.data):=by
      have:=Sd.get hrow
      rw [hvD] at this;exact this
     have HWR:Hid (RWrite nm g wb own d v id data=fun e w'=>e = .returned (.tuple #[.int .i64 (n:Int),.int .i64 0])∧LeftD nm g wb own d v w' ((d.setS s.id { s with data:=s.data++data.take n }).enter s.id)):=by
      show _=_
      funext e w'
      unfold RWrite;rw [efind];have hw:d.write s data=(d.setS s.id { s with data:=s.data++data.take n }).enter s.id:=by unfold Ds.write; rw [if_neg hz,hn]
      rw [hw,hn];simp [hu]
     rw [HWR.out];have HKK:=hide hkk;have HVD:=hide hvD;have HCB:Hid (bcells s.data++bcells (data.take n)=bcells (s.data++data.take n)):=(zai _ _).symm;have HNL:Hid (s.data.length+n=(s.data++data.take n).length):=by show _=_; rw [List.length_append,hdt]
     have hfd2:(s.data++data.take n).length≤256:=by rw [List.length_append,hdt]; omega
     have FN:(d.setS s.id { s with data:=s.data++data.take n }).Fits 1:=hf.setS _ _ ⟨fs.id,fs.state,fs.from0,fs.from1,fs.to0,fs.to1,fs.headers,fs.block,hfd2,fs.code⟩;have hls:s.data.length+n≤256:=by rw [HNL.out]; exact hfd2
     clear hz hrm hu efind hr hkk hn hnd hBt hdt HB hfd2 hvD;generalize hND:s.data++data.take n=ND at *;generalize data.length=dl at *;generalize hsl:s.data.length=sl at *;have HSL:=hide hsl;clear hsl hND;have ft7:=h.sthaw hs hst 7
     go_enter Tryz.func30,Tryz.ntmps30
     go_wp2_with fail
     refine k.mono ?_;rintro e w1 ⟨rfl,hw⟩;replace hw:=hw.symm;subst hw
     go_wp2_with fail
     refine ku.mono ?_;rintro e w2 ⟨rfl,hw⟩;replace hw:=hw.symm;subst hw
     go_wp2_with fail
     go_region_law (
      refine zdo rfl (.tmp 35) (.tmp 38) 34 34 rfl 5 i0 (.int .u8 0) 1 1 Tryz.underlying34 hi0 hz0 hz1 hz2 rfl (.slice aD sl cD) sl (bcells s.data) ?_ hOd (.slice ab n cb) n (bcells (data.take n)) ?_ hsrc ?_ ?_ ?_
      ·simp [Act.eval]
      ·simp [Act.eval]
      ·unfold maxLen; omega
      ·omega
      intro v5 w5 hO5 hG5;have hO6:=zap hO5 HNL.out HCB.out;rw [← HVD.out] at hG5;obtain ⟨a5,k5,hv5,_,_⟩:=hO6.slice;subst hv5;have S5:=Sd.grew hrow hG5 hO6;have c5:=(zab h.inj own (.data s.id) (.st s.id) (.row 5 1 (.slice a5 ND.length k5) ND.length (bcells ND))).trans ((if_neg (by simp)).trans (h.st hst));have t7:w5.frozen? ⟨v.ptr s.id,7,none⟩=false:=S5.thaw c5 7;have f7':w5.cell? ⟨v.ptr s.id,7,none⟩=some (v.sv s.id).vD:=S5.cell c5 7;clear hG5 hO5 hO6)
     all_goals
      have S6:=S5.setObj c5 7 (.slice a5 ND.length k5);have H6:=h.setD hst ND (.slice a5 ND.length k5);obtain ⟨W6,hW6⟩:∃ W6,w5.setCell ⟨v.ptr s.id,7,none⟩ (.slice a5 ND.length k5)=W6:=⟨_,rfl⟩;rw [hW6] at S6;have E6:=((SameD.refl nm own).upd (.data s.id) (.row 5 1 (.slice a5 ND.length k5) ND.length (bcells ND))).upd (.st s.id) (.obj (v.ptr s.id) (.cells ((dsCells g s (v.sv s.id)).setIfInBounds 7 (.slice a5 ND.length k5)) 94 (0,0)));have n6:(d.setS s.id { s with data:=ND }).str s.id=some { s with data:=ND }:=by rw [zac]; exact if_pos rfl
      have ke:=zcz H6 S6 FN (n:=s.id) n6;dsimp only at ke;have HE:=hide E6;clear S5 H6 S6 E6 Sd hOd
      go_wp2_with fail
      refine ke.mono ?_;rintro e w7 ⟨rfl,hL⟩;have HL:=hide (hL.trans (own:=own) (d:=d) (v:=v) HE.out rfl (fun _=>rfl) (fun k hk=>⟨rfl,zaj _ _ _ k hk⟩));clear hL
      go_wp2
      go_ret2
      refine ⟨?_,HL.out⟩
      show Ending.returned (.tuple #[.int .i64 ((dl:Int)),.int .i64 0])=_
      rw [HKK.out]
  ·have fin:RWrite nm g wb own d v id data (.returned (.tuple #[.int .i64 0,.int .i64 (d.unwritable s:Int)])) w:=.inl ⟨by rw [efind]; exact hu,by rw [efind],h.left hs⟩;have HF:=hide fin;have hnb:((d.unwritable s:Int) != 0)=true:=bne_iff_ne.2 (by omega);generalize d.unwritable s=er at *;clear fin efind hr
   go_enter Tryz.func30,Tryz.ntmps30
   go_wp2_with fail
   refine k.mono ?_;rintro e w1 ⟨rfl,hw⟩;replace hw:=hw.symm;subst hw
   go_wp2_with fail
   refine ku.mono ?_;rintro e w2 ⟨rfl,hw⟩;replace hw:=hw.symm;subst hw
   go_wp2
   go_ret2
   exact HF.out
theorem LeftD.endAt {w':World} {d':Ds} (h:LeftD nm g wb own d v w' d') (hi:InIs d v) (hk:d'.failed=d.failed∧d'.inn=d.inn):∃ own',Sep wb w' own'∧EndAt own' nm g d'∧SameD nm own own':=by
 obtain ⟨own',v',S,H,E,r,i,-⟩:=h;refine ⟨own',S,⟨v',H,fun hx => ?_⟩,E⟩;rw [r,i hx,hk.2];exact hi (by rw [← hk.1]; exact hx)
theorem zmy (d:Ds) (hd:Hdrs):(d.opened hd).failed=d.failed∧(d.opened hd).inn=d.inn:=by
 unfold Ds.opened;dsimp only;exact ⟨(zue _ _).trans (zip { d with mLast:=d.next } true 1),(zrg _ _).trans (zgt { d with mLast:=d.next } true 1)⟩
theorem zpi (d:Ds) (s:DS) (b:Bytes):(d.write s b).failed=d.failed∧(d.write s b).inn=d.inn:=by
 unfold Ds.write;split
 ·exact ⟨rfl,rfl⟩
 ·unfold Ds.enter; split <;> exact ⟨rfl,rfl⟩
theorem zmz (d:Ds) (id:Int):(d.resets id).failed=d.failed∧(d.resets id).inn=d.inn:=by
 unfold Ds.resets;split
 ·unfold Ds.reset;exact ⟨(zxu _ _).trans (ziq _ _ _),(ztw _ _).trans (zgu _ _ _)⟩
 ·exact ⟨rfl,rfl⟩
theorem zwm (d:Ds):d.pinged.failed=d.failed∧d.pinged.inn=d.inn:=by unfold Ds.pinged; split <;> exact ⟨rfl,rfl⟩
theorem zzj (d:Ds):d.aways.failed=d.failed∧d.aways.inn=d.inn:=by unfold Ds.aways; split <;> exact ⟨rfl,rfl⟩
theorem zlg (h:EndAt own nm g d) (hs:Sep wb w own) (hf:d.Fits 3) (hnew:d.str d.next=none) (vh:Value) (hd:Hdrs) (hp:IsPairs w vh hd) (hsz:∀ p∈hd,p.1.length≤maxLen∧p.2.length≤maxLen) :
  Calls Tryz.prog 29 #[.pointer (some ⟨g,0,none⟩),vh] w fun e w' => ∃ own',Sep wb w' own'∧SameD nm own own'∧((d.open? hd=0∧e = .returned (.tuple #[.int .i64 (d.next:Int),.int .i64 0])∧EndAt own' nm g (d.opened hd))∨(d.open? hd≠0∧e = .returned (.tuple #[.int .i64 0,.int .i64 (d.open? hd:Int)])∧EndAt own' nm g d)):=by
 obtain ⟨v,h1,h2⟩:=h;refine (zzh h1 hs hf hnew vh hd hp hsz).mono ?_;rintro e w' (⟨a,b,c⟩ | ⟨a,b,c⟩)
 ·obtain ⟨own',S,X,E⟩:=c.endAt h2 (zmy d hd);exact ⟨own',S,E,.inl ⟨a,b,X⟩⟩
 ·obtain ⟨own',S,X,E⟩:=c.endAt h2 ⟨rfl,rfl⟩;exact ⟨own',S,E,.inr ⟨a,b,X⟩⟩
theorem zjf (h:EndAt own nm g d) (hs:Sep wb w own) (hf:d.Fits 1) (id:Int) (h1:-9223372036854775808≤id) (h2:id≤9223372036854775807) (vb:Value) (data:Bytes) (hb:IsBytes w vb data) :
  Calls Tryz.prog 30 #[.pointer (some ⟨g,0,none⟩),.int .i64 id,vb] w fun e w' => ∃ own',Sep wb w' own'∧SameD nm own own'∧((d.unwritable (d.find id)≠0∧e = .returned (.tuple #[.int .i64 0,.int .i64 (d.unwritable (d.find id):Int)])∧EndAt own' nm g d)∨(d.unwritable (d.find id)=0∧e = .returned (.tuple #[.int .i64 (Ds.room (d.find id) data:Int),.int .i64 0])∧EndAt own' nm g (d.write (d.find id) data))):=by
 obtain ⟨v,k1,k2⟩:=h;refine (zwl k1 hs hf id h1 h2 vb data hb).mono ?_;rintro e w' (⟨a,b,c⟩ | ⟨a,b,c⟩)
 ·obtain ⟨own',S,X,E⟩:=c.endAt k2 ⟨rfl,rfl⟩;exact ⟨own',S,E,.inl ⟨a,b,X⟩⟩
 ·obtain ⟨own',S,X,E⟩:=c.endAt k2 (zpi d _ data);exact ⟨own',S,E,.inr ⟨a,b,X⟩⟩
theorem zpj (h:EndAt own nm g d) (hs:Sep wb w own) (hf:d.Fits 5) (id:Int) (h1:-9223372036854775808≤id) (h2:id≤9223372036854775807) :
  Calls Tryz.prog 36 #[.pointer (some ⟨g,0,none⟩),.int .i64 id] w fun e w'=>e = .returned (.int .i64 (d.reset? (d.find id):Int)) ∧ ∃ own',Sep wb w' own'∧EndAt own' nm g (d.resets id)∧SameD nm own own':=by
 obtain ⟨v,k1,k2⟩:=h;refine (zvt k1 hs hf id h1 h2).mono ?_;rintro e w' ⟨rfl,c⟩;exact ⟨rfl,c.endAt k2 (zmz d id)⟩
theorem zrp (h:EndAt own nm g d) (hs:Sep wb w own) (hf:d.Fits 2) :
  Calls Tryz.prog 37 #[.pointer (some ⟨g,0,none⟩)] w fun e w'=>e = .returned (.tuple #[.int .i64 (d.pong.1:Int),.int .i64 (d.pong.2:Int)]) ∧ ∃ own',Sep wb w' own'∧EndAt own' nm g d.pinged∧SameD nm own own':=by
 obtain ⟨v,k1,k2⟩:=h;refine (zyn k1 hs hf).mono ?_;rintro e w' ⟨rfl,c⟩;exact ⟨rfl,c.endAt k2 (zwm d)⟩
theorem zrq (h:EndAt own nm g d) (hs:Sep wb w own) (hf:d.Fits 1) :
  Calls Tryz.prog 38 #[.pointer (some ⟨g,0,none⟩)] w fun e w'=>e = .returned (.int .i64 (d.away?:Int)) ∧ ∃ own',Sep wb w' own'∧EndAt own' nm g d.aways∧SameD nm own own':=by
 obtain ⟨v,k1,k2⟩:=h;refine (zyo k1 hs hf).mono ?_;rintro e w' ⟨rfl,c⟩;exact ⟨rfl,c.endAt k2 (zzj d)⟩
theorem EndAt.rings (h:EndAt own nm g d):∀ n,n∈d.ring → ∃ s,d.str n=some s:=by
 obtain ⟨v,k1,-⟩:=h;exact k1.wf.rings
end
open Go.RowKit
set_option maxRecDepth 100000
theorem Ds.Ok.opened {d:Ds} {m q B:Nat} (h:d.Ok (m+2) q B) (hd:Hdrs) (hp:packs hd=true) (hc:d.coming=none) (hsd:d.side d.next=some true) (hn:d.next≤99) (hl:d.mLast≤d.next):(d.opened hd).Ok m q B:=by
 have f:=h.fits;obtain ⟨hel,-,-⟩:=zcb hd hp;have h1:Ds.Ok { d with mLast:=d.next } (m+2) q B:=by
  refine ⟨⟨by show d.next≤200; omega,f.tLast,f.mMost,f.tMost,f.mCount0,f.mCount1,f.tCount0,f.tCount1,f.from0,f.from1,f.to0,f.to1,f.ctl,f.ring,f.ev,f.inn,f.pings,f.coming,f.bodies,f.st⟩,h.ids,h.newT,fun id hi hl'=>h.newM id hi ?_,h.cm,h.ck,h.rb,h.cb⟩
  have:d.next < id:=hl'
  omega
 have h2:=h1.bump true 1 (by omega) (by omega);obtain ⟨e1,e2,e3,e4,e5,-,-⟩:=zef { d with mLast:=d.next } true 1;have hsd':(Ds.bump { d with mLast:=d.next } true 1).side d.next=some true:=by unfold Ds.side; rw [e2]; exact hsd
 have fb:=zbt d.next true (by omega);have h3:((Ds.bump { d with mLast:=d.next } true 1).setS d.next { Ds.begun d.next true with block:=encAll hd }).Ok (m+1) q B :=
  Ds.Ok.put (s:={ Ds.begun d.next true with block:=encAll hd }) h2 (by rw [e5]; exact hc) ⟨fb.id,fb.state,fb.from0,fb.from1,fb.to0,fb.to1,fb.headers,hel,fb.data,fb.code⟩ (by show (1:Nat)≠0; omega) ⟨fun _=>rfl,fun _=>rfl⟩
   (fun e=>by rw [show ({ Ds.begun d.next true with block:=encAll hd }:DS).id=d.next from rfl,hsd'] at e; cases e) (fun _=>by rw [e4]; exact Nat.le_refl _)
 exact h3.enter _
theorem zxx (d:Ds) (room:Int) (hb:∀ f∈d.ctl,f.2.2.2.length≤1000) (hr:1006 * (d.ctl.length:Int)≤room):d.out room=Ds.outRing room (room.toNat+1) { d with ctl:=[] } (flat d.ctl):=by
 have e1:=zph room d.ctl [] hb (by simp; omega);rw [List.nil_append] at e1;unfold Ds.out;dsimp only;rw [e1];simp only [List.length_nil,if_true]
end Go.Proofs.YtoijpogadkogcaaGreat
