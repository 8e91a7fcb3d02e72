import Derived.Test.YtoijpogadkogcaaGreatQv
import Derived.Test.YtoijpogadkogcaaGreatQs
import Derived.Test.YtoijpogadkogcaaGreatRj
namespace Go.Proofs.YtoijpogadkogcaaGreat
open Go.RowKit
set_option maxRecDepth 100000
section
variable {d:Ds} {m B:Nat}
theorem Qt0 (s:DS):Qt 0 s:=⟨fun h=>absurd h (by omega),fun h=>absurd h (by omega)⟩
theorem Ds.Ok.write (h:d.Ok (m+1) 0 B) {s:DS} (hn:d.str s.id=some s) (data:Bytes):(d.write s data).Ok m 0 B:=by
 have fs:=h.fits.st _ _ hn;have h0:=(h.ids _ _ hn).2.1;unfold Ds.write;split
 ·exact h.mono (by omega)
 ·refine(Ds.Ok.setS (s:={ s with data:=s.data++data.take (Ds.room s data) }) (s0:=s) h hn { fs with data:=?_ } h0 (Qt0 _)).enter s.id
  show (s.data++data.take (Ds.room s data)).length≤256
  have:=fs.data
  rw[List.length_append,List.length_take];unfold Ds.room;omega
theorem Ds.Ok.endIt (h:d.Ok (m+1) 0 B) {s:DS} (hn:d.str s.id=some s):(d.endIt s).Ok m 0 B:=by
 have fs:=h.fits.st _ _ hn;have h0:=(h.ids _ _ hn).2.1;exact(Ds.Ok.setS (s:={ s with ends:=true }) (s0:=s) h hn { fs with } h0 (Qt0 _)).enter s.id
theorem Ds.Ok.read (h:d.Ok (m+3) 0 B) {s:DS} (hn:d.str s.id=some s) (n:Nat) (hle:n≤s.unread.length):(d.read s n).Ok m 0 B:=by
 have fs:=h.fits.st _ _ hn;have h0:=(h.ids _ _ hn).2.1;have ht:=fs.to1;have ht0:=fs.to0;have f1:DS.Fits { s with unread:=s.unread.drop n }:={ fs with to1:=by show s.to_+((s.unread.drop n).length:Int)≤100;rw[List.length_drop];omega };have f2:DS.Fits { s with unread:=s.unread.drop n,to_:=s.to_+n }:={ fs with to0:=by show 0≤s.to_+(n:Int);omega,to1:=by show s.to_+(n:Int)+((s.unread.drop n).length:Int)≤100;rw[List.length_drop];omega };have h1:=Ds.Ok.setS (s:={ s with unread:=s.unread.drop n }) (s0:=s) h hn f1 h0 (Qt0 _);unfold Ds.read;dsimp only;split
 ·exact h1.mono (by omega)
 ·have hn1:n≤1000:=by omega
  refine Ds.Ok.give0 ?_ n hn1;split
  ·exact h1.mono (by omega)
  ·unfold Ds.giveS;have h2:=Ds.Ok.setS (s:={ s with unread:=s.unread.drop n,to_:=s.to_+n }) (s0:={ s with unread:=s.unread.drop n }) h1 (by rw[zay];exact if_pos rfl) f2 h0 (Qt0 _);exact h2.lay 7 0 s.id (two n) (by simp[two]) fs.id (by omega) (by omega)
theorem Ds.Ok.leave (h:d.Ok m 0 B) (k:Nat) (s:DS) (hk:k<d.ring.length):(d.leave k s).Ok m 0 B:=by
 have hl:=zrk d k s hk;have f:=h.fits;have hr:=f.ring;have e:=zdv d k s;rw[e];exact h.same (f.ring' _ (by omega)) rfl rfl rfl rfl rfl (fun _ hf => .inl hf) (by show (d.leave k s).ring.length+m≤_;omega) (Nat.le_refl _)
theorem zzben (d:Ds) (s:DS) (room:Int) (n:Nat) (hn:n≠s.id):(d.turn s room).2.1.str n=d.str n:=by
 have hm:∀ (d0:Ds) (s0:DS) (to:Nat),s0.id=s.id→(d0.move s0 to).str n=d0.str n:=fun d0 s0 to e=>by rw[zty,if_neg (by rw[e];exact hn)]
 have hs:∀ (d0:Ds) (s0:DS),(d0.setS s.id s0).str n=d0.str n:=fun d0 s0=>by rw[zay,if_neg hn]
 unfold Ds.turn;dsimp only;split
 ·split
  ·rfl
  ·exact hs _ _
 ·split
  ·split
   ·rfl
   ·exact hm _ _ _ rfl
  ·split
   ·rfl
   ·split
    ·refine(hm _ _ _ ?_).trans (hs _ _);rfl
    ·exact hs _ _
structure OkE (d:Ds) (c B:Nat):Prop where
 out:OutE d c
 ok:d.Ok (tellsE d+1+c) 0 B
theorem OkE.turn {c:Nat} (h:OkE d c B) {k:Nat} (hk:k<d.ring.length) {s:DS} (hs:d.str (d.ring.getD k 0)=some s) (room:Int) (hne:(d.turn s room).1.length≠0):OkE ((d.turn s room).2.1.leave k (d.turn s room).2.2) c B:=by
 obtain⟨m,fm,tm,im,idm,sm,ndm⟩:=h.out.turn hk hs room hne;have hr:=zlc d s room;have hkr:k<(d.turn s room).2.1.ring.length:=by rw[hr];exact hk
 have hid:s.id=d.ring.getD k 0:=(h.out.ids _ _ hs).1;have hs':d.str s.id=some s:=by rw[hid];exact hs
 have fs:=h.ok.fits.st _ _ hs;have h0:=(h.ok.ids _ _ hs).2.1;have hidr:(d.turn s room).2.2.id=(d.turn s room).2.1.ring.getD k 0:=by rw[hr,idm,hid]
 have hO:=zro hkr hidr fm tm (by rw[idm];exact im) (by rw[idm];exact sm) ndm;have hok:∃ m',(d.turn s room).2.1.Ok (m'+1+c) 0 B∧tellsE (d.turn s room).2.1≤m':=by
  rcases zfz d s room fs.from0 h.ok.fits.from0 with e | ⟨hb,-,e⟩ | ⟨hb,ht,-,e⟩ | ⟨hb,ht,n,hn,hnl,hnf,hnd,hnr,e⟩
  ·rw[e] at hne;exact absurd rfl hne
  ·rw[e];exact⟨tellsE d,Ds.Ok.setS (s:={ s with block:=[] }) (s0:=s) h.ok hs' { fs with block:=Nat.zero_le _ } h0 (Qt0 _),Nat.le_of_eq (zfe d _ hs' rfl (zbc d s.id _) rfl)⟩
  ·rw[e];have hm:=zff d (d.move s 8) hk hs (zbq d s 8) (fun j=>by rw[zhp,hid]) (by unfold goesB;rw[ht];rfl) (by unfold goesB Ds.moved;simp[stTells,stSends]);obtain⟨m',em⟩:∃ m',tellsE d=m'+1:=⟨tellsE d-1,by omega⟩;have f1:=h.ok;rw[em] at f1;exact⟨m',Ds.Ok.move (m:=m'+1+c) (f1.mono (by omega)) hs' fs (Qt0 _) (by omega) (by omega),by dsimp only;omega⟩
  ·have f:=h.ok.fits;have o1:Ds.Ok { d with from_:=d.from_-n } (tellsE d+1+c) 0 B:=h.ok.same { f with from0:=by show 0≤d.from_-(n:Int);omega,from1:=by show d.from_-(n:Int)≤1000;have:=f.from1;omega } rfl rfl rfl rfl rfl (fun _ hf => .inl hf) (Nat.le_refl _) (Nat.le_refl _);have f2:DS.Fits { s with data:=s.data.drop n,from_:=s.from_-n }:={ fs with from0:=by show 0≤s.from_-(n:Int);omega,from1:=by show s.from_-(n:Int)≤1000;have:=fs.from1;omega,data:=by show (s.data.drop n).length≤256;rw[List.length_drop];have:=fs.data;omega };have o2:=Ds.Ok.setS (s:={ s with data:=s.data.drop n,from_:=s.from_-n }) (s0:=s) o1 hs' f2 h0 (Qt0 _);rcases e with ⟨-,e⟩ | ⟨hl,he,e⟩
   ·rw[e];exact⟨tellsE d,o2,Nat.le_of_eq (zfe d _ hs' rfl (zbc { d with from_:=d.from_-n } s.id _) rfl)⟩
   ·rw[e];unfold lastT;dsimp only;have hin:d.ring.getD k 0∈d.ring:=by
     rw[List.getD_eq_getElem?_getD,List.getElem?_eq_getElem hk];exact List.getElem_mem _
    have hsn:stSends s.state=true:=((h.out.ids _ _ hs).2 hin he).2 ht;have hto:Ds.hereTo { s with data:=s.data.drop n,from_:=s.from_-n }=4∨Ds.hereTo { s with data:=s.data.drop n,from_:=s.from_-n }=2:=by unfold Ds.hereTo;split <;> simp
    generalize Ds.hereTo { s with data:=s.data.drop n,from_:=s.from_-n }=to at hto;have hg1:goesB (Ds.moved { s with data:=s.data.drop n,from_:=s.from_-n } to)=false:=by
     unfold goesB Ds.moved;rcases hto with rfl | rfl <;> simp[stTells,stSends]
    have hm:=zff d ((Ds.setS { d with from_:=d.from_-n } s.id { s with data:=s.data.drop n,from_:=s.from_-n }).move { s with data:=s.data.drop n,from_:=s.from_-n } to) hk hs (zbq _ _ _) (fun j=>by
     rw[zhp,zbc,←hid];split <;> rfl) (by unfold goesB;rw[he,hsn];simp) hg1
    obtain⟨m',em⟩:∃ m',tellsE d=m'+1:=⟨tellsE d-1,by omega⟩;rw[em] at o2;exact⟨m',Ds.Ok.move (m:=m'+1+c) (s:={ s with data:=s.data.drop n,from_:=s.from_-n }) (s0:={ s with data:=s.data.drop n,from_:=s.from_-n }) (o2.mono (by omega)) (by rw[zay];exact if_pos rfl) f2 (Qt0 _) (by omega) (by omega),by omega⟩
 obtain⟨m',o',t'⟩:=hok;have o2:=o'.leave k (d.turn s room).2.2 hkr;refine⟨hO,o2.mono ?_⟩;have ht:tellsE ((d.turn s room).2.1.leave k (d.turn s room).2.2)≤tellsE (d.turn s room).2.1:=by
  have e:tellsE ((d.turn s room).2.1.leave k (d.turn s room).2.2)=(((d.turn s room).2.1.leave k (d.turn s room).2.2).ring.filter (fun n=>goesB ((d.turn s room).2.1.stOf n))).length:=by
   unfold tellsE;rw[zdv];rfl
  rw[e];refine Nat.le_trans (zmu _ k _ _) ?_
  have:=zde (fun n=>goesB ((d.turn s room).2.1.stOf n)) (d.turn s room).2.1.ring k hkr
  rw[hidr];unfold tellsE;omega
 omega
theorem OkE.turned {c:Nat} (h:OkE d c B) (hrs:∀ n,n∈d.ring → ∃ s,d.str n=some s) (room:Int) {b:Bytes} {d':Ds} (e:d.turned room=some (b,d')):OkE d' c B ∧ ∀ n,n∈d'.ring → ∃ s,d'.str n=some s:=by
 unfold Ds.turned at e;cases hk:d.ready with
 | none=>rw[hk] at e;cases e
 | some k =>
  rw[hk] at e;dsimp only at e;unfold Ds.ready at hk;obtain⟨hlt,-,-⟩:=List.findIdx?_eq_some_iff_getElem.1 hk;obtain⟨s,hs⟩:=hrs (d.ring.getD k 0) (by rw[List.getD_eq_getElem?_getD,List.getElem?_eq_getElem hlt];exact List.getElem_mem hlt);rw[zfp hs] at e;by_cases h0:(d.turn s room).1.length=0
  ·rw[if_pos h0] at e;cases e
  ·rw[if_neg h0] at e;injection e with e
   injection e with e1 e2
   rw[←e2];refine⟨h.turn hlt hs room h0,fun n hn => ?_⟩;obtain⟨m,fm,tm,im,idm,sm,ndm⟩:=h.out.turn hlt hs room h0;have estr:((d.turn s room).2.1.leave k (d.turn s room).2.2).str=(d.turn s room).2.1.str:=by rw[zdv]
   rw[estr];have hid:s.id=d.ring.getD k 0:=(h.out.ids _ _ hs).1;have hmem:n∈d.ring:=by
    have hin:d.ring.getD k 0∈d.ring:=by
     rw[List.getD_eq_getElem?_getD,List.getElem?_eq_getElem hlt];exact List.getElem_mem _
    unfold Ds.leave at hn;dsimp only at hn;have hring:=zlc d s room;split at hn
    ·rw[zeo] at hn;dsimp only at hn;split at hn
     ·rw[hring] at hn;exact List.mem_of_mem_eraseIdx hn
     ·rcases List.mem_append.1 hn with hn | hn
      ·rw[hring] at hn;exact List.mem_of_mem_eraseIdx hn
      ·rw[List.mem_singleton.1 hn,idm,hid];exact hin
    ·dsimp only at hn;rw[hring] at hn;exact List.mem_of_mem_eraseIdx hn
   by_cases e:n=s.id
   ·rw[e];exact⟨_,sm⟩
   ·obtain⟨t,ht⟩:=hrs n hmem;refine⟨t,?_⟩
    have:=zzben d s room n e
    rw[this];exact ht
theorem OkE.outRing {c:Nat} (room:Int) (fuel:Nat):∀ (d:Ds) (o:Bytes),OkE d c B→(∀ n,n∈d.ring → ∃ s,d.str n=some s)→OkE (Ds.outRing room fuel d o).1 c B:=by
 induction fuel with
 | zero=>exact fun d o h _=>h
 | succ n ih =>
  intro d o h hrs;rw[Ds.outRing];cases e:d.turned (room-o.length) with
  | none=>exact h
  | some p =>
   obtain⟨b,d'⟩:=p;obtain⟨h1,h2⟩:=h.turned hrs _ e;exact ih d' _ h1 h2
theorem zpv (room:Int):∀ (l:List (Nat×Nat×Nat×Bytes)) (o:Bytes),(∀ f∈(Ds.outCtl room l o).1,f∈l)∧(Ds.outCtl room l o).1.length≤l.length
 | [],o=>⟨fun _ hf=>hf,Nat.le_refl _⟩
 | (k,f,i,b)::l,o=>by
  rw[Ds.outCtl];split
  ·exact⟨fun _ hf=>hf,Nat.le_refl _⟩
  ·obtain⟨h1,h2⟩:=zpv room l (o++frame k f i b);exact⟨fun g hg=>List.mem_cons_of_mem _ (h1 g hg),by rw[List.length_cons];omega⟩
theorem OkE.out_ {c:Nat} (h:OkE d c B) (hrs:∀ n,n∈d.ring → ∃ s,d.str n=some s) (room:Int):OkE (d.out room).1 c B:=by
 obtain⟨s1,s2⟩:=zpv room d.ctl [];have f:=h.out.fits;have hc:=f.ctl;have f1:Ds.Fits { d with ctl:=(Ds.outCtl room d.ctl []).1 } (tellsE d+1+c):={ f with ctl:=by show (Ds.outCtl room d.ctl []).1.length+_≤_;omega,bodies:=fun g hg=>f.bodies g (s1 g hg) };have h1:OkE { d with ctl:=(Ds.outCtl room d.ctl []).1 } c B:=⟨⟨f1,h.out.ids,h.out.nd⟩,h.ok.same f1 rfl rfl rfl rfl rfl (fun g hg => .inl (s1 g hg)) (Nat.le_refl _) (by show (Ds.outCtl room d.ctl []).1.length+(tellsE d+1+c)≤d.ctl.length+(tellsE d+1+c);omega)⟩;unfold Ds.out;dsimp only;split
 ·exact OkE.outRing room _ _ _ h1 hrs
 ·exact h1
theorem zoa (l:List Nat) (hn:l.Nodup) (N:Nat) (h:∀ x∈l,x<N):l.length≤N:=by
 have:=List.Nodup.length_le_of_subset hn (l₂:=List.range N) (fun x hx=>List.mem_range.2 (h x hx))
 rwa [List.length_range] at this
end
section
variable {p:Nat} {cl:Bool} {nA nB:Nat} {d e:Ds} {up down:Bytes} {wA wB:Nat→Way} {r:Nat→Bool} {h:Nat→Hdrs}
theorem LK.ring (H:LK p cl nA nB d e up down wA wB r h):d.ring.Nodup∧d.ring.length≤100∧(∀ n,n∈d.ring → ∃ s,d.str n=some s∧CondE s)∧d.mLast≤99∧d.tLast≤99:=by
 obtain⟨A,B,U,D,CA,CB,h1,h2,S,h3,h4,h5,h6,h7,h8⟩:=H;have hown:A.own≤99:=S.ab.ownMax;have hpeer:A.peer≤99:=Nat.le_trans S.ba.peerLe S.ba.ownMax;refine⟨h1.rn,zoa _ h1.rn 100 (fun n hn => ?_),fun n hn => ?_,by rw[h1.sc.mL];exact hown,by rw[h1.sc.tL];exact hpeer⟩
 ·obtain⟨i,s,hi,-⟩:=h1.ofRing hn
  have:=(S.ab.ids n (zcj A.l n i hi)).2.2
  split at this <;> omega
 ·obtain⟨i,s,hi,hs,hw,hc,hr⟩:=h1.ofRing hn;refine⟨s,hs,fun he=>⟨fun ht => ?_,fun ht => ?_⟩⟩
  ·have hre:(vl A.l n).reset=true:=by
    rw[←hr.isReset];unfold stTells at ht;unfold stReset;simp only[Bool.or_eq_true,beq_iff_eq] at ht ⊢;omega
   exact(hr.dead hre).2.2.2.2.2.1
  ·rw[hr.waits] at hw;have hcode:¬ 0<(vl A.l n).code:=by rw[hr.tells] at ht;simpa using ht
   cases hre:(vl A.l n).reset with
   | true =>
    exfalso;obtain⟨a1,a2,a3,a4,a5,a6,a7,a8⟩:=hr.dead hre;unfold St.waits at hw;have hh:¬ 0<(vl A.l n).head.length:=fun x=>hr.head_pos.1 x a5;rw[hr.da,a6,a8] at hw;simp[hh,hcode] at hw
   | false =>
    rw[hr.isSends,hre];cases hm:(vl A.l n).mine with
    | false=>rfl
    | true =>
     exfalso;have hb:=(S.ab.e2 n hm).1;have hh:(vl A.l n).head=[]:=by
      cases hx:(vl A.l n).head with
      | nil=>rfl
      | cons a l =>
       have:=(S.ab.headed n (by rw[hx];simp)).2.2.2.2
       rw[hm] at this;cases this
     unfold St.waits at hw;rw[hb,hh,hm] at hw;simp[hcode] at hw
theorem LK.outE (H:LK p cl nA nB d e up down wA wB r h) {m B c:Nat} (ho:d.Ok m 0 B) (hm:101+c≤m):OkE d c B ∧ ∀ n,n∈d.ring → ∃ s,d.str n=some s:=by
 obtain⟨r1,r2,r3,-,-⟩:=H.ring;have ht:tellsE d≤100:=Nat.le_trans (List.length_filter_le _ _) r2;refine⟨⟨⟨ho.fits.mono (by omega),fun n s hn=>⟨(ho.ids n s hn).1,fun hr => ?_⟩,.inl r1⟩,ho.mono (by omega)⟩,fun n hn => ?_⟩
 ·obtain⟨s',hs',hc⟩:=r3 n hr;rw[hn] at hs';injection hs' with hs'
  rw[hs'];exact hc
 ·obtain⟨s,hs,-⟩:=r3 n hn;exact⟨s,hs⟩
theorem LK.outOk (H:LK p cl nA nB d e up down wA wB r h) {m B:Nat} (ho:d.Ok (m+101) 0 B) (room:Int):(d.out room).1.Ok m 0 B:=by
 obtain⟨h1,h2⟩:=H.outE (c:=m) ho (by omega);exact(h1.out_ h2 room).ok.mono (by omega)
end
open Go.RowKit
set_option maxRecDepth 100000
section
variable {p:Nat} {cl:Bool} {nA nB:Nat} {d e:Ds} {up down:Bytes} {wA wB:Nat→Way} {r:Nat→Bool} {h:Nat→Hdrs}
theorem zzbeo {A B:Cs} {U D CA CB:List Fr} (M:Sim d A) (S:Sys A B U D CA CB wA wB r h) {n:Nat} (hn:n∈d.ring):∃ s,d.str n=some s∧s.id=n∧s.waits=true∧CondE s∧0≤s.from_:=by
 obtain⟨i,s,hi,hs,hw,hc,hr⟩:=M.ofRing hn;refine⟨s,hs,hr.id,hw,fun he=>⟨fun ht => ?_,fun ht => ?_⟩,by rw[hr.fr];omega⟩
 ·have hre:(vl A.l n).reset=true:=by
   rw[←hr.isReset];unfold stTells at ht;unfold stReset;simp only[Bool.or_eq_true,beq_iff_eq] at ht ⊢;omega
  exact(hr.dead hre).2.2.2.2.2.1
 ·rw[hr.waits] at hw;have hcode:¬ 0<(vl A.l n).code:=by rw[hr.tells] at ht;simpa using ht
  cases hre:(vl A.l n).reset with
  | true =>
   exfalso;obtain⟨a1,a2,a3,a4,a5,a6,a7,a8⟩:=hr.dead hre;unfold St.waits at hw;have hh:¬ 0<(vl A.l n).head.length:=fun x=>hr.head_pos.1 x a5;rw[hr.da,a6,a8] at hw;simp[hh,hcode] at hw
  | false =>
   rw[hr.isSends,hre];cases hm:(vl A.l n).mine with
   | false=>rfl
   | true =>
    exfalso;have hb:=(S.ab.e2 n hm).1;have hh:(vl A.l n).head=[]:=by
     cases hx:(vl A.l n).head with
     | nil=>rfl
     | cons a l =>
      have:=(S.ab.headed n (by rw[hx];simp)).2.2.2.2
      rw[hm] at this;cases this
    unfold St.waits at hw;rw[hb,hh,hm] at hw;simp[hcode] at hw
end
open Go.RowKit
set_option maxRecDepth 100000
def EvB (d:Ds):Prop:=∀ x∈d.ev,x.2.1≤65535
section
variable {d d':Ds} {m q B:Nat}
theorem EvB.of (h:EvB d) (e:d'.ev=d.ev):EvB d':=by unfold EvB;rw[e];exact h
theorem EvB.tell (h:EvB d) (k:Nat) {id:Nat} (hid:id≤65535) (c:Nat):EvB (d.tell k id c):=fun x hx=>by
 rcases List.mem_append.1 hx with q | q
 ·exact h x q
 ·rw[List.mem_singleton.1 q];exact hid
theorem EvB.fail (h:EvB d) (code:Nat):EvB (d.fail code):=by
 unfold Ds.fail;dsimp only;refine EvB.tell ?_ 6 (Nat.zero_le _) code;exact h
theorem zqu (d:Ds) (b:Bool) (k:Int):(d.bump b k).ev=d.ev:=by unfold Ds.bump;split <;> rfl
theorem zhc (d:Ds) (n:Nat):(d.enter n).ev=d.ev:=by unfold Ds.enter;split <;> rfl
theorem zob (d:Ds) (s:DS):(d.place s).ev=d.ev:=by
 unfold Ds.place;split
 ·exact zhc _ _
 ·rfl
theorem zja (d:Ds) (s:DS) (t:Nat):(d.move s t).ev=d.ev:=zqu _ _ _
theorem zij (d:Ds) (s:DS):(d.endThere s).ev=d.ev:=by
 unfold Ds.endThere;split
 ·exact zja _ _ _
 ·rfl
theorem zzbfy (d:Ds) (s:DS):(d.drop s).ev=d.ev:=by
 unfold Ds.drop;dsimp only;split
 ·exact zob _ _
 ·exact zob _ _
theorem zxc (d:Ds) (s:DS) (fin:Bool) (n:Nat):(d.passOver s fin n).ev=d.ev:=by
 unfold Ds.passOver;dsimp only;split
 ·rw[zij];split <;> rfl
 ·split <;> rfl
theorem zyh (d:Ds) (b:Bool) (n:Nat):(d.keep b n).ev=d.ev:=zqu _ _ _
theorem zzbco (d:Ds) (n:Nat):(d.refuse n).ev=d.ev:=by
 unfold Ds.refuse;dsimp only;rw[zob];unfold Ds.breakHere;rw[zja,zyh]
theorem EvB.accept (h:EvB d) (id:Nat) (hid:id≤65535) (fin:Bool) (hd:Hdrs):EvB (d.accept id fin hd):=by
 have h1:EvB (Ds.tell ((d.keep false id).setS id { Ds.begun id false with headers:=hd }) 1 id 0):=EvB.tell (EvB.of h (zyh d false id)) 1 hid 0;unfold Ds.accept;dsimp only;split
 ·(refine EvB.tell ?_ 2 hid 0;exact EvB.of h1 (zij _ _))
 ·exact h1
theorem EvB.takeHeaders (h:EvB d) (id:Nat) (hid:id≤65535) (fin whole:Bool) (sofar body:Bytes):EvB (d.takeHeaders id fin whole sofar body):=by
 unfold Ds.takeHeaders;dsimp only;split
 ·(refine EvB.fail ?_ _;exact h)
 ·split
  ·exact EvB.of h rfl
  ·split
   ·(refine EvB.fail ?_ _;exact h)
   ·split
    ·exact EvB.of h (zzbco _ _)
    ·(refine EvB.accept ?_ id hid fin _;exact h)
theorem Ds.Ok.foundId (h:d.Ok m q B) (id:Nat) (hid:id≤65535):(d.find (id:Int)).id≤65535:=by
 have hf:(d.find (id:Int)).id≤id:=by
  unfold Ds.find;cases hr:d.real (id:Int) with
  | none=>dsimp only;split <;> exact Nat.zero_le _
  | some s =>
   dsimp only;unfold Ds.real at hr;split at hr
   ·cases hr
   ·split at hr
    ·have hs:d.str id=some s:=by
      unfold Ds.held at hr;rw[Int.toNat_natCast] at hr;split at hr
      ·cases hr
      ·split at hr
       ·rename_i s' hs' _
        injection hr with hr
        rw[←hr];exact hs'
       ·cases hr
     exact Nat.le_of_eq (h.ids id s hs).1
    ·cases hr
 omega
theorem zzbcp (b:Bytes) (k:Nat):Cs.num b k≤65535:=zxw b k
theorem EvB.done (h:EvB d) (ok:d.Ok m q B) (kind flags id:Nat) (body:Bytes) (hid:id≤65535):EvB (d.done kind flags id body):=by
 have hF:=ok.foundId id hid;unfold Ds.done;dsimp only;split
 ·exact h.fail _
 split
 ·unfold Ds.doData;dsimp only;split
  ·exact h.fail _
  split
  ·exact h.fail _
  split
  ·exact EvB.of h (zxc _ _ _ _)
  split
  ·(refine EvB.fail ?_ _;exact h)
  split
  ·(refine EvB.fail ?_ _;exact h)
  split
  ·(refine EvB.tell ?_ 2 hF 0;exact EvB.of h (zij _ _))
  ·exact EvB.of h rfl
 split
 ·unfold Ds.doOpen;split
  ·(refine EvB.takeHeaders ?_ id hid _ _ _ _;exact h)
  ·exact h.fail _
 split
 ·unfold Ds.doMore;split
  ·exact h.fail _
  ·rename_i i e b hc
   exact EvB.takeHeaders h i (ok.cm i e b hc).2.2.1 _ _ _ _
 split
 ·unfold Ds.doReset;dsimp only;split
  ·exact h.fail _
  split
  ·exact h.fail _
  split
  ·exact EvB.of h (zja _ _ _)
  split
  ·exact h
  ·(refine EvB.tell ?_ 3 hF _;exact EvB.of h ((zzbfy _ _).trans (zja _ _ _)))
 split
 ·unfold Ds.doSettings
  repeat (first | exact h.fail _ | exact EvB.of h rfl | split)
 split
 ·unfold Ds.doPing
  repeat (first | exact h.fail _ | exact EvB.tell h 4 (Nat.zero_le _) _ | exact EvB.of h rfl | split)
 split
 ·unfold Ds.doAway
  repeat (first | exact h.fail _ | (refine EvB.tell ?_ 5 (zzbcp _ _) _;exact h) | split)
 split
 ·unfold Ds.doWindow;dsimp only
  repeat (first | exact h.fail _ | exact EvB.of h rfl | split)
 ·exact h
theorem EvB.looks (f:Nat):∀ (d:Ds),EvB d→d.Ok (m+d.inn.length+2) q B→EvB (Ds.looks f d):=by
 induction f with
 | zero=>intro d h _;exact h
 | succ f ih =>
  intro d hv h;by_cases h0:d.failed=true∨d.inn.length<6
  ·rw[zak _ _ h0];exact hv
  have hf:d.failed=false:=by cases e:d.failed with
   | true=>exact absurd (.inl e) h0
   | false=>rfl
  have h6:6≤d.inn.length:=by
   by_cases e:d.inn.length<6
   ·exact absurd (.inr e) h0
   ·omega
  by_cases h64:64<Cs.num d.inn 0
  ·rw[zbw f d hf h6 h64];exact hv.fail _
  by_cases hw:d.inn.length<6+Cs.num d.inn 0
  ·rw[zcg f d hf h6 (by omega) hw];exact hv
  rw[zbk f d hf h6 (by omega) (by omega)];have h2:(dStep d).Ok (m+d.inn.length-4) q B:=Ds.Ok.step (h.mono (by omega)) (by omega);have hk:Kin (dRest d).inn (dStep d):=zcr (dRest d) _ _ _ _;have hv2:EvB (dStep d):=EvB.done (d:=dRest d) (EvB.of hv rfl) (h.inn (d.inn.drop (6+Cs.num d.inn 0)) (by have:=h.fits.inn;rw[List.length_drop];omega)) _ _ _ _ (zzbcp _ _);rcases hk with hk | hk
  ·rw[zak _ _ (.inl hk)];exact hv2
  ·refine ih _ hv2 (h2.mono ?_);rw[hk];unfold dRest;dsimp only;rw[List.length_drop];omega
theorem EvB.takes (h:EvB d) (b:Bytes) (ok:d.Ok (m+d.inn.length+b.length+2) q B) (hl:d.inn.length+b.length≤68719476736):EvB (d.takes b):=by
 unfold Ds.takes;split
 ·exact h
 ·dsimp only;have hlen:(d.inn++b).length=d.inn.length+b.length:=List.length_append;refine EvB.looks (m:=m) (q:=q) (B:=B) _ _ h ?_;refine Ds.Ok.mono (ok.inn (d.inn++b) (by omega)) ?_
  show m+(d.inn++b).length+2≤_
  omega
theorem zzbfz (d:Ds) (s:DS) (room:Int):(d.turn s room).2.1.ev=d.ev:=by
 unfold Ds.turn;dsimp only
 repeat (first | rfl | exact zja _ _ _ | split)
theorem zzbep (d:Ds) (k:Nat) (s:DS):(d.leave k s).ev=d.ev:=by
 unfold Ds.leave;dsimp only;split
 ·exact zhc _ _
 ·rfl
theorem zzbcq (room:Int) {b:Bytes} (h:d.turned room=some (b,d')):d'.ev=d.ev:=by
 unfold Ds.turned at h;split at h
 ·cases h
 ·dsimp only at h;split at h
  ·cases h
  ·injection h with h
   injection h with _ h
   rw[←h,zzbep,zzbfz]
theorem zzbac (room:Int) (fuel:Nat):∀ (d:Ds) (o:Bytes),(Ds.outRing room fuel d o).1.ev=d.ev:=by
 induction fuel with
 | zero=>intro d o;rfl
 | succ f ih =>
  intro d o;rw[Ds.outRing];split
  ·rfl
  ·rename_i b d' h
   rw[ih,zzbcq _ h]
theorem zzbcr (d:Ds) (room:Int):(d.out room).1.ev=d.ev:=by
 unfold Ds.out;dsimp only;split
 ·exact zzbac _ _ _ _
 ·rfl
theorem zvh (d:Ds) (s:DS) (b:Bytes):(d.write s b).ev=d.ev:=by
 unfold Ds.write;split
 ·rfl
 ·exact zhc _ _
theorem zvi (d:Ds) (s:DS):(d.endIt s).ev=d.ev:=zhc _ _
theorem zyi (d:Ds) (s:DS) (n:Nat):(d.read s n).ev=d.ev:=by
 unfold Ds.read;dsimp only;split
 ·rfl
 ·split <;> rfl
theorem zsd (d:Ds) (hd:Hdrs):(d.opened hd).ev=d.ev:=by
 unfold Ds.opened;dsimp only;rw[zhc];exact zqu _ _ _
end
theorem LK.headersIs {p:Nat} {cl:Bool} {nA nB:Nat} {d e:Ds} {up down:Bytes} {wA wB:Nat→Way} {r:Nat→Bool} {h:Nat→Hdrs} (H:LK p cl nA nB d e up down wA wB r h) (n:Nat) {hd:Hdrs} (hq:d.headers? (n:Int)=some hd):hd=h n∧hd≠[]:=by
 obtain⟨A,B,U,D,CA,CB,h1,h2,S,h3,h4,h5,h6,h7,h8⟩:=H;have hcm:(vl A.l n).coming=true→(vl A.l n).headers=[]:=fun hc=>by rw[(S.ba.coming _ hc).1]
 rw[h1.headers? n hcm] at hq;unfold Cs.headers? at hq;rw[zbb] at hq;cases hi:al A.l n with
 | none=>rw[hi] at hq;cases hq
 | some i =>
  rw[hi,Option.bind_some,zau A _ i hi] at hq;by_cases h0:(vl A.l n).headers.length=0
  ·rw[if_pos h0] at hq;cases hq
  ·rw[if_neg h0] at hq;injection hq with hq
   have hne:(vl A.l n).headers≠[]:=fun x=>h0 (by rw[x];rfl)
   have hhl:hl A.l n:=by unfold hl;rw[(zba A.l n i hi).2.1];rfl
   refine⟨?_,by rw[←hq];exact hne⟩;cases ho:ownB A.client n with
   | false =>
    rcases S.ba.hdr n hhl ho with q | ⟨q,-⟩
    ·rw[←hq];exact q
    ·exact absurd q hne
   | true =>
    have hc:(vl A.l n).coming=false:=by
     cases hx:(vl A.l n).coming with
     | false=>rfl
     | true=>exact absurd (hcm hx) hne
    obtain⟨s,-,hs⟩:=h1.at hi hc;exact absurd (hs.hd.trans (hs.oh ho)) hne
end Go.Proofs.YtoijpogadkogcaaGreat
