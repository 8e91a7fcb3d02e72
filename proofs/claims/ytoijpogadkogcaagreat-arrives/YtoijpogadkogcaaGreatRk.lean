import Derived.Test.YtoijpogadkogcaaGreatQv
import Derived.Test.YtoijpogadkogcaaGreatQs
import Derived.Test.YtoijpogadkogcaaGreatRj
namespace Go.Proofs.YtoijpogadkogcaaGreat
open Go.RowKit
set_option maxRecDepth 100000
section
variable {d:Ds} {m B:Nat}
theorem Qt0(s:DS):Qt 0 s:=⟨λh=>absurd h (by omega),λh=>absurd h (by omega)⟩
theorem Ds.Ok.write(h:d.Ok (m+1) 0 B){s:DS}(hn:d.str s.id=some s)(data:Bytes):(d.write s data).Ok m 0 B:=by
 have fs:=h.fits.st _ _ hn;have h0:=(h.ids _ _ hn).2.1;unfold Ds.write;split
 ·exact h.mono (by omega)
 ·refine(Ds.Ok.setS (s:={ s with data:=s.data++data.take (Ds.room s data) }) (s0:=s) h hn { fs with data:=?_ } h0 (Qt0 _)).enter s.id
  show (s.data++data.take (Ds.room s data)).length<=256
  have:=fs.data
  rw[List.length_append,List.length_take];unfold Ds.room;omega
theorem Ds.Ok.endIt(h:d.Ok (m+1) 0 B){s:DS}(hn:d.str s.id=some s):(d.endIt s).Ok m 0 B:=by have fs:=h.fits.st _ _ hn;have h0:=(h.ids _ _ hn).2.1;exact(Ds.Ok.setS (s:={ s with ends:=true }) (s0:=s) h hn { fs with } h0 (Qt0 _)).enter s.id
theorem Ds.Ok.read(h:d.Ok (m+3) 0 B){s:DS}(hn:d.str s.id=some s)(n:Nat)(hle:n<=s.unread.length):(d.read s n).Ok m 0 B:=by
 have fs:=h.fits.st _ _ hn;have h0:=(h.ids _ _ hn).2.1;have ht:=fs.to1;have ht0:=fs.to0;have f1:DS.Fits { s with unread:=s.unread.drop n }:={ fs with to1:=by show s.to_+((s.unread.drop n).length:Int)<=100;rw[List.length_drop];omega };have f2:DS.Fits { s with unread:=s.unread.drop n,to_:=s.to_+n }:={ fs with to0:=by show 0<=s.to_+(n:Int);omega,to1:=by show s.to_+(n:Int)+((s.unread.drop n).length:Int)<=100;rw[List.length_drop];omega };have h1:=Ds.Ok.setS (s:={ s with unread:=s.unread.drop n }) (s0:=s) h hn f1 h0 (Qt0 _);unfold Ds.read;dsimp only;split
 ·exact h1.mono (by omega)
 ·have hn1:n<=1000:=by omega
  refine Ds.Ok.give0 ?_ n hn1;split
  ·exact h1.mono (by omega)
  ·unfold Ds.giveS;have h2:=Ds.Ok.setS (s:={ s with unread:=s.unread.drop n,to_:=s.to_+n }) (s0:={ s with unread:=s.unread.drop n }) h1 (by rw[zck];exact if_pos rfl) f2 h0 (Qt0 _);exact h2.lay 7 0 s.id (two n) (by simp[two]) fs.id (by omega) (by omega)
theorem Ds.Ok.leave(h:d.Ok m 0 B)(k:Nat)(s:DS)(hk:k<d.ring.length):(d.leave k s).Ok m 0 B:=by have hl:=zwm d k s hk;have f:=h.fits;have hr:=f.ring;have e:=zgc d k s;rw[e];exact h.same (f.ring' _ (by omega)) rfl rfl rfl rfl rfl (λ_ hf => .inl hf) (by show (d.leave k s).ring.length+m<=_;omega) (Nat.le_refl _)
theorem zzbas(d:Ds)(s:DS)(room:Int)(n:Nat)(hn:n≠s.id):(d.turn s room).2.1.str n=d.str n:=by
 have hm:∀ (d0:Ds) (s0:DS) (to:Nat),s0.id=s.id->(d0.move s0 to).str n=d0.str n:=λd0 s0 to e=>by rw[zzl,if_neg (by rw[e];exact hn)]
 have hs:∀ (d0:Ds) (s0:DS),(d0.setS s.id s0).str n=d0.str n:=λd0 s0=>by rw[zck,if_neg hn]
 unfold Ds.turn;dsimp only;split
 ·split
  ·rfl
  ·exact hs _ _
 ·split
  ·split
   ·rfl
   ·exact hm _ _ _ rfl
  ·split
   ·rfl
   ·split
    ·refine(hm _ _ _ ?_).trans (hs _ _);rfl
    ·exact hs _ _
structure OkE (d:Ds) (c B:Nat):Prop where
 out:zgx d c
 ok:d.Ok (zbg d+1+c) 0 B
theorem OkE.turn{c:Nat}(h:OkE d c B){k:Nat}(hk:k<d.ring.length){s:DS}(hs:d.str (d.ring.getD k 0)=some s)(room:Int)(hne:(d.turn s room).1.length≠0):OkE ((d.turn s room).2.1.leave k (d.turn s room).2.2) c B:=by
 obtain⟨m,fm,tm,im,idm,sm,ndm⟩:=h.out.turn hk hs room hne;have hr:=zln d s room;have hkr:k<(d.turn s room).2.1.ring.length:=by rw[hr];exact hk
 have hid:s.id=d.ring.getD k 0:=(h.out.ids _ _ hs).1;have hs':d.str s.id=some s:=by rw[hid];exact hs
 have fs:=h.ok.fits.st _ _ hs;have h0:=(h.ok.ids _ _ hs).2.1;have hidr:(d.turn s room).2.2.id=(d.turn s room).2.1.ring.getD k 0:=by rw[hr,idm,hid]
 have hO:=zwq hkr hidr fm tm (by rw[idm];exact im) (by rw[idm];exact sm) ndm;have hok:∃ m',(d.turn s room).2.1.Ok (m'+1+c) 0 B/\zbg (d.turn s room).2.1<=m':=by
  rcases zfj d s room fs.from0 h.ok.fits.from0 with e|⟨hb,-,e⟩|⟨hb,ht,-,e⟩|⟨hb,ht,n,hn,hnl,hnf,hnd,hnr,e⟩
  ·rw[e] at hne;exact absurd rfl hne
  ·rw[e];exact⟨zbg d,Ds.Ok.setS (s:={ s with block:=[] }) (s0:=s) h.ok hs' { fs with block:=Nat.zero_le _ } h0 (Qt0 _),Nat.le_of_eq (zja d _ hs' rfl (zcn d s.id _) rfl)⟩
  ·rw[e];have hm:=zjb d (d.move s 8) hk hs (zdy d s 8) (λj=>by rw[zhs,hid]) (by unfold zcq;rw[ht];rfl) (by unfold zcq Ds.moved;simp[zan,zaw]);obtain⟨m',em⟩:∃ m',zbg d=m'+1:=⟨zbg d-1,by omega⟩;have f1:=h.ok;rw[em] at f1;exact⟨m',Ds.Ok.move (m:=m'+1+c) (f1.mono (by omega)) hs' fs (Qt0 _) (by omega) (by omega),by dsimp only;omega⟩
  ·have f:=h.ok.fits;have o1:Ds.Ok { d with from_:=d.from_-n } (zbg d+1+c) 0 B:=h.ok.same { f with from0:=by show 0<=d.from_-(n:Int);omega,from1:=by show d.from_-(n:Int)<=1000;have:=f.from1;omega } rfl rfl rfl rfl rfl (λ_ hf => .inl hf) (Nat.le_refl _) (Nat.le_refl _);have f2:DS.Fits { s with data:=s.data.drop n,from_:=s.from_-n }:={ fs with from0:=by show 0<=s.from_-(n:Int);omega,from1:=by show s.from_-(n:Int)<=1000;have:=fs.from1;omega,data:=by show (s.data.drop n).length<=256;rw[List.length_drop];have:=fs.data;omega };have o2:=Ds.Ok.setS (s:={ s with data:=s.data.drop n,from_:=s.from_-n }) (s0:=s) o1 hs' f2 h0 (Qt0 _);rcases e with ⟨-,e⟩ | ⟨hl,he,e⟩
   ·rw[e];exact⟨zbg d,o2,Nat.le_of_eq (zja d _ hs' rfl (zcn { d with from_:=d.from_-n } s.id _) rfl)⟩
   ·rw[e];unfold lastT;dsimp only;have hin:d.ring.getD k 0∈d.ring:=by
     rw[List.getD_eq_getElem?_getD,List.getElem?_eq_getElem hk];exact List.getElem_mem _
    have hsn:zaw s.state=true:=((h.out.ids _ _ hs).2 hin he).2 ht;have hto:Ds.hereTo { s with data:=s.data.drop n,from_:=s.from_-n }=4\/Ds.hereTo { s with data:=s.data.drop n,from_:=s.from_-n }=2:=by unfold Ds.hereTo;split<;>simp
    generalize Ds.hereTo { s with data:=s.data.drop n,from_:=s.from_-n }=to at hto;have hg1:zcq (Ds.moved { s with data:=s.data.drop n,from_:=s.from_-n } to)=false:=by unfold zcq Ds.moved;rcases hto with rfl | rfl<;>simp[zan,zaw]
    have hm:=zjb d ((Ds.setS { d with from_:=d.from_-n } s.id { s with data:=s.data.drop n,from_:=s.from_-n }).move { s with data:=s.data.drop n,from_:=s.from_-n } to) hk hs (zdy _ _ _) (λj=>by rw[zhs,zcn,<-hid];split<;>rfl) (by unfold zcq;rw[he,hsn];simp) hg1
    obtain⟨m',em⟩:∃ m',zbg d=m'+1:=⟨zbg d-1,by omega⟩;rw[em] at o2;exact⟨m',Ds.Ok.move (m:=m'+1+c) (s:={ s with data:=s.data.drop n,from_:=s.from_-n }) (s0:={ s with data:=s.data.drop n,from_:=s.from_-n }) (o2.mono (by omega)) (by rw[zck];exact if_pos rfl) f2 (Qt0 _) (by omega) (by omega),by omega⟩
 obtain⟨m',o',t'⟩:=hok;have o2:=o'.leave k (d.turn s room).2.2 hkr;refine⟨hO,o2.mono ?_⟩;have ht:zbg ((d.turn s room).2.1.leave k (d.turn s room).2.2)<=zbg (d.turn s room).2.1:=by
  have e:zbg ((d.turn s room).2.1.leave k (d.turn s room).2.2)=(((d.turn s room).2.1.leave k (d.turn s room).2.2).ring.filter (λn=>zcq ((d.turn s room).2.1.stOf n))).length:=by unfold zbg;rw[zgc];rfl
  rw[e];refine Nat.le_trans (zrj _ k _ _) ?_
  have:=zgd (λn=>zcq ((d.turn s room).2.1.stOf n)) (d.turn s room).2.1.ring k hkr
  rw[hidr];unfold zbg;omega
 omega
theorem OkE.turned{c:Nat}(h:OkE d c B)(hrs:∀ n,n∈d.ring -> ∃ s,d.str n=some s)(room:Int){b:Bytes}{d':Ds}(e:d.turned room=some (b,d')):OkE d' c B /\ ∀ n,n∈d'.ring -> ∃ s,d'.str n=some s:=by
 unfold Ds.turned at e;cases hk:d.ready with
 | none=>rw[hk] at e;cases e
 | some k =>
  rw[hk] at e;dsimp only at e;unfold Ds.ready at hk;obtain⟨hlt,-,-⟩:=List.findIdx?_eq_some_iff_getElem.1 hk;obtain⟨s,hs⟩:=hrs (d.ring.getD k 0) (by rw[List.getD_eq_getElem?_getD,List.getElem?_eq_getElem hlt];exact List.getElem_mem hlt);rw[stOf_some hs] at e;by_cases h0:(d.turn s room).1.length=0
  ·rw[if_pos h0] at e;cases e
  ·rw[if_neg h0] at e;injection e with e
   injection e with e1 e2
   rw[<-e2];refine⟨h.turn hlt hs room h0,λn hn => ?_⟩;obtain⟨m,fm,tm,im,idm,sm,ndm⟩:=h.out.turn hlt hs room h0;have estr:((d.turn s room).2.1.leave k (d.turn s room).2.2).str=(d.turn s room).2.1.str:=by rw[zgc]
   rw[estr];have hid:s.id=d.ring.getD k 0:=(h.out.ids _ _ hs).1;have hmem:n∈d.ring:=by
    have hin:d.ring.getD k 0∈d.ring:=by rw[List.getD_eq_getElem?_getD,List.getElem?_eq_getElem hlt];exact List.getElem_mem _
    unfold Ds.leave at hn;dsimp only at hn;have hring:=zln d s room;split at hn
    ·rw[zgs] at hn;dsimp only at hn;split at hn
     ·rw[hring] at hn;exact List.mem_of_mem_eraseIdx hn
     ·rcases List.mem_append.1 hn with hn|hn
      ·rw[hring] at hn;exact List.mem_of_mem_eraseIdx hn
      ·rw[List.mem_singleton.1 hn,idm,hid];exact hin
    ·dsimp only at hn;rw[hring] at hn;exact List.mem_of_mem_eraseIdx hn
   by_cases e:n=s.id
   ·rw[e];exact⟨_,sm⟩
   ·obtain⟨t,ht⟩:=hrs n hmem;refine⟨t,?_⟩
    have:=zzbas d s room n e
    rw[this];exact ht
theorem OkE.outRing{c:Nat}(room:Int)(fuel:Nat):∀ (d:Ds) (o:Bytes),OkE d c B->(∀ n,n∈d.ring -> ∃ s,d.str n=some s)->OkE (Ds.outRing room fuel d o).1 c B:=by
 induction fuel with
 | zero=>exact λd o h _=>h
 | succ n ih =>
  intro d o h hrs;rw[Ds.outRing];cases e:d.turned (room-o.length) with
  | none=>exact h
  | some p =>
   obtain⟨b,d'⟩:=p;obtain⟨h1,h2⟩:=h.turned hrs _ e;exact ih d' _ h1 h2
theorem zuv(room:Int):∀ (l:List (Nat×Nat×Nat×Bytes)) (o:Bytes),(∀ f∈(Ds.outCtl room l o).1,f∈l)/\(Ds.outCtl room l o).1.length<=l.length
 | [],o=>⟨λ_ hf=>hf,Nat.le_refl _⟩
 | (k,f,i,b)::l,o=>by
  rw[Ds.outCtl];split
  ·exact⟨λ_ hf=>hf,Nat.le_refl _⟩
  ·obtain⟨h1,h2⟩:=zuv room l (o++frame k f i b);exact⟨λg hg=>List.mem_cons_of_mem _ (h1 g hg),by rw[List.length_cons];omega⟩
theorem OkE.out_{c:Nat}(h:OkE d c B)(hrs:∀ n,n∈d.ring -> ∃ s,d.str n=some s)(room:Int):OkE (d.out room).1 c B:=by
 obtain⟨s1,s2⟩:=zuv room d.ctl [];have f:=h.out.fits;have hc:=f.ctl;have f1:Ds.Fits { d with ctl:=(Ds.outCtl room d.ctl []).1 } (zbg d+1+c):={ f with ctl:=by show (Ds.outCtl room d.ctl []).1.length+_<=_;omega,bodies:=λg hg=>f.bodies g (s1 g hg) };have h1:OkE { d with ctl:=(Ds.outCtl room d.ctl []).1 } c B:=⟨⟨f1,h.out.ids,h.out.nd⟩,h.ok.same f1 rfl rfl rfl rfl rfl (λg hg => .inl (s1 g hg)) (Nat.le_refl _) (by show (Ds.outCtl room d.ctl []).1.length+(zbg d+1+c)<=d.ctl.length+(zbg d+1+c);omega)⟩;unfold Ds.out;dsimp only;split
 ·exact OkE.outRing room _ _ _ h1 hrs
 ·exact h1
theorem zny(l:List Nat)(hn:l.Nodup)(N:Nat)(h:∀ x∈l,x<N):l.length<=N:=by
 have:=List.Nodup.length_le_of_subset hn (l₂:=List.range N) (λx hx=>List.mem_range.2 (h x hx))
 rwa [List.length_range] at this
end
section
variable {p:Nat} {cl:Bool} {nA nB:Nat} {d e:Ds} {up down:Bytes} {wA wB:Nat->Way} {r:Nat->Bool} {h:Nat->zal}
theorem LK.ring(H:LK p cl nA nB d e up down wA wB r h):d.ring.Nodup/\d.ring.length<=100/\(∀ n,n∈d.ring -> ∃ s,d.str n=some s/\zqh s)/\d.mLast<=99/\d.tLast<=99:=by
 obtain⟨A,B,U,D,CA,CB,h1,h2,S,h3,h4,h5,h6,h7,h8⟩:=H;have hown:A.own<=99:=S.ab.ownMax;have hpeer:A.peer<=99:=Nat.le_trans S.ba.peerLe S.ba.ownMax;refine⟨h1.rn,zny _ h1.rn 100 (λn hn => ?_),λn hn => ?_,by rw[h1.sc.mL];exact hown,by rw[h1.sc.tL];exact hpeer⟩
 ·obtain⟨i,s,hi,-⟩:=h1.ofRing hn
  have:=(S.ab.ids n (zem A.l n i hi)).2.2
  split at this<;>omega
 ·obtain⟨i,s,hi,hs,hw,hc,hr⟩:=h1.ofRing hn;refine⟨s,hs,λhe=>⟨λht => ?_,λht => ?_⟩⟩
  ·have hre:(vl A.l n).reset=true:=by
    rw[<-hr.isReset];unfold zan at ht;unfold zbx;simp only[Bool.or_eq_true,beq_iff_eq] at ht ⊢;omega
   exact(hr.dead hre).2.2.2.2.2.1
  ·rw[hr.waits] at hw;have hcode:¬ 0<(vl A.l n).code:=by rw[hr.tells] at ht;simpa using ht
   cases hre:(vl A.l n).reset with
   | true =>
    exfalso;obtain⟨a1,a2,a3,a4,a5,a6,a7,a8⟩:=hr.dead hre;unfold St.waits at hw;have hh:¬ 0<(vl A.l n).head.length:=λx=>hr.head_pos.1 x a5;rw[hr.da,a6,a8] at hw;simp[hh,hcode] at hw
   | false =>
    rw[hr.isSends,hre];cases hm:(vl A.l n).mine with
    | false=>rfl
    | true =>
     exfalso;have hb:=(S.ab.e2 n hm).1;have hh:(vl A.l n).head=[]:=by
      cases hx:(vl A.l n).head with
      | nil=>rfl
      | cons a l =>
       have:=(S.ab.headed n (by rw[hx];simp)).2.2.2.2
       rw[hm] at this;cases this
     unfold St.waits at hw;rw[hb,hh,hm] at hw;simp[hcode] at hw
theorem LK.outE(H:LK p cl nA nB d e up down wA wB r h){m B c:Nat}(ho:d.Ok m 0 B)(hm:101+c<=m):OkE d c B /\ ∀ n,n∈d.ring -> ∃ s,d.str n=some s:=by
 obtain⟨r1,r2,r3,-,-⟩:=H.ring;have ht:zbg d<=100:=Nat.le_trans (List.length_filter_le _ _) r2;refine⟨⟨⟨ho.fits.mono (by omega),λn s hn=>⟨(ho.ids n s hn).1,λhr => ?_⟩,.inl r1⟩,ho.mono (by omega)⟩,λn hn => ?_⟩
 ·obtain⟨s',hs',hc⟩:=r3 n hr;rw[hn] at hs';injection hs' with hs'
  rw[hs'];exact hc
 ·obtain⟨s,hs,-⟩:=r3 n hn;exact⟨s,hs⟩
theorem LK.outOk(H:LK p cl nA nB d e up down wA wB r h){m B:Nat}(ho:d.Ok (m+101) 0 B)(room:Int):(d.out room).1.Ok m 0 B:=by obtain⟨h1,h2⟩:=H.outE (c:=m) ho (by omega);exact(h1.out_ h2 room).ok.mono (by omega)
end
def zdw(s:DS):Nat:=7*s.data.length+(if s.block=[] then 0 else (Ds.headerFrames s.id s.block).length)+(if zan s.state then 7 else 0)+(if s.ends && zaw s.state then 6 else 0)
theorem zzblw(s:DS)(h:s.Fits):zdw s<=8811:=by have h1:=h.data;have h2:=h.block;have h3:=ziz s.id s.block.length 1 s.block (Nat.le_refl _);have h4:(Ds.headerFrames s.id s.block).length<=6+7*s.block.length:=h3;unfold zdw;split<;>split<;>split<;>omega
theorem zzbki(d:Ds)(s:DS)(room:Int)(hw:s.waits=true)(hcan:d.canGo s=true)(hc:zqh s)(hf0:0<=s.from_)(hd0:0<=d.from_)(hne:(d.turn s room).1.length≠0):(d.turn s room).1.length+zdw (d.turn s room).2.2<=zdw s:=by
 rcases zfj d s room hf0 hd0 with e|⟨hb,-,e⟩|⟨hb,ht,-,e⟩|⟨hb,ht,n,hn,hnl,hnf,hnd,hnr,e⟩
 ·rw[e] at hne;exact absurd rfl hne
 ·rw[e];dsimp only;unfold zdw;rw[if_neg hb];simp only[if_true];omega
 ·rw[e];dsimp only;rw[zax];have e1:zdw (Ds.moved s 8)=7*s.data.length:=by
   unfold zdw Ds.moved;simp[hb,zan,zaw]
  have e2:zdw s ≥ 7*s.data.length+7:=by unfold zdw;rw[ht];simp only[if_true];omega
  rw[e1];simp only[List.length_singleton];omega
 ·have hlt:¬ room<6+min s.data.length 1:=λhx=>by
   have:d.turn s room=([],d,s):=by unfold Ds.turn;rw[if_neg (by simp[hb]),if_neg (by rw[ht];simp),if_pos hx]
   rw[this] at hne;exact hne rfl
  have hn1:s.data.length≠0->1<=n:=λh0=>by
   unfold Ds.canGo at hcan;rw[Bool.or_eq_true,Bool.or_eq_true] at hcan;unfold Ds.dataN at hn;rcases hcan with (hx | hx) | hx
   ·simp[hb] at hx
   ·exact absurd (of_decide_eq_true hx) h0
   ·have:=of_decide_eq_true hx
    omega
  have hpot:zdw s=7*s.data.length+(if s.ends && zaw s.state then 6 else 0):=by unfold zdw;rw[if_pos hb,ht];simp
  have hz:s.data.length=0->(s.ends && zaw s.state)=true:=λh0=>by unfold DS.waits at hw;rw[hb,ht] at hw;simpa[h0] using hw
  rcases e with ⟨hl,e⟩|⟨hl,he,e⟩
  ·rw[e];unfold zic;dsimp only;have e1:zdw { s with data:=s.data.drop n,from_:=s.from_-n }=7*(s.data.length-n)+(if s.ends && zaw s.state then 6 else 0):=by
    unfold zdw;rw[if_pos hb,ht,List.length_drop];simp
   rw[e1,hpot,zax,List.length_take]
   have:s.data.length≠0:=λh0=>by refine hl ⟨by rw[List.length_drop];omega,?_⟩;exact(Bool.and_eq_true_iff.1 (hz h0)).1
   have:=hn1 this
   omega
  ·rw[e];unfold lastT;dsimp only;have hs:zaw s.state=true:=(hc he).2 ht;have hto:Ds.hereTo { s with data:=s.data.drop n,from_:=s.from_-n }=4\/Ds.hereTo { s with data:=s.data.drop n,from_:=s.from_-n }=2:=by unfold Ds.hereTo;split<;>simp
   generalize Ds.hereTo { s with data:=s.data.drop n,from_:=s.from_-n }=to at hto;have e1:zdw (Ds.moved { s with data:=s.data.drop n,from_:=s.from_-n } to)=0:=by unfold zdw Ds.moved;dsimp only;rw[if_pos hb,hl];rcases hto with rfl | rfl<;>simp[zan,zaw]
   rw[e1,hpot,he,hs,zax,List.length_take];simp only[Bool.and_self,if_true];omega
def zpz(d:Ds):Nat:=(d.ring.map λn=>zdw (d.stOf n)).sum
theorem zxg(f:Nat->Nat):∀ (l:List Nat) (k:Nat),k<l.length->((l.eraseIdx k).map f).sum+f (l.getD k 0)=(l.map f).sum
 | [],k,h=>by simp at h
 | a::l,0,_=>by simp;omega
 | a::l,k+1,h=>by
  have:=zxg f l k (by simpa using h)
  simp only[List.eraseIdx_cons_succ,List.map_cons,List.sum_cons,List.getD_cons_succ];omega
theorem zzbij(f g:Nat->Nat)(h:∀ n,f n<=g n):∀ l:List Nat,(l.map f).sum<=(l.map g).sum
 | []=>Nat.le_refl _
 | a::l=>by
  have:=zzbij f g h l
  have:=h a
  simp only[List.map_cons,List.sum_cons];omega
theorem zxh(f:Nat->Nat)(N:Nat):∀ l:List Nat,(∀ n∈l,f n<=N)->(l.map f).sum<=N*l.length
 | [],_=>Nat.zero_le _
 | a::l,h=>by
  have h1:=zxh f N l λn hn=>h n (by simp[hn])
  have h2:=h a (by simp);simp only[List.map_cons,List.sum_cons,List.length_cons,Nat.mul_succ];omega
theorem zzbik(d:Ds)(k:Nat)(s:DS)(F:Nat->Nat):((d.leave k s).ring.map F).sum<=((d.ring.eraseIdx k).map F).sum+F s.id:=by
 unfold Ds.leave;dsimp only;split
 ·rw[zgs];dsimp only;split
  ·omega
  ·rw[List.map_append,List.sum_append];simp
 ·dsimp only;omega
section
variable {p:Nat} {cl:Bool} {nA nB:Nat} {d e:Ds} {up down:Bytes} {wA wB:Nat->Way} {r:Nat->Bool} {h:Nat->zal}
theorem zzbat{A B:Cs}{U D CA CB:List Fr}(M:Sim d A)(S:Sys A B U D CA CB wA wB r h){n:Nat}(hn:n∈d.ring):∃ s,d.str n=some s/\s.id=n/\s.waits=true/\zqh s/\0<=s.from_:=by
 obtain⟨i,s,hi,hs,hw,hc,hr⟩:=M.ofRing hn;refine⟨s,hs,hr.id,hw,λhe=>⟨λht => ?_,λht => ?_⟩,by rw[hr.fr];omega⟩
 ·have hre:(vl A.l n).reset=true:=by
   rw[<-hr.isReset];unfold zan at ht;unfold zbx;simp only[Bool.or_eq_true,beq_iff_eq] at ht ⊢;omega
  exact(hr.dead hre).2.2.2.2.2.1
 ·rw[hr.waits] at hw;have hcode:¬ 0<(vl A.l n).code:=by rw[hr.tells] at ht;simpa using ht
  cases hre:(vl A.l n).reset with
  | true =>
   exfalso;obtain⟨a1,a2,a3,a4,a5,a6,a7,a8⟩:=hr.dead hre;unfold St.waits at hw;have hh:¬ 0<(vl A.l n).head.length:=λx=>hr.head_pos.1 x a5;rw[hr.da,a6,a8] at hw;simp[hh,hcode] at hw
  | false =>
   rw[hr.isSends,hre];cases hm:(vl A.l n).mine with
   | false=>rfl
   | true =>
    exfalso;have hb:=(S.ab.e2 n hm).1;have hh:(vl A.l n).head=[]:=by
     cases hx:(vl A.l n).head with
     | nil=>rfl
     | cons a l =>
      have:=(S.ab.headed n (by rw[hx];simp)).2.2.2.2
      rw[hm] at this;cases this
    unfold St.waits at hw;rw[hb,hh,hm] at hw;simp[hcode] at hw
theorem zzbfs{A B:Cs}{U D CA CB:List Fr}(M:Sim d A)(S:Sys A B U D CA CB wA wB r h)(room:Int){b:Bytes}{d':Ds}(e:d.turned room=some (b,d')):b.length+zpz d'<=zpz d:=by
 unfold Ds.turned at e;cases hk:d.ready with
 | none=>rw[hk] at e;cases e
 | some k =>
  rw[hk] at e;dsimp only at e;unfold Ds.ready at hk;obtain⟨hlt,hp,-⟩:=List.findIdx?_eq_some_iff_getElem.1 hk;have hg:d.ring.getD k 0=d.ring[k]:=by rw[List.getD_eq_getElem?_getD,List.getElem?_eq_getElem hlt];rfl
  obtain⟨s,hs,hid,hw,hc,hf0⟩:=zzbat M S (n:=d.ring.getD k 0) (by rw[hg];exact List.getElem_mem hlt);rw[stOf_some hs] at e;rw[<-hg,stOf_some hs] at hp;by_cases h0:(d.turn s room).1.length=0
  ·rw[if_pos h0] at e;cases e
  ·rw[if_neg h0] at e;injection e with e
   injection e with e1 e2
   rw[<-e1,<-e2];have hd0:0<=d.from_:=by rw[M.sc.fr];omega
   have hpot:=zzbki d s room hw hp hc hf0 hd0 h0;have hring:=zln d s room;have hst:∀ n,((d.turn s room).2.1.leave k (d.turn s room).2.2).stOf n=if n=s.id then (d.turn s room).2.2 else d.stOf n:=λn=>by
    have e3:((d.turn s room).2.1.leave k (d.turn s room).2.2).stOf n=(d.turn s room).2.1.stOf n:=by rw[zgc];rfl
    rw[e3];by_cases en:n=s.id
    ·rw[if_pos en,en];rcases zfj d s room hf0 hd0 with q | ⟨-,-,q⟩ | ⟨-,-,-,q⟩ | ⟨-,-,m,-,-,-,-,-,q⟩
     ·rw[q] at h0;exact absurd rfl h0
     ·rw[q];rw[zcn,if_pos rfl]
     ·rw[q];rw[zhs,if_pos rfl]
     ·rcases q with ⟨-,q⟩|⟨-,-,q⟩
      ·rw[q];unfold zic;dsimp only;rw[zcn,if_pos rfl]
      ·rw[q];unfold lastT;dsimp only;rw[zhs];exact if_pos rfl
    ·rw[if_neg en];unfold Ds.stOf;rw[zzbas d s room n en]
   have hle:∀ n,zdw (((d.turn s room).2.1.leave k (d.turn s room).2.2).stOf n)<=zdw (d.stOf n):=λn=>by
    rw[hst];by_cases en:n=s.id
    ·rw[if_pos en,en,hid,stOf_some hs];omega
    ·rw[if_neg en];exact Nat.le_refl _
   have hs1:=zxg (λn=>zdw (d.stOf n)) d.ring k hlt;rw[stOf_some hs] at hs1;have hs2:=zzbij _ _ hle (d.ring.eraseIdx k);have hs3:zpz ((d.turn s room).2.1.leave k (d.turn s room).2.2)<=((d.ring.eraseIdx k).map λn=>zdw (((d.turn s room).2.1.leave k (d.turn s room).2.2).stOf n)).sum+zdw (d.turn s room).2.2:=by
    have hidt:(d.turn s room).2.2.id=s.id:=by
     rcases zfj d s room hf0 hd0 with q|⟨-,-,q⟩|⟨-,-,-,q⟩|⟨-,-,m,-,-,-,-,-,q⟩
     ·rw[q]
     ·rw[q]
     ·rw[q];rfl
     ·rcases q with ⟨-,q⟩ | ⟨-,-,q⟩<;>rw[q]<;>rfl
    have:=zzbik (d.turn s room).2.1 k (d.turn s room).2.2 (λn=>zdw (((d.turn s room).2.1.leave k (d.turn s room).2.2).stOf n))
    rw[hst (d.turn s room).2.2.id,if_pos hidt,hring] at this;exact this
   unfold zpz at hs3 ⊢;omega
theorem zzbco{B:Cs}{CB U0 D:List Fr}(room:Int)(fuel:Nat):∀ (c:Ds) (A:Cs) (CA Q:List Fr),Sim c A->Sys A B (U0++Q) D CA CB wA wB r h->(Ds.outRing room fuel c (encs Q)).2.length<=(encs Q).length+zpz c:=by
 induction fuel with
 | zero=>exact λc A CA Q k1 k2=>Nat.le_add_right _ _
 | succ m ih =>
  intro c A CA Q k1 k2;rw[Ds.outRing];rcases k1.turned k2.mineA (room-(encs Q).length) with ⟨e1,-⟩ | ⟨b,c',A',e1,e2,M⟩
  ·rw[e1];exact Nat.le_add_right _ _
  ·rw[e1];have hp:=zzbfs k1 k2 _ e1;obtain⟨R,hR,-,S2⟩:=k2.turn _ b A' e2
   have:=ih c' A' CA (Q++R) M (by rw[<-List.append_assoc];exact S2)
   rw[zew,hR,List.length_append] at this;dsimp only;omega
theorem zuw(room:Int):∀ (l:List Bytes) (o:Bytes),(∀ x∈l,x.length<=9)->(Cs.outCtl room l o).2.length<=o.length+9*l.length
 | [],o,_=>Nat.le_add_right _ _
 | x::l,o,hx=>by
  rw[Cs.outCtl];split
  ·exact Nat.le_add_right _ _
  ·have:=zuw room l (o++x) λy hy=>hx y (by simp[hy])
   have:=hx x (by simp)
   rw[List.length_append] at *;rw[List.length_cons];omega
def zfs:Nat->List Fr->Nat
 | 0,_=>0
 | n+1,P=>zfs n P+win n P
theorem zrp(f:Fr)(P:List Fr):∀ n,zfs n (f::P)=zfs n P+(if f.kind=7/\f.id<n then Cs.num f.body 0 else 0)
 | 0=>by simp[zfs]
 | n+1=>by
  rw[zfs,zfs,zrp f P n,win];by_cases c1:f.kind=7/\f.id=n
  ·have c2:¬ (f.kind=7/\f.id<n):=by omega
   have c3:f.kind=7/\f.id<n+1:=by omega
   rw[if_pos c1,if_neg c2,if_pos c3];omega
  ·by_cases c2:f.kind=7/\f.id<n
   ·have c3:f.kind=7/\f.id<n+1:=by omega
    rw[if_neg c1,if_pos c2,if_pos c3];omega
   ·have c3:¬ (f.kind=7/\f.id<n+1):=by omega
    rw[if_neg c1,if_neg c2,if_neg c3];omega
theorem zxi(k:Nat->Prop):∀ (P:List Fr),(∀ f∈P,f.Ok/\zeo k f)->(∀ s,k s->s<100)->P.length<=zfs 100 P+zbn (P.map Fr.enc) /\ ∀ f∈P,f.body.length<=3
 | [],_,_=>⟨Nat.zero_le _,λ_ hf=>(by cases hf)⟩
 | f::P,h1,h2=>by
  obtain⟨i1,i2⟩:=zxi k P (λg hg=>h1 g (by simp[hg])) h2;obtain⟨ok,ct⟩:=h1 f (by simp);have hkb:zje f.enc=(decide (4<=f.kind) && decide (f.kind<=6)):=znw f.kind f.flags f.id f.body (by have:=ok.1;omega);have e:zbn ((f::P).map Fr.enc)=(if zje f.enc then 1 else 0)+zbn (P.map Fr.enc):=by
   rw[List.map_cons];unfold zbn;rw[List.filter_cons];split
   ·rw[List.length_cons];omega
   ·omega
  rw[e,zrp,List.length_cons,hkb];rcases ct with ⟨c1,-,c3⟩ | ⟨c1,-,c3⟩ | ⟨c1,-,c3⟩ | ⟨c1,c2,c3,c4⟩
  ·refine⟨by rw[c1,if_neg (by omega)];simp;omega,λg hg => ?_⟩;rcases List.mem_cons.1 hg with rfl | hg
   ·rcases c3 with c3 | ⟨-,x,-,c3⟩<;>simp[c3]
   ·exact i2 g hg
  ·refine⟨by rw[c1,if_neg (by omega)];simp;omega,λg hg => ?_⟩;rcases List.mem_cons.1 hg with rfl | hg
   ·omega
   ·exact i2 g hg
  ·refine⟨by rw[c1,if_neg (by omega)];simp;omega,λg hg => ?_⟩;rcases List.mem_cons.1 hg with rfl | hg
   ·omega
   ·exact i2 g hg
  ·have hid:f.id<100:=by
    rcases c2 with c2|c2
    ·omega
    ·exact h2 _ c2
   refine⟨by rw[if_pos ⟨c1,hid⟩];omega,λg hg => ?_⟩;rcases List.mem_cons.1 hg with rfl | hg
   ·omega
   ·exact i2 g hg
theorem zxj(P:List Fr)(h0:win 0 P<=150)(h1:∀ s,s≠0->win s P<=100):∀ n,zfs (n+1) P<=150+100*n
 | 0=>by rw[zfs,zfs];omega
 | n+1=>by
  rw[zfs]
  have:=zxj P h0 h1 n
  have:=h1 (n+1) (by omega)
  omega
theorem LK.outLen(H:LK p cl nA nB d e up down wA wB r h)(hf:∀ n s,d.str n=some s->s.Fits)(room:Int):(d.out room).2.length<=9*(10050+p)+881100/\d.ctl.length<=10050+p:=by
 obtain⟨A,B,U,D,CA,CB,h1,h2,S,h3,h4,h5,h6,h7,h8⟩:=H;have hA:A.control=CA.map Fr.enc:=S.ab.ctl;have hB:∀ s,hl B.l s->s<100:=λs hs=>by
  have:=(S.ba.ids s hs).2.2
  have:=S.ba.ownMax
  have:=S.ab.ownMax
  have:=S.ab.peerLe
  split at * <;> omega
 obtain⟨c1,c2⟩:=zxi (hl B.l) CA S.ab.ctlOk hB;have hr:=S.ba.i1;have hi2:=S.ba.i2;have w0:win 0 CA<=150:=by rw[zbm] at hi2;omega
 have w1:∀ s,s≠0->win s CA<=100:=λs hs=>by
  have:=S.ba.j s hs
  rw[zbm] at this;omega
 have ws:zfs 100 CA<=10050:=zxj CA w0 w1 99;have hlen:CA.length<=10050+p:=by rw[hA] at h8;omega
 have hctl:d.ctl.length<=10050+p:=by
  have:=congrArg List.length h1.sc.ctl
  rw[hA,List.length_map,List.length_map] at this;omega
 refine⟨?_,hctl⟩;have hx:∀ x∈A.control,x.length<=9:=λx hx=>by
  rw[hA] at hx;obtain⟨f,hf,rfl⟩:=List.mem_map.1 hx;rw[zir]
  have:=c2 f hf
  omega
 have hl1:=zuw room A.control [] hx;have hl2:A.control.length=CA.length:=by rw[hA,List.length_map]
 have hpot:zpz d<=8811*d.ring.length:=zxh _ 8811 d.ring λn _=>by
  unfold Ds.stOf;cases hs:d.str n with
  | none=>show zdw {}<=8811;simp[zdw,zan,zaw]
  | some s=>exact zzblw s (hf n s hs)
 have hring:d.ring.length<=100:=zny _ h1.rn 100 (λn hn=>by
  obtain⟨i,s,hi,-⟩:=h1.ofRing hn
  have:=(S.ab.ids n (zem A.l n i hi)).2.2
  have:=S.ba.ownMax
  have:=S.ab.ownMax
  have:=S.ba.peerLe
  split at * <;> omega)
 have key:=znp (λc P => ∃ CA,Sys c B P D CA CB wA wB r h) (λc x rr P ⟨CA,T⟩ hx=>by
  have hc:=T.ab.ctl;rw[hx] at hc;cases CA with
  | nil=>simp at hc
  | cons f CA =>
   rw[List.map_cons] at hc;obtain⟨e1,e2⟩:=List.cons.inj hc;refine⟨f,e1.symm,CA,?_⟩;rw[e2];exact T.control) room A.control A U [] ⟨CA,by rw[List.append_nil];exact S.toSys⟩ rfl
 obtain⟨Q,⟨CA',T⟩,hQ⟩:=key;rw[zsp] at T hQ;rw[h1.sc.ctl,zij] at T hQ hl1;dsimp only at T hQ hl1;have M:Sim { d with ctl:=(Ds.outCtl room d.ctl []).1 } { A with control:=(Ds.outCtl room d.ctl []).1.map λf=>frame f.1 f.2.1 f.2.2.1 f.2.2.2 }:=h1.scal { h1.sc with ctl:=rfl } rfl rfl rfl rfl rfl rfl;have hl3:(Ds.outCtl room d.ctl []).2.length<=9*CA.length:=by
  rw[List.length_map,List.length_nil] at hl1
  have:=congrArg List.length h1.sc.ctl
  rw[List.length_map] at this;omega
 unfold Ds.out;dsimp only;split
 ·have:=zzbco room (room.toNat+1) _ _ CA' Q M T
  rw[<-hQ] at this;have hp2:zpz { d with ctl:=(Ds.outCtl room d.ctl []).1 }=zpz d:=rfl;rw[hp2] at this;omega
 ·dsimp only;omega
end
def EvB(d:Ds):Prop:=∀ x∈d.ev,x.2.1<=65535
section
variable {d d':Ds} {m q B:Nat}
theorem EvB.of(h:EvB d)(e:d'.ev=d.ev):EvB d':=by unfold EvB;rw[e];exact h
theorem EvB.tell(h:EvB d)(k:Nat){id:Nat}(hid:id<=65535)(c:Nat):EvB (d.tell k id c):=λx hx=>by
 rcases List.mem_append.1 hx with q|q
 ·exact h x q
 ·rw[List.mem_singleton.1 q];exact hid
theorem EvB.fail(h:EvB d)(code:Nat):EvB (d.fail code):=by unfold Ds.fail;dsimp only;refine EvB.tell ?_ 6 (Nat.zero_le _) code;exact h
theorem zvv(d:Ds)(b:Bool)(k:Int):(d.bump b k).ev=d.ev:=by unfold Ds.bump;split<;>rfl
theorem zkz(d:Ds)(n:Nat):(d.enter n).ev=d.ev:=by unfold Ds.enter;split<;>rfl
theorem zsx(d:Ds)(s:DS):(d.place s).ev=d.ev:=by
 unfold Ds.place;split
 ·exact zkz _ _
 ·rfl
theorem ziu(d:Ds)(s:DS)(t:Nat):(d.move s t).ev=d.ev:=zvv _ _ _
theorem zha(d:Ds)(s:DS):(d.endThere s).ev=d.ev:=by
 unfold Ds.endThere;split
 ·exact ziu _ _ _
 ·rfl
theorem zzbeb(d:Ds)(s:DS):(d.drop s).ev=d.ev:=by
 unfold Ds.drop;dsimp only;split
 ·exact zsx _ _
 ·exact zsx _ _
theorem zrq(d:Ds)(s:DS)(fin:Bool)(n:Nat):(d.passOver s fin n).ev=d.ev:=by
 unfold Ds.passOver;dsimp only;split
 ·rw[zha];split<;>rfl
 ·split<;>rfl
theorem zvw(d:Ds)(b:Bool)(n:Nat):(d.keep b n).ev=d.ev:=zvv _ _ _
theorem zxk(d:Ds)(n:Nat):(d.refuse n).ev=d.ev:=by unfold Ds.refuse;dsimp only;rw[zsx];unfold Ds.breakHere;rw[ziu,zvw]
theorem EvB.accept(h:EvB d)(id:Nat)(hid:id<=65535)(fin:Bool)(hd:zal):EvB (d.accept id fin hd):=by
 have h1:EvB (Ds.tell ((d.keep false id).setS id { Ds.begun id false with headers:=hd }) 1 id 0):=EvB.tell (EvB.of h (zvw d false id)) 1 hid 0;unfold Ds.accept;dsimp only;split
 ·(refine EvB.tell ?_ 2 hid 0;exact EvB.of h1 (zha _ _))
 ·exact h1
theorem EvB.takeHeaders(h:EvB d)(id:Nat)(hid:id<=65535)(fin whole:Bool)(sofar body:Bytes):EvB (d.takeHeaders id fin whole sofar body):=by
 unfold Ds.takeHeaders;dsimp only;split
 ·(refine EvB.fail ?_ _;exact h)
 ·split
  ·exact EvB.of h rfl
  ·split
   ·(refine EvB.fail ?_ _;exact h)
   ·split
    ·exact EvB.of h (zxk _ _)
    ·(refine EvB.accept ?_ id hid fin _;exact h)
theorem Ds.Ok.foundId(h:d.Ok m q B)(id:Nat)(hid:id<=65535):(d.find (id:Int)).id<=65535:=by
 have hf:(d.find (id:Int)).id<=id:=by
  unfold Ds.find;cases hr:d.real (id:Int) with
  | none=>dsimp only;split<;>exact Nat.zero_le _
  | some s =>
   dsimp only;unfold Ds.real at hr;split at hr
   ·cases hr
   ·split at hr
    ·have hs:d.str id=some s:=by
      unfold Ds.held at hr;rw[Int.toNat_natCast] at hr;split at hr
      ·cases hr
      ·split at hr
       ·rename_i s' hs' _
        injection hr with hr
        rw[<-hr];exact hs'
       ·cases hr
     exact Nat.le_of_eq (h.ids id s hs).1
    ·cases hr
 omega
theorem zzbil(b:Bytes)(k:Nat):Cs.num b k<=65535:=zzbdn b k
theorem EvB.done(h:EvB d)(ok:d.Ok m q B)(kind flags id:Nat)(body:Bytes)(hid:id<=65535):EvB (d.done kind flags id body):=by
 have hF:=ok.foundId id hid;unfold Ds.done;dsimp only;split
 ·exact h.fail _
 split
 ·unfold Ds.doData;dsimp only;split
  ·exact h.fail _
  split
  ·exact h.fail _
  split
  ·exact EvB.of h (zrq _ _ _ _)
  split
  ·(refine EvB.fail ?_ _;exact h)
  split
  ·(refine EvB.fail ?_ _;exact h)
  split
  ·(refine EvB.tell ?_ 2 hF 0;exact EvB.of h (zha _ _))
  ·exact EvB.of h rfl
 split
 ·unfold Ds.doOpen;split
  ·(refine EvB.takeHeaders ?_ id hid _ _ _ _;exact h)
  ·exact h.fail _
 split
 ·unfold Ds.doMore;split
  ·exact h.fail _
  ·rename_i i e b hc
   exact EvB.takeHeaders h i (ok.cm i e b hc).2.2.1 _ _ _ _
 split
 ·unfold Ds.doReset;dsimp only;split
  ·exact h.fail _
  split
  ·exact h.fail _
  split
  ·exact EvB.of h (ziu _ _ _)
  split
  ·exact h
  ·(refine EvB.tell ?_ 3 hF _;exact EvB.of h ((zzbeb _ _).trans (ziu _ _ _)))
 split
 ·unfold Ds.doSettings
  repeat (first | exact h.fail _ | exact EvB.of h rfl | split)
 split
 ·unfold Ds.doPing
  repeat (first | exact h.fail _ | exact EvB.tell h 4 (Nat.zero_le _) _ | exact EvB.of h rfl | split)
 split
 ·unfold Ds.doAway
  repeat (first | exact h.fail _ | (refine EvB.tell ?_ 5 (zzbil _ _) _;exact h) | split)
 split
 ·unfold Ds.doWindow;dsimp only
  repeat (first | exact h.fail _ | exact EvB.of h rfl | split)
 ·exact h
theorem EvB.looks(f:Nat):∀ (d:Ds),EvB d->d.Ok (m+d.inn.length+2) q B->EvB (Ds.looks f d):=by
 induction f with
 | zero=>intro d h _;exact h
 | succ f ih =>
  intro d hv h;by_cases h0:d.failed=true\/d.inn.length<6
  ·rw[zbb _ _ h0];exact hv
  have hf:d.failed=false:=by cases e:d.failed with
   | true=>exact absurd (.inl e) h0
   | false=>rfl
  have h6:6<=d.inn.length:=by
   by_cases e:d.inn.length<6
   ·exact absurd (.inr e) h0
   ·omega
  by_cases h64:64<Cs.num d.inn 0
  ·rw[zej f d hf h6 h64];exact hv.fail _
  by_cases hw:d.inn.length<6+Cs.num d.inn 0
  ·rw[zeu f d hf h6 (by omega) hw];exact hv
  rw[zdo f d hf h6 (by omega) (by omega)];have h2:(zbd d).Ok (m+d.inn.length-4) q B:=Ds.Ok.step (h.mono (by omega)) (by omega);have hk:Kin (zcg d).inn (zbd d):=zet (zcg d) _ _ _ _;have hv2:EvB (zbd d):=EvB.done (d:=zcg d) (EvB.of hv rfl) (h.inn (d.inn.drop (6+Cs.num d.inn 0)) (by have:=h.fits.inn;rw[List.length_drop];omega)) _ _ _ _ (zzbil _ _);rcases hk with hk | hk
  ·rw[zbb _ _ (.inl hk)];exact hv2
  ·refine ih _ hv2 (h2.mono ?_);rw[hk];unfold zcg;dsimp only;rw[List.length_drop];omega
theorem EvB.takes(h:EvB d)(b:Bytes)(ok:d.Ok (m+d.inn.length+b.length+2) q B)(hl:d.inn.length+b.length<=68719476736):EvB (d.takes b):=by
 unfold Ds.takes;split
 ·exact h
 ·dsimp only;have hlen:(d.inn++b).length=d.inn.length+b.length:=List.length_append;refine EvB.looks (m:=m) (q:=q) (B:=B) _ _ h ?_;refine Ds.Ok.mono (ok.inn (d.inn++b) (by omega)) ?_
  show m+(d.inn++b).length+2<=_
  omega
theorem zzblx(d:Ds)(s:DS)(room:Int):(d.turn s room).2.1.ev=d.ev:=by
 unfold Ds.turn;dsimp only
 repeat (first | rfl | exact ziu _ _ _ | split)
theorem zzbkj(d:Ds)(k:Nat)(s:DS):(d.leave k s).ev=d.ev:=by
 unfold Ds.leave;dsimp only;split
 ·exact zkz _ _
 ·rfl
theorem zzbim(room:Int){b:Bytes}(h:d.turned room=some (b,d')):d'.ev=d.ev:=by
 unfold Ds.turned at h;split at h
 ·cases h
 ·dsimp only at h;split at h
  ·cases h
  ·injection h with h
   injection h with _ h
   rw[<-h,zzbkj,zzblx]
theorem zzbft(room:Int)(fuel:Nat):∀ (d:Ds) (o:Bytes),(Ds.outRing room fuel d o).1.ev=d.ev:=by
 induction fuel with
 | zero=>intro d o;rfl
 | succ f ih =>
  intro d o;rw[Ds.outRing];split
  ·rfl
  ·rename_i b d' h
   rw[ih,zzbim _ h]
theorem zux(d:Ds)(room:Int):(d.out room).1.ev=d.ev:=by
 unfold Ds.out;dsimp only;split
 ·exact zzbft _ _ _ _
 ·rfl
theorem zzbau(d:Ds)(s:DS)(b:Bytes):(d.write s b).ev=d.ev:=by
 unfold Ds.write;split
 ·rfl
 ·exact zkz _ _
theorem zzbav(d:Ds)(s:DS):(d.endIt s).ev=d.ev:=zkz _ _
theorem zql(d:Ds)(s:DS)(n:Nat):(d.read s n).ev=d.ev:=by
 unfold Ds.read;dsimp only;split
 ·rfl
 ·split<;>rfl
theorem zxl(d:Ds)(hd:zal):(d.opened hd).ev=d.ev:=by unfold Ds.opened;dsimp only;rw[zkz];exact zvv _ _ _
end
theorem LK.headersIs{p:Nat}{cl:Bool}{nA nB:Nat}{d e:Ds}{up down:Bytes}{wA wB:Nat->Way}{r:Nat->Bool}{h:Nat->zal}(H:LK p cl nA nB d e up down wA wB r h)(n:Nat){hd:zal}(hq:d.headers? (n:Int)=some hd):hd=h n/\hd≠[]:=by
 obtain⟨A,B,U,D,CA,CB,h1,h2,S,h3,h4,h5,h6,h7,h8⟩:=H;have hcm:(vl A.l n).coming=true->(vl A.l n).headers=[]:=λhc=>by rw[(S.ba.coming _ hc).1]
 rw[h1.headers? n hcm] at hq;unfold Cs.headers? at hq;rw[zcw] at hq;cases hi:al A.l n with
 | none=>rw[hi] at hq;cases hq
 | some i =>
  rw[hi,Option.bind_some,zca A _ i hi] at hq;by_cases h0:(vl A.l n).headers.length=0
  ·rw[if_pos h0] at hq;cases hq
  ·rw[if_neg h0] at hq;injection hq with hq
   have hne:(vl A.l n).headers≠[]:=λx=>h0 (by rw[x];rfl)
   have hhl:hl A.l n:=by unfold hl;rw[(zcs A.l n i hi).2.1];rfl
   refine⟨?_,by rw[<-hq];exact hne⟩;cases ho:ownB A.client n with
   | false =>
    rcases S.ba.hdr n hhl ho with q|⟨q,-⟩
    ·rw[<-hq];exact q
    ·exact absurd q hne
   | true =>
    have hc:(vl A.l n).coming=false:=by
     cases hx:(vl A.l n).coming with
     | false=>rfl
     | true=>exact absurd (hcm hx) hne
    obtain⟨s,-,hs⟩:=h1.at hi hc;exact absurd (hs.hd.trans (hs.oh ho)) hne
end Go.Proofs.YtoijpogadkogcaaGreat
