import Derived.Test.YtoijpogadkogcaaGreatRr
namespace Go.Proofs.YtoijpogadkogcaaGreat
open Go.RowKit
set_option maxRecDepth 100000
theorem zrt(room:Int):∀ (l:List (Nat×Nat×Nat×Bytes)) (o:Bytes),(Ds.outCtl room l o).1=[] \/ ∃ f∈l,room-((Ds.outCtl room l o).2.length:Int)<6+(f.2.2.2.length:Int)
 | [],o => .inl rfl
 | (k,f,i,b)::l,o=>by
  rw[Ds.outCtl];split
  ·rename_i hc;exact .inr ⟨(k,f,i,b),List.mem_cons_self,hc⟩
  ·rcases zrt room l (o++frame k f i b) with q|⟨g,q1,q2⟩
   ·exact .inl q
   ·exact .inr ⟨g,List.mem_cons_of_mem _ q1,q2⟩
theorem zzbiu(d:Ds)(b:Bool)(k:Int):(d.bump b k).ctl=d.ctl:=by unfold Ds.bump;split<;>rfl
theorem zzbiv(d:Ds)(s:DS)(t:Nat):(d.move s t).ctl=d.ctl:=zzbiu _ _ _
theorem zzbiw(d:Ds)(s:DS)(room:Int):(d.turn s room).2.1.ctl=d.ctl:=by
 unfold Ds.turn;dsimp only
 repeat (first | rfl | exact zzbiv _ _ _ | split)
theorem zzbfz(d:Ds)(k:Nat)(s:DS):(d.leave k s).ctl=d.ctl:=by
 unfold Ds.leave;dsimp only;split
 ·unfold Ds.enter;split<;>rfl
 ·rfl
theorem zzbct(room:Int)(fuel:Nat):∀ (d:Ds) (o:Bytes),(Ds.outRing room fuel d o).1.ctl=d.ctl:=by
 induction fuel with
 | zero=>intro d o;rfl
 | succ f ih =>
  intro d o;rw[Ds.outRing];split
  ·rfl
  ·rename_i b d' h
   rw[ih];unfold Ds.turned at h;split at h
   ·cases h
   ·dsimp only at h;split at h
    ·cases h
    ·injection h with h
     injection h with _ h
     rw[<-h,zzbfz,zzbiw]
theorem zzbga{d d':Ds}{room:Int}{b:Bytes}(h:d.turned room=some (b,d')):1<=b.length:=by
 unfold Ds.turned at h;split at h
 ·cases h
 ·dsimp only at h;split at h
  ·cases h
  ·rename_i h0
   injection h with h
   injection h with h _
   rw[<-h];omega
theorem zzbbd(room:Int)(fuel:Nat):∀ (d:Ds) (o:Bytes),(Ds.outRing room fuel d o).1.turned (room-((Ds.outRing room fuel d o).2.length:Int))=none\/o.length+fuel<=(Ds.outRing room fuel d o).2.length:=by
 induction fuel with
 | zero=>intro d o;exact .inr (Nat.le_refl _)
 | succ f ih =>
  intro d o;rw[Ds.outRing];split
  ·rename_i h;exact .inl h
  ·rename_i b d' h
   have:=zzbga h
   rcases ih d' (o++b) with q|q
   ·exact .inl q
   ·right;rw[List.length_append] at q;omega
theorem zzbix(d:Ds)(s:DS)(room:Int)(hr:8000<=room)(hb:s.block.length<=1000):(d.turn s room).1.length≠0:=by
 have hlen:=ziz s.id s.block.length 1 s.block (Nat.le_refl _);have hpos:=zrm s.id s.block.length 1 s.block;unfold Ds.turn;dsimp only;by_cases h1:s.block≠[]
 ·rw[if_pos h1,if_neg (by unfold Ds.headerFrames;omega)];exact hpos
 ·rw[if_neg h1];by_cases h2:zan s.state=true
  ·rw[if_pos h2,if_neg (by omega)];dsimp only;rw[zax];omega
  ·rw[if_neg h2,if_neg (by omega)];split
   ·dsimp only;rw[zax];omega
   ·dsimp only;rw[zax];omega
theorem zzbgb{d:Ds}{room:Int}(hr:8000<=room)(hf:∀ n s,d.str n=some s->s.Fits)(h:d.turned room=none):d.ready=none:=by
 unfold Ds.turned at h;cases hk:d.ready with
 | none=>rfl
 | some k =>
  exfalso;rw[hk] at h;dsimp only at h
  have:(d.stOf (d.ring.getD k 0)).block.length<=1000:=by
   unfold Ds.stOf;cases hs:d.str (d.ring.getD k 0) with
   | none=>exact Nat.zero_le _
   | some s=>exact(hf _ _ hs).block
  rw[if_neg (zzbix d _ room hr this)] at h;cases h
def PBx(x:DS):Prop:=x.block=[]/\(x.data=[]->x.ends=true->zaw x.state=false)
def PB(d:Ds):Prop:=∀ s x,d.str s=some x->PBx x
section
variable {d d':Ds}
theorem PB.of(h:PB d)(e:d'.str=d.str):PB d':=by unfold PB;rw[e];exact h
theorem PB.setS(h:PB d)(n:Nat){x:DS}(hx:PBx x):PB (d.setS n x):=λs y hy=>by
 have:(if s=n then some x else d.str s)=some y:=hy
 split at this
 ·injection this with this;rw[<-this];exact hx
 ·exact h s y this
theorem zxo(d:Ds)(b:Bool)(k:Int):(d.bump b k).str=d.str:=by unfold Ds.bump;split<;>rfl
theorem PB.move(h:PB d){s:DS}{tt:Nat}(hx:PBx (Ds.moved s tt)):PB (d.move s tt):=PB.setS (d:=d.bump s.mine (Ds.shift s tt)) (h.of (zxo _ _ _)) s.id hx
theorem PBx.there{s:DS}(h:PBx s){t:Nat}(ht:Ds.thereTo s=some t):PBx (Ds.moved s t):=by
 refine⟨h.1,λh1 h2 => ?_⟩;have h3:=h.2 h1 h2
 show zaw t=false
 unfold Ds.thereTo at ht;split at ht
 ·rename_i e;rw[e] at h3;cases h3
 split at ht
 ·injection ht with ht;rw[<-ht];rfl
 split at ht
 ·injection ht with ht;rw[<-ht];rfl
 ·cases ht
theorem PB.endThere(h:PB d){s:DS}(hs:PBx s):PB (d.endThere s):=by
 unfold Ds.endThere;split
 ·rename_i t ht;exact h.move (hs.there ht)
 ·exact h
theorem PB.enter(h:PB d)(n:Nat):PB (d.enter n):=by
 unfold Ds.enter;split
 ·exact h
 ·exact h.of rfl
theorem PB.place(h:PB d)(s:DS):PB (d.place s):=by
 unfold Ds.place;split
 ·exact h.enter _
 ·exact h.of rfl
theorem PB.drop(h:PB d){s:DS}(hs:zaw s.state=false):PB (d.drop s):=by
 have hx:PBx { s with block:=[],data:=[] }:=⟨rfl,λ_ _=>hs⟩;have hy:PBx { s with block:=[],data:=[],unread:=[] }:=⟨rfl,λ_ _=>hs⟩;have k:=(h.setS s.id hx).place { s with block:=[],data:=[] };unfold Ds.drop;dsimp only;split
 ·exact PB.of (k.setS s.id hy) rfl
 ·exact k
theorem PB.found(h:PB d)(n:Nat):PBx (d.find (n:Int)):=by
 unfold Ds.find;cases hr:d.real (n:Int) with
 | none =>
  dsimp only;split<;>exact⟨rfl,λ_ q=>by cases q⟩
 | some s =>
  dsimp only;unfold Ds.real at hr;split at hr
  ·cases hr
  ·split at hr
   ·unfold Ds.held at hr;split at hr
    ·cases hr
    ·split at hr
     ·rename_i s' hs' _
      injection hr with hr
      rw[<-hr];exact h _ _ hs'
     ·cases hr
   ·cases hr
theorem PB.takeHeaders(h:PB d)(id:Nat)(fin whole:Bool)(so bo:Bytes):PB (d.takeHeaders id fin whole so bo)\/(d.takeHeaders id fin whole so bo).failed=true:=by
 unfold Ds.takeHeaders;dsimp only;split
 ·exact .inr rfl
 split
 ·exact .inl (h.of rfl)
 split
 ·exact .inr rfl
 ·rename_i hd _
  left;have k0:PB { d with coming:=none }:=h.of rfl;have kk:PB (Ds.keep { d with coming:=none } false id):=PB.setS (d:=Ds.bump { d with coming:=none } false 1) (k0.of (zxo _ _ _)) id (x:=Ds.begun id false) ⟨rfl,λ_ q=>by cases q⟩;split
  ·unfold Ds.refuse;dsimp only;refine PB.place ?_ _;exact kk.move ⟨rfl,λ_ q=>by cases q⟩
  ·unfold Ds.accept;dsimp only;have k1:PB ((Ds.keep { d with coming:=none } false id).setS id { Ds.begun id false with headers:=hd }):=kk.setS id ⟨rfl,λ_ q=>by cases q⟩;split
   ·unfold Ds.takeEnd;refine PB.of ?_ rfl
    ·exact(PB.of k1 rfl:PB (Ds.tell ((Ds.keep { d with coming:=none } false id).setS id { Ds.begun id false with headers:=hd }) 1 id 0)).endThere (s:={ Ds.begun id false with headers:=hd }) ⟨rfl,λ_ q=>by cases q⟩
   ·exact k1.of rfl
theorem PB.done(h:PB d)(kind flags id:Nat)(body:Bytes):PB (d.done kind flags id body)\/(d.done kind flags id body).failed=true:=by
 have hF:=h.found id;unfold Ds.done;dsimp only;split
 ·exact .inr rfl
 split
 ·unfold Ds.doData;dsimp only;split
  ·exact .inr rfl
  split
  ·exact .inr rfl
  have k1:PB { d with to_:=d.to_-body.length }:=h.of rfl;split
  ·left;unfold Ds.passOver;dsimp only;have k2:PB (if 0<body.length then Ds.give0 { d with to_:=d.to_-body.length } body.length else { d with to_:=d.to_-body.length }):=by
    split
    ·exact k1.of rfl
    ·exact k1
   split
   ·exact k2.endThere hF
   ·exact k2
  split
  ·exact .inr rfl
  split
  ·exact .inr rfl
  have hx:PBx { d.find (id:Int) with to_:=(d.find (id:Int)).to_-body.length,unread:=(d.find (id:Int)).unread++body }:=⟨hF.1,hF.2⟩;have k2:=k1.setS (d.find (id:Int)).id hx;split
  ·left;unfold Ds.takeEnd;exact PB.of (k2.endThere hx) rfl
  ·exact .inl k2
 split
 ·unfold Ds.doOpen;split
  ·exact PB.takeHeaders (d:={ d with tLast:=id }) (h.of rfl) _ _ _ _ _
  ·exact .inr rfl
 split
 ·unfold Ds.doMore;split
  ·exact .inr rfl
  ·exact h.takeHeaders _ _ _ _ _
 split
 ·unfold Ds.doReset;dsimp only;split
  ·exact .inr rfl
  split
  ·exact .inr rfl
  split
  ·exact .inl (h.move ⟨hF.1,λ_ _=>rfl⟩)
  split
  ·exact .inl h
  ·left;refine PB.of ?_ rfl
   ·exact(h.move (tt:=8) ⟨hF.1,λ_ _=>rfl⟩).drop rfl
 split
 ·unfold Ds.doSettings
  repeat (first | exact .inr rfl | exact .inl (h.of rfl) | split)
 split
 ·unfold Ds.doPing
  repeat (first | exact .inr rfl | exact .inl (h.of rfl) | split)
 split
 ·unfold Ds.doAway
  repeat (first | exact .inr rfl | exact .inl (h.of rfl) | split)
 split
 ·unfold Ds.doWindow;dsimp only;split
  ·exact .inr rfl
  split
  ·exact .inr rfl
  split
  ·exact .inr rfl
  split
  ·split
   ·exact .inr rfl
   ·exact .inl (h.of rfl)
  split
  ·split
   ·exact .inr rfl
   ·exact .inl (h.setS _ ⟨hF.1,hF.2⟩)
  ·exact .inl h
 ·exact .inl h
theorem PB.looks(f:Nat):∀ d:Ds,PB d->PB (Ds.looks f d)\/(Ds.looks f d).failed=true:=by
 induction f with
 | zero=>exact λd h => .inl h
 | succ f ih =>
  intro d h;rw[Ds.looks];split
  ·exact .inl h
  ·dsimp only;split
   ·exact .inr rfl
   split
   ·exact .inl h
   ·rcases PB.done (d:={ d with inn:=d.inn.drop (6+Cs.num d.inn 0) }) (h.of rfl) ((d.inn.take (6+Cs.num d.inn 0)).getD 2 0).toNat ((d.inn.take (6+Cs.num d.inn 0)).getD 3 0).toNat (Cs.num (d.inn.take (6+Cs.num d.inn 0)) 4) ((d.inn.take (6+Cs.num d.inn 0)).drop 6) with q|q
    ·exact ih _ q
    ·right;rw[zbb _ _ (.inl q)];exact q
theorem PB.takes(h:PB d)(b:Bytes)(hf:(d.takes b).failed=false):PB (d.takes b):=by
 have k:PB (d.takes b)\/(d.takes b).failed=true:=by
  unfold Ds.takes;split
  ·exact .inl h
  ·exact PB.looks _ _ (h.of rfl)
 exact k.resolve_right (by rw[hf];simp)
theorem PB.read(h:PB d){x:DS}(hx:PBx x)(n:Nat):PB (d.read x n):=by
 unfold Ds.read;dsimp only;have k:=h.setS x.id (x:={ x with unread:=x.unread.drop n }) ⟨hx.1,hx.2⟩;split
 ·exact k
 split
 ·exact k.of rfl
 ·unfold Ds.giveS;have k2:=k.setS x.id (x:={ x with unread:=x.unread.drop n,to_:=x.to_+n }) ⟨hx.1,hx.2⟩;exact k2.of rfl
theorem zzbcu{A:Cs}(M:Sim d A)(hr:d.ready=none):PB d /\ ∀ s x,d.str s=some x->x.data≠[]->x.from_<=0\/d.from_<=0:=by
 have key:∀ s x,d.str s=some x->(x.waits=true->x.block=[]/\x.data.length≠0 /\ ¬ 0<min x.from_ d.from_):=λs x hs hw=>by
  have hm:s∈d.ring:=(M.wr s).2 ⟨x,hs,hw⟩;unfold Ds.ready at hr;rw[List.findIdx?_eq_none_iff] at hr
  have:=hr s hm
  have es:d.stOf s=x:=by unfold Ds.stOf;rw[hs];rfl
  rw[es] at this;unfold Ds.canGo at this;rw[Bool.or_eq_false_iff,Bool.or_eq_false_iff,decide_eq_false_iff_not,decide_eq_false_iff_not,decide_eq_false_iff_not] at this;exact⟨Classical.not_not.1 this.1.1,this.1.2,this.2⟩
 have no:∀ x:DS,x.waits=false->x.block=[]/\x.data.length=0 /\ ¬ (x.ends=true/\zaw x.state=true):=λx hw=>by
  unfold DS.waits at hw;rw[Bool.or_eq_false_iff,Bool.or_eq_false_iff,Bool.or_eq_false_iff,decide_eq_false_iff_not,decide_eq_false_iff_not] at hw;refine⟨Classical.not_not.1 hw.1.1.1,by have:=hw.1.2;omega,λq => ?_⟩
  have:=hw.2
  rw[q.1,q.2] at this;cases this
 refine⟨λs x hs => ?_,λs x hs hd => ?_⟩
 ·cases hw:x.waits with
  | true =>
   obtain⟨a1,a2,-⟩:=key s x hs hw;exact⟨a1,λq=>absurd (by rw[q];rfl) a2⟩
  | false =>
   obtain⟨a1,-,a3⟩:=no x hw;refine⟨a1,λ_ q => ?_⟩;cases hst:zaw x.state with
   | false=>rfl
   | true=>exact absurd ⟨q,hst⟩ a3
 ·cases hw:x.waits with
  | true =>
   obtain⟨-,-,a3⟩:=key s x hs hw;omega
  | false =>
   obtain⟨-,a2,-⟩:=no x hw;exact absurd (List.eq_nil_of_length_eq_zero a2) hd
end
theorem LK.outAll{p:Nat}{cl:Bool}{nA nB:Nat}{d e:Ds}{up down:Bytes}{wA wB:Nat->Way}{r:Nat->Bool}{h:Nat->zal}(H:LK p cl nA nB d e up down wA wB r h)(hp:p<=10000){m B:Nat}(ok:d.Ok m 0 B)(ok2:(d.out 1099511627776).1.Ok m 0 B)(room:Int)(hr:room=1099511627776) :
  (d.out room).1.ctl=[]/\PB (d.out room).1 /\ ∀ s x,(d.out room).1.str s=some x->x.data≠[]->x.from_<=0\/(d.out room).1.from_<=0:=by
 have hlen:=(H.outLen (λn s hs=>ok.fits.st n s hs) room).1;rw[<-hr] at ok2;have hst:(d.out room).1.ctl=[]/\(d.out room).1.ready=none:=by
  have hc:=zrt room d.ctl [];unfold Ds.out at hlen ok2 ⊢;dsimp only at hlen ok2 ⊢;by_cases h0:(Ds.outCtl room d.ctl []).1.length=0
  ·rw[if_pos h0] at hlen ok2 ⊢;have hn:=List.eq_nil_of_length_eq_zero h0;have hkc:(Ds.outRing room (room.toNat+1) { d with ctl:=(Ds.outCtl room d.ctl []).1 } (Ds.outCtl room d.ctl []).2).1.ctl=(Ds.outCtl room d.ctl []).1:=zzbct room _ { d with ctl:=(Ds.outCtl room d.ctl []).1 } _;refine⟨by rw[hkc,hn],?_⟩;rcases zzbbd room (room.toNat+1) { d with ctl:=(Ds.outCtl room d.ctl []).1 } (Ds.outCtl room d.ctl []).2 with q | q
   ·exact zzbgb (by omega) (λn s hs=>ok2.fits.st n s hs) q
   ·omega
  ·rw[if_neg h0] at hlen;exfalso;rcases hc with q | ⟨f,q1,q2⟩
   ·rw[q] at h0;exact h0 rfl
   ·have:=(ok.fits.bodies f q1).1
    have hlen2:(Ds.outCtl room d.ctl []).2.length<=9*(10050+p)+881100:=hlen;omega
 obtain⟨A,B',U,D,CA,CB,h1,-⟩:=H.out room;exact⟨hst.1,zzbcu h1 hst.2⟩
def un(d:Ds)(s:Nat):Nat:=(d.stOf s).unread.length
def dt(d:Ds)(s:Nat):Nat:=(d.stOf s).data.length
def th(d:Ds)(s:Nat):Bool:=zce (d.stOf s).state
def KW(d:Ds)(s:Nat):Nat:=zct s (d.ctl.map λf=>frame f.1 f.2.1 f.2.2.1 f.2.2.2)
theorem zzbbe{d:Ds}(h:d.ctl=[])(s:Nat):KW d s=0:=by unfold KW;rw[h];rfl
theorem zlc(f g:Nat->Nat):∀ N,zaz N (λk=>f k+g k)=zaz N f+zaz N g
 | 0=>rfl
 | N+1=>by rw[zaz,zaz,zaz,zlc f g N];omega
theorem zgk{f:Nat->Nat}{N:Nat}(h:∀ k,k<N->f k=0):zaz N f=0:=by
 have e:zaz N f=zaz N λ_=>0:=zdi h;rw[e];clear e h
 induction N with
 | zero=>rfl
 | succ N ih=>rw[zaz,ih]
theorem zzbkr(v n N:Nat)(h:n<N):zaz N (λk=>if k=n then v else 0)=v:=by
 have:=znv (λ_=>0) v n h
 have z:zaz N (λ_=>0)=0:=zgk λ_ _=>rfl;omega
theorem zmz{f:Nat->Nat}:∀ {N k:Nat},k<N->f k<=zaz N f
 | 0,k,h=>by omega
 | N+1,k,h=>by
  rw[zaz];by_cases e:k=N
  ·rw[e];omega
  ·have:=zmz (f:=f) (N:=N) (k:=k) (by omega)
   omega
theorem zsy{f:Nat->Nat}:∀ {N:Nat},0<zaz N f -> ∃ k,k<N/\0<f k
 | 0,h=>by cases h
 | N+1,h=>by
  rw[zaz] at h;by_cases e:0<f N
  ·exact⟨N,by omega,e⟩
  ·obtain⟨k,h1,h2⟩:=zsy (f:=f) (N:=N) (by omega);exact⟨k,by omega,h2⟩
theorem zzbed:∀ (l:List St),(l.map St.id).Nodup->(∀ s,hl l s->s<100)->tot l=zaz 100 λs=>(vl l s).unread.length
 | [],_,_=>(zgk λ_ _=>rfl).symm
 | t::l,hn,hb=>by
  rw[List.map_cons,List.nodup_cons] at hn;have ht:hl (t::l) t.id:=by unfold hl gl;rw[List.find?_cons_of_pos (by simp)];rfl
  have hnl:¬ hl l t.id:=λq=>by unfold hl gl at q;rw[List.find?_isSome] at q;obtain⟨u,hu,e⟩:=q;exact hn.1 (List.mem_map.2 ⟨u,hu,by simpa using e⟩)
  have hb':∀ s,hl l s->s<100:=λs hs=>by
   refine hb s ?_;unfold hl gl at hs ⊢;by_cases e:t.id=s
   ·rw[List.find?_cons_of_pos (by simpa using e)];rfl
   ·rw[List.find?_cons_of_neg (by simpa using e)];exact hs
  have e1:tot (t::l)=t.unread.length+tot l:=by unfold tot;rw[List.map_cons,List.sum_cons]
  have e2:(zaz 100 λs=>(vl (t::l) s).unread.length)=zaz 100 λs=>if s=t.id then t.unread.length else (vl l s).unread.length:=zdi λs _=>by
   by_cases q:s=t.id
   ·rw[if_pos q]
    have:vl (t::l) s=t:=by unfold vl gl;rw[List.find?_cons_of_pos (by rw[q];simp)];rfl
    rw[this]
   ·rw[if_neg q]
    have:vl (t::l) s=vl l s:=by unfold vl gl;rw[List.find?_cons_of_neg (by simpa using λe=>q e.symm)]
    rw[this]
  have e3:=znv (λs=>(vl l s).unread.length) t.unread.length t.id (hb _ ht);have e4:(vl l t.id).unread.length=0:=by rw[zhc l t.id hnl];rfl
  have e5:=zzbed l hn.2 hb';rw[e1,e2,e5];omega
theorem zva:∀ Q:List Fr,(∀ f∈Q,f.kind=0->f.id<100)->zbp Q=zaz 100 λs=>(dat s Q).length
 | [],_=>(zgk λ_ _=>rfl).symm
 | f::Q,h=>by
  have e1:(zaz 100 λs=>(dat s (f::Q)).length)=zaz 100 λs=>(if s=f.id then (if f.kind=0 then f.body.length else 0) else 0)+(dat s Q).length:=zdi λs _=>by
   rw[dat,List.length_append];by_cases q:isD s f
   ·rw[if_pos q,if_pos q.2.symm,if_pos q.1]
   ·rw[if_neg q];by_cases q2:s=f.id
    ·rw[if_pos q2,if_neg λz=>q ⟨z,q2.symm⟩];rfl
    ·rw[if_neg q2];rfl
  rw[e1,zlc,<-zva Q λg hg=>h g (List.mem_cons_of_mem _ hg),zbp];by_cases q:f.kind=0
  ·rw[zzbkr _ _ _ (h f List.mem_cons_self q)]
  ·rw[if_neg q]
   have:zaz 100 (λk=>if k=f.id then 0 else 0)=0:=zgk λk _=>by split<;>rfl
   rw[this]
structure Ledger (d e:Ds) (w:Nat->Way) (Q:List Fr):Prop where
 flow:∀ s,(w s).sent.length=(w s).read+un e s+(dat s Q).length+dt d s
 conn:d.from_+((zaz 100 λs=>(dat s Q).length:Nat):Int)+(KW e 0:Int)+((zaz 100 (un e):Nat):Int)=150
 strm:∀ s x,d.str s=some x->zaw x.state=true->x.from_+((dat s Q).length:Int)+(KW e s:Int)+(un e s:Int)=100
 sends:∀ s x,d.str s=some x->x.data≠[]->zaw x.state=true
 going:∀ s x,d.str s=some x->zaw x.state=true->th e s=false
 gone:∀ s x,d.str s=some x->zaw x.state=false->fin s Q=true\/th e s=true
 ends:∀ s,(w s).ended=true -> ∃ x,d.str s=some x/\x.ends=true
 ended:∀ s,th e s=true->(w s).ended=true
 num:∀ s x,d.str s=some x->1<=s/\s<100
 pos:0<=d.from_ /\ ∀ s x,d.str s=some x->0<=x.from_
theorem Sim.stOf_some{d:Ds}{A:Cs}(M:Sim d A){s:Nat}{x:DS}(hs:d.str s=some x):d.stOf s=x/\SR A.client s x (vl A.l s)/\(vl A.l s).coming=false/\hl A.l s:=by obtain⟨a1,a2,a3⟩:=M.strInv hs;refine⟨?_,a3,a2,a1⟩;unfold Ds.stOf;rw[hs];rfl
theorem Sim.th{d:Ds}{A:Cs}(M:Sim d A)(hc:∀ s,(vl A.l s).coming=true->vl A.l s = { id:=s,coming:=true })(hr:∀ s,(vl A.l s).reset=false)(s:Nat):th d s=(vl A.l s).theirs:=by
 unfold Go.Proofs.YtoijpogadkogcaaGreat.th;cases hs:d.str s with
 | some x =>
  obtain⟨e,hx,-,-⟩:=M.stOf_some hs;rw[e,(hx.live (hr s)).1];cases (vl A.l s).mine<;>cases (vl A.l s).theirs<;>rfl
 | none =>
  have e0:d.stOf s = {}:=by unfold Ds.stOf;rw[hs];rfl
  rw[e0];have q:=M.str s;cases hg:gl A.l s with
  | none =>
   have:vl A.l s = { id:=s }:=by unfold vl;rw[hg];rfl
   rw[this];rfl
  | some t =>
   rw[hg] at q;dsimp only at q;cases hct:t.coming with
   | true =>
    have hv:vl A.l s=t:=by unfold vl;rw[hg];rfl
    rw[hc s (by rw[hv];exact hct)];rfl
   | false =>
    rw[hct,if_neg Bool.false_ne_true] at q;obtain⟨x,a1,-⟩:=q;rw[hs] at a1;cases a1
theorem LK.ledger{p:Nat}{cl:Bool}{nA nB:Nat}{d e:Ds}{up down:Bytes}{wA wB:Nat->Way}{r:Nat->Bool}{h:Nat->zal}(H:LK p cl nA nB d e up down wA wB r h)(hp:p<=2)(hD:d.inn++down=[]):∃ Q,e.inn++up=encs Q/\Ledger d e wA Q:=by
 obtain⟨A,B,U,D,CA,CB,h1,h2,S,h3,h4,-⟩:=H;obtain⟨C1,C2,-,-⟩:=S.calm hp;have eD:D=[]:=zee D (by rw[<-h4];exact hD);subst eD;have cA:∀ s,(vl A.l s).coming=true->vl A.l s = { id:=s,coming:=true }:=λs q=>(S.ba.coming s q).1;have cB:∀ s,(vl B.l s).coming=true->vl B.l s = { id:=s,coming:=true }:=λs q=>(S.ab.coming s q).1;have eA:=h1.stOf cA;have eB:=h2.stOf cB;have tB:=h2.th cB C2.nr;have hA100:∀ s,hl A.l s->1<=s/\s<100:=λs hs=>by
  have q:=S.ab.ids s hs
  have:=S.ba.ownMax
  have:=S.ab.ownMax
  have:=S.ba.peerLe
  have:=q.2.2
  refine⟨q.1,?_⟩;split at * <;> omega
 have hB100:∀ s,hl B.l s->s<100:=λs hs=>by
  have q:=(S.ba.ids s hs).2.2
  have:=S.ba.ownMax
  have:=S.ab.ownMax
  have:=S.ab.peerLe
  split at * <;> omega
 have hK:∀ s,KW e s=zct s B.control:=λs=>by unfold KW;rw[h2.sc.ctl]
 have hun:∀ s,un e s=(vl B.l s).unread.length:=λs=>by unfold un;rw[(eB s).1]
 have hst:∀ s x,d.str s=some x->x.from_=((vl A.l s).send:Int)/\zaw x.state = !(vl A.l s).mine/\x.data=(vl A.l s).bytes/\x.ends=(vl A.l s).ending:=λs x hs=>by obtain⟨-,hx,-,-⟩:=h1.stOf_some hs;obtain⟨q1,-,q3⟩:=hx.live (C1.nr s);refine⟨hx.fr,?_,hx.da.symm,q3.symm⟩;rw[q1];cases (vl A.l s).mine<;>cases (vl A.l s).theirs<;>rfl
 refine⟨U,h3,⟨λs => ?_,?_,λs x hs hsd => ?_,λs x hs hd => ?_,λs x hs hsd => ?_,λs x hs hsd => ?_,λs hs => ?_,λs hs => ?_,λs x hs => ?_,?_,λs x hs => ?_⟩⟩
 ·obtain⟨rest,a1,a2,-⟩:=S.ab.q s (C2.nr s);have a3:=a2 (C1.nr s);have a4:=S.ab.q0 s;have hl:=congrArg List.length a1;rw[List.length_drop,List.length_append,List.length_append,a3] at hl;rw[hun];unfold dt;rw[(eA s).2];omega
 ·have i1:=S.ab.i1;have i2:=S.ab.i2;rw[List.nil_append,<-zsq 0 CB λf hf=>(S.ba.ctlOk f hf).1,<-S.ba.ctl,<-hK] at i2;rw[zva U λf hf h0=>(hA100 f.id (S.ab.opens f hf (by omega)).1).2] at i2;rw[zzbed B.l C2.nd hB100] at i1;have e1:zaz 100 (un e)=zaz 100 λs=>(vl B.l s).unread.length:=zdi λs _=>hun s;rw[e1,h1.sc.fr];omega
 ·obtain⟨q1,q2,-,-⟩:=hst s x hs;obtain⟨-,-,-,hh⟩:=h1.stOf_some hs;have hm:(vl A.l s).mine=false:=by rw[q2] at hsd;simpa using hsd
  have:=C1.je s (by have:=(hA100 s hh).1;omega) hm
  rw[q1,hK,hun];have e0:win s []=0:=rfl;omega
 ·obtain⟨-,q2,q3,-⟩:=hst s x hs;rw[q2];cases hm:(vl A.l s).mine with
  | false=>rfl
  | true=>exact absurd (q3.trans (S.ab.e2 s hm).1) hd
 ·obtain⟨-,q2,-,-⟩:=hst s x hs;have hm:(vl A.l s).mine=false:=by rw[q2] at hsd;simpa using hsd
  rw[tB];exact(S.ab.e1 s hm).2
 ·obtain⟨-,q2,-,-⟩:=hst s x hs;have hm:(vl A.l s).mine=true:=by rw[q2] at hsd;simpa using hsd
  rw[tB];exact C1.fn s hm
 ·have he:=C1.en s hs;have hh:hl A.l s:=by
   apply Classical.byContradiction;intro q;rw[zhc A.l s q] at he;cases he
  have hcm:(vl A.l s).coming=false:=by
   cases q:(vl A.l s).coming with
   | false=>rfl
   | true=>rw[cA s q] at he;cases he
  obtain⟨i,hi⟩:=zdq A.l s hh;obtain⟨x,hx,hr⟩:=h1.at hi hcm;exact⟨x,hx,by rw[(hst s x hx).2.2.2];exact he⟩
 ·rw[tB] at hs;obtain⟨rest,-,-,a3⟩:=S.ab.q s (C2.nr s);exact(a3 (.inr hs)).2
 ·obtain⟨-,-,-,hh⟩:=h1.stOf_some hs;exact hA100 s hh
 ·rw[h1.sc.fr];omega
 ·rw[(hst s x hs).1];omega
section
variable {d d':Ds}
theorem zoe(d:Ds)(k i c:Nat):(d.tell k i c).ev.length=d.ev.length+1:=by
 show (d.ev++[_]).length=_
 rw[List.length_append];rfl
theorem zof(d:Ds)(c:Nat):(d.fail c).ev.length=d.ev.length+1:=by unfold Ds.fail;dsimp only;rw[zoe];rfl
theorem zlv(d:Ds)(id:Nat)(fin whole:Bool)(so bo:Bytes):(d.takeHeaders id fin whole so bo).ev.length<=d.ev.length+2:=by
 unfold Ds.takeHeaders;dsimp only;split
 ·rw[zof];show d.ev.length+1<=_;omega
 split
 ·show d.ev.length<=_;omega
 split
 ·rw[zof];show d.ev.length+1<=_;omega
 split
 ·rw[zxk];show d.ev.length<=_;omega
 ·rename_i hd _ _
  unfold Ds.accept;dsimp only;have k:(Ds.tell ((Ds.keep { d with coming:=none } false id).setS id { Ds.begun id false with headers:=hd }) 1 id 0).ev.length=d.ev.length+1:=by
   rw[zoe]
   show (Ds.keep { d with coming:=none } false id).ev.length+1=_
   rw[zvw]
  split
  ·unfold Ds.takeEnd;rw[zoe,zha,k];omega
  ·rw[k];omega
theorem zzbks(d:Ds)(kind flags id:Nat)(body:Bytes):(d.done kind flags id body).ev.length<=d.ev.length+2:=by
 have hf:∀ (e:Ds) (c:Nat),e.ev=d.ev->(e.fail c).ev.length<=d.ev.length+2:=λe c q=>by rw[zof,q];omega
 have hs:∀ e:Ds,e.ev=d.ev->e.ev.length<=d.ev.length+2:=λe q=>by rw[q];omega
 have ht:∀ (e:Ds) (a b c:Nat),e.ev=d.ev->(e.tell a b c).ev.length<=d.ev.length+2:=λe a b c q=>by rw[zoe,q];omega
 unfold Ds.done;dsimp only;split
 ·exact hf _ _ rfl
 split
 ·unfold Ds.doData;dsimp only;split
  ·exact hf _ _ rfl
  split
  ·exact hf _ _ rfl
  split
  ·exact hs _ (zrq _ _ _ _)
  split
  ·exact hf _ _ rfl
  split
  ·exact hf _ _ rfl
  split
  ·exact ht _ _ _ _ (zha _ _)
  ·exact hs _ rfl
 split
 ·unfold Ds.doOpen;split
  ·exact zlv { d with tLast:=id } _ _ _ _ _
  ·exact hf _ _ rfl
 split
 ·unfold Ds.doMore;split
  ·exact hf _ _ rfl
  ·exact zlv _ _ _ _ _ _
 split
 ·unfold Ds.doReset;dsimp only;split
  ·exact hf _ _ rfl
  split
  ·exact hf _ _ rfl
  split
  ·exact hs _ (ziu _ _ _)
  split
  ·exact hs _ rfl
  ·exact ht _ _ _ _ ((zzbeb _ _).trans (ziu _ _ _))
 split
 ·unfold Ds.doSettings
  repeat (first | exact hf _ _ rfl | exact hs _ rfl | split)
 split
 ·unfold Ds.doPing
  repeat (first | exact hf _ _ rfl | exact ht _ _ _ _ rfl | exact hs _ rfl | split)
 split
 ·unfold Ds.doAway
  repeat (first | exact hf _ _ rfl | exact ht _ _ _ _ rfl | split)
 split
 ·unfold Ds.doWindow;dsimp only
  repeat (first | exact hf _ _ rfl | exact hs _ rfl | split)
 ·exact hs _ rfl
theorem zzbiy(f:Nat):∀ d:Ds,(Ds.looks f d).ev.length<=d.ev.length+d.inn.length:=by
 induction f with
 | zero=>exact λd=>Nat.le_add_right _ _
 | succ f ih =>
  intro d;rw[Ds.looks];split
  ·exact Nat.le_add_right _ _
  ·rename_i h0
   have h6:6<=d.inn.length:=by apply Classical.byContradiction;intro q;exact h0 (.inr (by omega))
   dsimp only;split
   ·rw[zof];omega
   split
   ·exact Nat.le_add_right _ _
   ·have k:=zzbks { d with inn:=d.inn.drop (6+Cs.num d.inn 0) } ((d.inn.take (6+Cs.num d.inn 0)).getD 2 0).toNat ((d.inn.take (6+Cs.num d.inn 0)).getD 3 0).toNat (Cs.num (d.inn.take (6+Cs.num d.inn 0)) 4) ((d.inn.take (6+Cs.num d.inn 0)).drop 6);have k2:({ d with inn:=d.inn.drop (6+Cs.num d.inn 0) }:Ds).ev.length=d.ev.length:=rfl;rcases zet { d with inn:=d.inn.drop (6+Cs.num d.inn 0) } ((d.inn.take (6+Cs.num d.inn 0)).getD 2 0).toNat ((d.inn.take (6+Cs.num d.inn 0)).getD 3 0).toNat (Cs.num (d.inn.take (6+Cs.num d.inn 0)) 4) ((d.inn.take (6+Cs.num d.inn 0)).drop 6) with q | q
    ·rw[zbb _ _ (.inl q)];omega
    ·have:=ih (Ds.done { d with inn:=d.inn.drop (6+Cs.num d.inn 0) } ((d.inn.take (6+Cs.num d.inn 0)).getD 2 0).toNat ((d.inn.take (6+Cs.num d.inn 0)).getD 3 0).toNat (Cs.num (d.inn.take (6+Cs.num d.inn 0)) 4) ((d.inn.take (6+Cs.num d.inn 0)).drop 6))
     rw[q] at this;have e:({ d with inn:=d.inn.drop (6+Cs.num d.inn 0) }:Ds).inn.length=d.inn.length-(6+Cs.num d.inn 0):=List.length_drop;omega
theorem zxp(d:Ds)(b:Bytes):(d.takes b).ev.length<=d.ev.length+d.inn.length+b.length:=by
 unfold Ds.takes;split
 ·omega
 ·have:=zzbiy ((d.inn++b).length+1) { d with inn:=d.inn++b }
  have e:({ d with inn:=d.inn++b }:Ds).inn.length=d.inn.length+b.length:=List.length_append;have e2:({ d with inn:=d.inn++b }:Ds).ev.length=d.ev.length:=rfl;dsimp only;omega
end
theorem Ds.Ok.fresh{d:Ds}{m:Nat}(h:d.Ok m 0 50000010)(hc:zas d)(h1:d.to_<=150)(h2:d.ctl.length<=20000)(h3:d.ring.length<=100)(h4:d.ev.length<=28500000000):d.Ok 40000000 0 50000010:=by have f:=h.fits;have c1:=hc.mc;have c2:=hc.tc;have c3:=hc.m6;have c4:=hc.t6;exact⟨⟨f.mLast,f.tLast,f.mMost,f.tMost,by omega,by omega,by omega,by omega,f.from0,f.from1,f.to0,by omega,by omega,by omega,by omega,f.inn,f.pings,f.coming,f.bodies,f.st⟩,h.ids,h.newT,h.newM,h.cm,h.ck,by omega,by omega⟩
theorem LK.small{p:Nat}{cl:Bool}{nA nB:Nat}{d e:Ds}{up down:Bytes}{wA wB:Nat->Way}{r:Nat->Bool}{h:Nat->zal}(H:LK p cl nA nB d e up down wA wB r h)(hp:p<=2){m B:Nat}(ok:d.Ok m 0 B):zas d/\d.to_<=150/\d.ctl.length<=20000/\d.ring.length<=100:=by
 have h1:=(H.outLen (λn s hs=>ok.fits.st n s hs) 0).2;obtain⟨r1,r2,-⟩:=H.ring;obtain⟨A,B',U,D,CA,CB,k1,k2,S,-⟩:=H;refine⟨(S.calm hp).2.2.1,?_,by omega,r2⟩
 have:=S.ba.i1
 rw[k1.sc.to];omega
theorem TD.fresh{c:Bool}{d e:Ds}{u v:Bytes}{ls:List Line}{m L:Nat}(H:TD c d e u v ls 2 m L)(h1:d.ev.length<=28500000000)(h2:e.ev.length<=28500000000):TD c d e u v ls 2 40000000 L:=by obtain⟨a1,a2,a3,a4⟩:=H.lk.small (Nat.le_refl _) H.od;obtain⟨b1,b2,b3,b4⟩:=H.lk.swap.small (Nat.le_refl _) H.oe;exact⟨H.lk,H.nodup,H.has,H.od.fresh a1 a2 a3 a4 h1,H.oe.fresh b1 b2 b3 b4 h2,H.di,H.ei,H.ul,H.vl,H.db,H.eb⟩
theorem LK.waitsLe{p:Nat}{cl:Bool}{nA nB:Nat}{d e:Ds}{up down:Bytes}{wA wB:Nat->Way}{r:Nat->Bool}{h:Nat->zal}(H:LK p cl nA nB d e up down wA wB r h)(hp:p<=2){m B:Nat}(ok:d.Ok m 0 B):zaz 100 (dt d)<=3072:=by
 obtain⟨A,B',U,D,CA,CB,k1,k2,S,-⟩:=H;obtain⟨C1,-,hc,-⟩:=S.calm hp;have key:∀ k,dt d k<=256*ind true (d.str k)+256*ind false (d.str k):=λk=>by
  unfold dt Ds.stOf;cases hs:d.str k with
  | none=>exact Nat.zero_le _
  | some x =>
   show x.data.length<=_
   have h256:=(ok.fits.st k x hs).data;obtain⟨-,hx,-,-⟩:=k1.stOf_some hs;rw[zfm,zfm];by_cases hd:x.data=[]
   ·rw[hd];exact Nat.zero_le _
   ·have hm:(vl A.l k).mine=false:=by
     cases q:(vl A.l k).mine with
     | false=>rfl
     | true=>exact absurd (hx.da.symm.trans (S.ab.e2 k q).1) hd
    have hst:zav x.state=true:=by rw[(hx.live (C1.nr k)).1,hm];cases (vl A.l k).theirs<;>rfl
    rw[hst];cases x.mine
    ·simp;omega
    ·simp;omega
 have h1:zaz 100 (dt d)<=zaz 100 λk=>256*ind true (d.str k)+256*ind false (d.str k):=zit λk _=>key k;rw[zlc] at h1;have mul:∀ (f:Nat->Nat) N,zaz N (λk=>256*f k)=256*zaz N f:=λf N=>by
  induction N with
  | zero=>rfl
  | succ N ih=>rw[zaz,zaz,ih];omega
 have mono:∀ (f:Nat->Nat) N,100<=N->zaz 100 f<=zaz N f:=λf N hN=>by
  induction N with
  | zero=>omega
  | succ N ih =>
   by_cases e:100=N+1
   ·rw[<-e];exact Nat.le_refl _
   ·have:=ih (by omega)
    show zaz 100 f<=zaz N f+f N
    omega
 rw[mul,mul] at h1;have q1:=mono (λk=>ind true (d.str k)) 65536 (by omega);have q2:=mono (λk=>ind false (d.str k)) 65536 (by omega);have c1:=hc.mc;have c2:=hc.tc;have c3:=hc.m6;have c4:=hc.t6;unfold zgj at c1 c2;omega
end Go.Proofs.YtoijpogadkogcaaGreat
