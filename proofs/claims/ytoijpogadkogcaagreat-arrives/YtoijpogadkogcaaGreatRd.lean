import Derived.Test.YtoijpogadkogcaaGreatQc
namespace Go.Proofs.YtoijpogadkogcaaGreat
def Cs.wp(c:Cs)(p:Bytes):Cs:={ c with part:=p }
def wp2(r:Cs×Nat)(p:Bytes):Cs×Nat:=(r.1.wp p,r.2)
theorem zzbac(c:Cs)(p:Bytes)(i n:Nat):(c.wp p).gives i n=(c.gives i n).wp p:=by unfold Cs.gives;split<;>rfl
theorem zzbad(c:Cs)(p:Bytes)(i code:Nat):(c.wp p).drops i code=(c.drops i code).wp p:=by unfold Cs.drops;dsimp only;have e:Cs.rings (Cs.mod (c.wp p) i (λs => { s with unread:=[],reset:=true,head:=[],bytes:=[],ending:=false,code:=code })) i=(Cs.rings (Cs.mod c i (λs => { s with unread:=[],reset:=true,head:=[],bytes:=[],ending:=false,code:=code })) i).wp p:=rfl;rw[e,zzbac];rfl
theorem zzbjy(c:Cs)(p:Bytes)(fin:Bool)(id:Nat)(body:Bytes):(c.wp p).comes fin id body=wp2 (c.comes fin id body) p:=by
 have e:Cs.gives { c.wp p with recv:=c.recv-body.length } 0 body.length=(Cs.gives { c with recv:=c.recv-body.length } 0 body.length).wp p:=zzbac { c with recv:=c.recv-body.length } p 0 body.length;have ha:(c.wp p).at? (id:Int)=c.at? (id:Int):=rfl;unfold Cs.comes;dsimp only;rw[ha];by_cases h1:c.recv<body.length
 ·rw[if_pos (show (c.wp p).recv<body.length from h1),if_pos h1];rfl
 ·rw[if_neg (show ¬ (c.wp p).recv<body.length from h1),if_neg h1];have eb:({ (Cs.gives { c.wp p with recv:=(c.wp p).recv-body.length } 0 body.length) with recv:=(c.wp p).recv }:Cs)=({ (Cs.gives { c with recv:=c.recv-body.length } 0 body.length) with recv:=c.recv }:Cs).wp p:=by
   show ({ (Cs.gives { c.wp p with recv:=c.recv-body.length } 0 body.length) with recv:=c.recv }:Cs)=_
   rw[e];rfl
  cases hat:c.at? (id:Int) with
  | none=>dsimp only;rw[eb];rfl
  | some i =>
   dsimp only;rw[eb];by_cases h2:(c.st i).reset=true
   ·rw[if_pos (show ((c.wp p).st i).reset=true from h2),if_pos h2];rfl
   ·rw[if_neg (show ¬ ((c.wp p).st i).reset=true from h2),if_neg h2];by_cases h3:(c.st i).theirs=true
    ·rw[if_pos (show ((c.wp p).st i).theirs=true from h3),if_pos h3];rfl
    ·rw[if_neg (show ¬ ((c.wp p).st i).theirs=true from h3),if_neg h3];by_cases h4:(c.st i).recv<body.length
     ·rw[if_pos (show ((c.wp p).st i).recv<body.length from h4),if_pos h4];rfl
     ·rw[if_neg (show ¬ ((c.wp p).st i).recv<body.length from h4),if_neg h4];by_cases h5:fin=true
      ·rw[if_pos h5,if_pos h5];rfl
      ·rw[if_neg h5,if_neg h5];rfl
theorem zwy(c:Cs)(p:Bytes)(whole:Bool)(id:Nat)(body:Bytes):(c.wp p).joined whole id body=wp2 (c.joined whole id body) p:=by
 unfold Cs.joined;dsimp only;by_cases h1:1000<(c.block++body).length
 ·rw[if_pos (show 1000<((c.wp p).block++body).length from h1),if_pos h1];rfl
 ·rw[if_neg (show ¬ 1000<((c.wp p).block++body).length from h1),if_neg h1];by_cases h2:whole=false
  ·rw[if_pos h2,if_pos h2];rfl
  ·rw[if_neg h2,if_neg h2];have hb:(c.wp p).block=c.block:=rfl;rw[hb];cases hu:unpacks (c.block++body) with
   | none=>rfl
   | some h =>
    dsimp only;have ei:(Cs.at? { c.wp p with block:=c.block++body } (id:Int)).getD 0=(Cs.at? { c with block:=c.block++body } (id:Int)).getD 0:=rfl;have ec:Cs.count { c.wp p with block:=c.block++body } false=Cs.count { c with block:=c.block++body } false:=rfl;rw[ei,ec];generalize (Cs.at? { c with block:=c.block++body } (id:Int)).getD 0=i;generalize Cs.count { c with block:=c.block++body } false=n;by_cases h3:c.told<=n\/c.leaving=true
    ·rw[if_pos (show (c.wp p).told<=n\/(c.wp p).leaving=true from h3),if_pos h3];exact congrArg (λx=>(x,0)) (zzbad (Cs.mod { c with block:=[],now:=0 } i (λs => { s with coming:=false })) p i 6)
    ·rw[if_neg (show ¬ ((c.wp p).told<=n\/(c.wp p).leaving=true) from h3),if_neg h3];by_cases h4:c.ends=true
     ·rw[if_pos (show (c.wp p).ends=true from h4),if_pos h4];rfl
     ·rw[if_neg (show ¬ (c.wp p).ends=true from h4),if_neg h4];rfl
theorem zzbhn(c:Cs)(p:Bytes)(kind:Nat)(fin whole:Bool)(id:Nat)(body:Bytes):(c.wp p).blocks kind fin whole id body=wp2 (c.blocks kind fin whole id body) p:=by
 unfold Cs.blocks;by_cases h1:kind=2
 ·rw[if_pos h1,if_pos h1];by_cases h2:c.now=0
  ·rw[if_pos (show (c.wp p).now=0 from h2),if_pos h2];rfl
  ·rw[if_neg (show ¬ (c.wp p).now=0 from h2),if_neg h2,zwy]
 ·rw[if_neg h1,if_neg h1];by_cases h2:id=0\/c.owns id=true\/id<=c.peer
  ·rw[if_pos (show id=0\/(c.wp p).owns id=true\/id<=(c.wp p).peer from h2),if_pos h2];rfl
  ·rw[if_neg (show ¬ (id=0\/(c.wp p).owns id=true\/id<=(c.wp p).peer) from h2),if_neg h2];exact zwy (c.begins fin id) p whole id body
theorem zzbho(c:Cs)(p:Bytes)(id code:Nat):(c.wp p).broken id code=(c.broken id code).wp p:=by
 have ha:(c.wp p).at? (id:Int)=c.at? (id:Int):=rfl;unfold Cs.broken;rw[ha];cases hat:c.at? (id:Int) with
 | none=>rfl
 | some i =>
  dsimp only;by_cases h1:((c.st i).reset || (c.st i).over)=true
  ·rw[if_pos (show (((c.wp p).st i).reset || ((c.wp p).st i).over)=true from h1),if_pos h1]
  ·rw[if_neg (show ¬ (((c.wp p).st i).reset || ((c.wp p).st i).over)=true from h1),if_neg h1];exact zzbad (c.ev 3 id code) p i 0
theorem zzbcd(c:Cs)(p:Bytes)(ack:Bool)(b:Nat):(c.wp p).settings ack b=wp2 (c.settings ack b) p:=by
 unfold Cs.settings;split
 ·rfl
 ·split<;>rfl
theorem zzbhp(c:Cs)(p:Bytes)(id n:Nat):(c.wp p).window id n=wp2 (c.window id n) p:=by
 have ha:(c.wp p).at? (id:Int)=c.at? (id:Int):=rfl;unfold Cs.window;rw[ha];by_cases h0:n=0
 ·rw[if_pos h0,if_pos h0];rfl
 ·rw[if_neg h0,if_neg h0];by_cases h1:id=0
  ·rw[if_pos h1,if_pos h1];by_cases h2:1000<c.send+n
   ·rw[if_pos (show 1000<(c.wp p).send+n from h2),if_pos h2];rfl
   ·rw[if_neg (show ¬ 1000<(c.wp p).send+n from h2),if_neg h2];rfl
  ·rw[if_neg h1,if_neg h1];cases hat:c.at? (id:Int) with
   | none=>rfl
   | some i =>
    dsimp only;by_cases h2:((c.st i).reset || (c.st i).mine)=true
    ·rw[if_pos (show (((c.wp p).st i).reset || ((c.wp p).st i).mine)=true from h2),if_pos h2];rfl
    ·rw[if_neg (show ¬ (((c.wp p).st i).reset || ((c.wp p).st i).mine)=true from h2),if_neg h2];by_cases h3:1000<(c.st i).send+n
     ·rw[if_pos (show 1000<((c.wp p).st i).send+n from h3),if_pos h3];rfl
     ·rw[if_neg (show ¬ 1000<((c.wp p).st i).send+n from h3),if_neg h3];rfl
theorem zfq{q:Prop}[Decidable q]{a b a' b':Cs×Nat}{p:Bytes}(ha:a'=wp2 a p)(hb:b'=wp2 b p):(if q then a' else b')=wp2 (if q then a else b) p:=by
 split
 ·exact ha
 ·exact hb
theorem zzbln(c:Cs)(p:Bytes)(kind flags id:Nat)(body:Bytes):(c.wp p).done kind flags id body=wp2 (c.done kind flags id body) p:=by
 unfold Cs.done;dsimp only;refine zfq rfl (zfq rfl (zfq rfl (zfq rfl (zfq rfl (zfq rfl (zfq (zzbjy _ _ _ _ _) (zfq (zzbhn _ _ _ _ _ _ _) (zfq ?_ (zfq (zzbcd _ _ _ _) (zfq ?_ (zfq rfl (zzbhp _ _ _ _))))))))))))
 ·rw[zzbho];rfl
 ·show (if _ then (c.wp p).ev 4 0 _ else (c.wp p).ctl 5 1 0 body,0)=((if _ then c.ev 4 0 _ else c.ctl 5 1 0 body).wp p,0)
  congr 1;split<;>rfl
def zuk(c:Cs)(f:Bytes):Cs×Nat:=c.done (f.getD 2 0).toNat (f.getD 3 0).toNat (Cs.num f 4) (f.drop 6)
theorem zzbce(c:Cs)(p f:Bytes):(zuk (c.wp p) f).1.part=p:=by unfold zuk;rw[zzbln];rfl
structure Fr where
 kind:Nat
 flags:Nat
 id:Nat
 body:Bytes
namespace Fr
def enc(f:Fr):Bytes:=frame f.kind f.flags f.id f.body
def Ok(f:Fr):Prop:=f.kind<=7/\f.flags<=3/\f.id<65536/\f.body.length<=64
end Fr
def encs(P:List Fr):Bytes:=(P.map Fr.enc).flatten
theorem zsp:encs []=[]:=rfl
theorem zfg(f:Fr)(P:List Fr):encs (f::P)=f.enc++encs P:=rfl
theorem zew(P Q:List Fr):encs (P++Q)=encs P++encs Q:=by simp[encs]
theorem zno(f:Fr):encs [f]=f.enc:=by simp[encs]
def Cs.doneF(c:Cs)(f:Fr):Cs×Nat:=c.done f.kind f.flags f.id f.body
theorem zel(n:Nat)(h:n<256):(UInt8.ofNat n).toNat=n:=by rw[UInt8.toNat_ofNat'];exact Nat.mod_eq_of_lt h
theorem zir(f:Fr):f.enc.length=6+f.body.length:=by simp[Fr.enc,frame,two];omega
theorem zdd(f:Fr):f.enc=UInt8.ofNat (f.body.length/256)::UInt8.ofNat (f.body.length%256)::UInt8.ofNat f.kind::UInt8.ofNat f.flags::UInt8.ofNat (f.id/256)::UInt8.ofNat (f.id%256)::f.body:=by simp[Fr.enc,frame,two]
theorem zvs(n:Nat)(h:n<65536)(r:Bytes):Cs.num (two n++r) 0=n:=by simp only[Cs.num,two,List.cons_append,List.nil_append,List.getD_cons_zero,List.getD_cons_succ,Nat.zero_add];rw[zel _ (by omega),zel _ (by omega)];omega
theorem zzbdy(f:Fr)(h:f.Ok)(r:Bytes):Cs.num (f.enc++r) 0=f.body.length:=by
 have:=h.2.2.2
 rw[show f.enc++r=two f.body.length++(UInt8.ofNat f.kind::UInt8.ofNat f.flags::UInt8.ofNat (f.id/256)::UInt8.ofNat (f.id%256)::(f.body++r)) from by simp[zdd,two]];exact zvs _ (by omega) _
theorem zzbfk(a r:Bytes)(h:2<=a.length):Cs.num (a++r) 0=Cs.num a 0:=by unfold Cs.num;simp only[List.getD_eq_getElem?_getD,Nat.zero_add];rw[List.getElem?_append_left (by omega),List.getElem?_append_left (by omega)]
theorem zzbfl(c:Cs)(f:Fr)(h:f.Ok):zuk c f.enc=c.doneF f:=by
 obtain⟨h1,h2,h3,h4⟩:=h;have e2:(f.enc.getD 2 0).toNat=f.kind:=by rw[zdd];simp only[List.getD_cons_succ,List.getD_cons_zero];exact zel _ (by omega)
 have e3:(f.enc.getD 3 0).toNat=f.flags:=by rw[zdd];simp only[List.getD_cons_succ,List.getD_cons_zero];exact zel _ (by omega)
 have e4:Cs.num f.enc 4=f.id:=by rw[zdd];simp only[Cs.num,List.getD_cons_succ,List.getD_cons_zero,Nat.reduceAdd];rw[zel _ (by omega),zel _ (by omega)];omega
 have e5:f.enc.drop 6=f.body:=by rw[zdd];rfl
 unfold zuk Cs.doneF;rw[e2,e3,e4,e5]
theorem znp(J:Cs->List Fr->Prop)(hc:∀ c x r P,J c P->c.control=x::r -> ∃ f:Fr,f.enc=x/\J { c with control:=r } (P++[f]))(room:Int)(l:List Bytes) :
  ∀ (c:Cs) (P Q:List Fr),J c (P++Q)->c.control=l -> ∃ Q',J { c with control:=(Cs.outCtl room l (encs Q)).1 } (P++Q')/\(Cs.outCtl room l (encs Q)).2=encs Q':=by
 induction l with
 | nil=>intro c P Q hJ hl;refine⟨Q,?_,rfl⟩;show J { c with control:=[] } _;rw[<-hl];exact hJ
 | cons x r ih =>
  intro c P Q hJ hl;rw[Cs.outCtl];split
  ·refine⟨Q,?_,rfl⟩;show J { c with control:=x::r } _;rw[<-hl];exact hJ
  ·obtain⟨f,hf,hJ'⟩:=hc c x r _ hJ hl
   have:=ih { c with control:=r } P (Q++[f]) (by rw[<-List.append_assoc];exact hJ') rfl
   rw[zew,zno,hf] at this;exact this
def gl(l:List St)(s:Nat):Option St:=l.find? λt=>t.id == s
def vl(l:List St)(s:Nat):St:=(gl l s).getD { id:=s }
def hl(l:List St)(s:Nat):Prop:=(gl l s).isSome=true
def tot(l:List St):Nat:=(l.map λt=>t.unread.length).sum
def al(l:List St)(s:Nat):Option Nat:=l.findIdx? λt=>t.id == s
theorem zcw(c:Cs)(s:Nat):c.at? (s:Int)=al c.l s:=by
 unfold Cs.at? al;congr 1;funext t
 rw[Bool.eq_iff_iff];simp only[beq_iff_eq];omega
theorem zhu(l:List St)(s:Nat)(h:al l s=none):gl l s=none:=by unfold al at h;unfold gl;rw[List.findIdx?_eq_none_iff] at h;rw[List.find?_eq_none];intro t ht;simpa using h t ht
theorem zcs(l:List St)(s i:Nat)(h:al l s=some i):i<l.length/\gl l s=some (l.getD i { id:=0 })/\(l.getD i { id:=0 }).id=s:=by
 induction l generalizing i with
 | nil=>simp[al] at h
 | cons t l ih =>
  unfold al at h;rw[List.findIdx?_cons] at h;by_cases e:t.id == s
  ·rw[if_pos e] at h;have e0:i=0:=(Option.some.inj h).symm;subst e0;refine⟨by simp,?_,by simpa using e⟩;simp[gl,e]
  ·rw[if_neg e] at h;obtain⟨j,hj,rfl⟩:=Option.map_eq_some_iff.1 h;obtain⟨h1,h2,h3⟩:=ih j hj;refine⟨by simp;omega,?_,by simpa using h3⟩;unfold gl at h2 ⊢;rw[List.find?_cons_of_neg (by simpa using e),h2];simp
theorem zdq(l:List St)(s:Nat)(h:hl l s):∃ i,al l s=some i:=by
 cases e:al l s with
 | none=>unfold hl at h;rw[zhu l s e] at h;simp at h
 | some i=>exact⟨i,rfl⟩
theorem zdg(l:List St)(s i:Nat)(h:al l s=some i):vl l s=l.getD i { id:=0 }:=by unfold vl;rw[(zcs l s i h).2.1];rfl
theorem zem(l:List St)(s i:Nat)(h:al l s=some i):hl l s:=by unfold hl;rw[(zcs l s i h).2.1];rfl
theorem zgt(l:List St)(s:Nat):(vl l s).id=s:=by
 cases h:al l s with
 | none=>unfold vl;rw[zhu l s h];rfl
 | some i=>rw[zdg l s i h];exact(zcs l s i h).2.2
theorem zhc(l:List St)(s:Nat)(h:¬ hl l s):vl l s = { id:=s }:=by
 unfold vl;cases e:gl l s with
 | none=>rfl
 | some t=>exact absurd (by unfold hl;rw[e];rfl) h
theorem zlo(l:List St)(s i:Nat)(f:St->St)(hf:∀ t,(f t).id=t.id)(h:al l s=some i)(k:Nat):gl (l.modify i f) k=if k=s then some (f (vl l s)) else gl l k:=by
 induction l generalizing i with
 | nil=>simp[al] at h
 | cons t l ih =>
  unfold al at h;rw[List.findIdx?_cons] at h;by_cases e:t.id == s
  ·rw[if_pos e] at h;have e0:i=0:=(Option.some.inj h).symm;subst e0;have e':t.id=s:=by simpa using e
   have ev:vl (t::l) s=t:=by simp[vl,gl,e]
   rw[List.modify_zero_cons,ev];unfold gl;by_cases hk:k=s
   ·rw[if_pos hk,List.find?_cons_of_pos (by rw[hf,hk];exact e)]
   ·rw[if_neg hk,List.find?_cons_of_neg (by rw[hf];simp;omega),List.find?_cons_of_neg (by simp;omega)]
  ·rw[if_neg e] at h;obtain⟨j,hj,rfl⟩:=Option.map_eq_some_iff.1 h;have e':¬ t.id=s:=by simpa using e
   have ev:vl (t::l) s=vl l s:=by simp[vl,gl,e]
   have:=ih j hj
   rw[List.modify_succ_cons,ev];unfold gl at this ⊢;by_cases ht:t.id=k
   ·rw[List.find?_cons_of_pos (by simpa using ht),List.find?_cons_of_pos (by simpa using ht),if_neg (by omega)]
   ·rw[List.find?_cons_of_neg (by simpa using ht),List.find?_cons_of_neg (by simpa using ht),this]
theorem zbo(l:List St)(s i:Nat)(f:St->St)(hf:∀ t,(f t).id=t.id)(h:al l s=some i)(k:Nat):vl (l.modify i f) k=if k=s then f (vl l s) else vl l k:=by
 unfold vl;rw[zlo l s i f hf h k];split
 ·rfl
 ·rfl
theorem zci(l:List St)(s i:Nat)(f:St->St)(hf:∀ t,(f t).id=t.id)(h:al l s=some i)(k:Nat):hl (l.modify i f) k↔hl l k:=by
 unfold hl;rw[zlo l s i f hf h k];split
 ·rename_i e;subst e
  rw[(zcs l k i h).2.1];simp
 ·rfl
theorem zen(l:List St)(i:Nat)(f:St->St)(hf:∀ t,(f t).id=t.id)(k:Nat):al (l.modify i f) k=al l k:=by
 unfold al
 induction l generalizing i with
 | nil=>simp
 | cons t l ih =>
  cases i with
  | zero=>rw[List.modify_zero_cons,List.findIdx?_cons,List.findIdx?_cons,hf]
  | succ i=>rw[List.modify_succ_cons,List.findIdx?_cons,List.findIdx?_cons,ih i]
theorem zfl(l:List St)(i:Nat)(f:St->St)(h:i<l.length):tot (l.modify i f)+(l.getD i { id:=0 }).unread.length=tot l+(f (l.getD i { id:=0 })).unread.length:=by
 induction l generalizing i with
 | nil=>simp at h
 | cons t l ih =>
  cases i with
  | zero=>simp[tot];omega
  | succ i =>
   have:=ih i (by simpa using h)
   simp only[tot,List.modify_succ_cons,List.map_cons,List.sum_cons,List.getD_cons_succ] at this ⊢;omega
theorem zlp(l:List St)(t:St)(h:¬ hl l t.id)(k:Nat):gl (l++[t]) k=if k=t.id then some t else gl l k:=by
 unfold gl;rw[List.find?_append];by_cases hk:k=t.id
 ·rw[if_pos hk];subst hk
  have:List.find? (λu=>u.id == t.id) l=none:=by
   cases e:List.find? (λu=>u.id == t.id) l with
   | none=>rfl
   | some u=>exact absurd (by unfold hl gl;rw[e];rfl) h
  rw[this];simp
 ·rw[if_neg hk,List.find?_cons_of_neg (by simp;omega)];simp
theorem zjn(l:List St)(t:St)(h:¬ hl l t.id)(k:Nat):vl (l++[t]) k=if k=t.id then t else vl l k:=by unfold vl;rw[zlp l t h k];split<;>rfl
theorem zlq(l:List St)(t:St)(h:¬ hl l t.id)(k:Nat):hl (l++[t]) k↔hl l k\/k=t.id:=by
 unfold hl;rw[zlp l t h k];by_cases e:k=t.id
 ·rw[if_pos e];simp[e]
 ·rw[if_neg e];simp[e]
theorem zul(l:List St)(t:St):tot (l++[t])=tot l+t.unread.length:=by simp[tot]
theorem zzbhq(l:List St)(t:St)(h:¬ hl l t.id):al (l++[t]) t.id=some l.length:=by
 unfold al;rw[List.findIdx?_append]
 have:List.findIdx? (λu=>u.id == t.id) l=none:=by
  cases e:List.findIdx? (λu=>u.id == t.id) l with
  | none=>rfl
  | some u=>exact absurd (zem l t.id u e) h
 rw[this];simp[List.findIdx?_cons]
theorem zzbhr(l:List St)(s:Nat):(vl l s).unread.length<=tot l:=by
 cases e:al l s with
 | none=>unfold vl;rw[zhu l s e];simp
 | some i =>
  rw[zdg l s i e];obtain⟨h,-,-⟩:=zcs l s i e;clear e
  induction l generalizing i with
  | nil=>simp at h
  | cons t l ih =>
   cases i with
   | zero=>simp[tot]
   | succ i =>
    have:=ih i (by simpa using h)
    simp only[tot,List.map_cons,List.sum_cons,List.getD_cons_succ] at this ⊢;omega
def isD(s:Nat)(f:Fr):Prop:=f.kind=0/\f.id=s
instance (s:Nat) (f:Fr):Decidable (isD s f):=inferInstanceAs (Decidable (_/\_))
def dat(s:Nat):List Fr->Bytes
 | []=>[]
 | f::P=>(if isD s f then f.body else [])++dat s P
def fin(s:Nat):List Fr->Bool
 | []=>false
 | f::P=>(decide (isD s f) && f.flags%2 == 1) || fin s P
def win(s:Nat):List Fr->Nat
 | []=>0
 | f::P=>(if f.kind=7/\f.id=s then Cs.num f.body 0 else 0)+win s P
def zbp:List Fr->Nat
 | []=>0
 | f::P=>(if f.kind=0 then f.body.length else 0)+zbp P
def opn(s:Nat)(P:List Fr):Prop:=∃ f∈P,f.kind=1/\f.id=s
def Ord(s:Nat):Bool->List Fr->Prop
 | _,[]=>True
 | e,f::P=>if isD s f then e=false/\Ord s (f.flags%2 == 1) P else Ord s e P
def top:Nat->List Fr->Nat
 | p,[]=>p
 | p,f::P=>top (if f.kind=1 then f.id else p) P
theorem zif(s:Nat)(P Q:List Fr):dat s (P++Q)=dat s P++dat s Q:=by
 induction P with
 | nil=>rfl
 | cons f P ih=>simp only[List.cons_append,dat,ih,List.append_assoc]
theorem zig(s:Nat)(P Q:List Fr):fin s (P++Q)=(fin s P || fin s Q):=by
 induction P with
 | nil=>simp[fin]
 | cons f P ih=>simp only[List.cons_append,fin,ih,Bool.or_assoc]
theorem zbm(s:Nat)(P Q:List Fr):win s (P++Q)=win s P+win s Q:=by
 induction P with
 | nil=>simp[win]
 | cons f P ih=>simp only[List.cons_append,win,ih,Nat.add_assoc]
theorem zoo(P Q:List Fr):zbp (P++Q)=zbp P+zbp Q:=by
 induction P with
 | nil=>simp[zbp]
 | cons f P ih=>simp only[List.cons_append,zbp,ih,Nat.add_assoc]
theorem zgu(s:Nat)(P Q:List Fr):opn s (P++Q)↔opn s P\/opn s Q:=by
 unfold opn;constructor
 ·rintro ⟨f,hf,h⟩;rcases List.mem_append.1 hf with hf | hf
  ·exact .inl ⟨f,hf,h⟩
  ·exact .inr ⟨f,hf,h⟩
 ·rintro (⟨f,hf,h⟩|⟨f,hf,h⟩)
  ·exact⟨f,List.mem_append.2 (.inl hf),h⟩
  ·exact⟨f,List.mem_append.2 (.inr hf),h⟩
theorem zhj(s:Nat)(f:Fr)(P:List Fr):opn s (f::P)↔(f.kind=1/\f.id=s)\/opn s P:=by simp[opn]
theorem znq(p:Nat)(P Q:List Fr):top p (P++Q)=top (top p P) Q:=by
 induction P generalizing p with
 | nil=>rfl
 | cons f P ih=>exact ih _
theorem Ord.weak{s:Nat}{P:List Fr}{e:Bool}(h:Ord s true P):Ord s e P:=by
 induction P with
 | nil=>trivial
 | cons f P ih =>
  unfold Ord at h ⊢;split
  ·rename_i hd;rw[if_pos hd] at h;exact absurd h.1 (by simp)
  ·rename_i hd;rw[if_neg hd] at h;exact ih h
theorem Ord.append{s:Nat}{P Q:List Fr}{e:Bool}(h:Ord s e P)(hq:Ord s (e || fin s P) Q):Ord s e (P++Q):=by
 induction P generalizing e with
 | nil=>simpa[fin] using hq
 | cons f P ih =>
  rw[List.cons_append];unfold Ord at h ⊢;by_cases hd:isD s f
  ·rw[if_pos hd] at h ⊢;refine⟨h.1,ih h.2 ?_⟩;rw[h.1] at hq;simpa[fin,hd] using hq
  ·rw[if_neg hd] at h ⊢;refine ih h ?_;simpa[fin,hd] using hq
theorem zpv(s:Nat)(Q:List Fr)(h:∀ f∈Q,¬ isD s f):dat s Q=[]/\fin s Q=false /\ ∀ e,Ord s e Q:=by
 induction Q with
 | nil=>exact⟨rfl,rfl,λ_=>trivial⟩
 | cons f Q ih =>
  have hf:=h f (by simp);obtain⟨h1,h2,h3⟩:=ih λg hg=>h g (by simp[hg])
  refine⟨by simp[dat,hf,h1],by simp[fin,hf,h2],λe => ?_⟩;unfold Ord;rw[if_neg hf];exact h3 e
theorem zum(s:Nat)(Q:List Fr)(h:∀ f∈Q,f.kind≠7\/f.id≠s):win s Q=0:=by
 induction Q with
 | nil=>rfl
 | cons f Q ih =>
  have hf:=h f (by simp);rw[win,ih λg hg=>h g (by simp[hg]),if_neg (by omega)]
theorem zwz(Q:List Fr)(h:∀ f∈Q,f.kind≠0):zbp Q=0:=by
 induction Q with
 | nil=>rfl
 | cons f Q ih=>rw[zbp,ih λg hg=>h g (by simp[hg]),if_neg (h f (by simp))]
def zeo(k:Nat->Prop)(f:Fr):Prop :=
 (f.kind=4/\f.id=0/\((f.flags=1/\f.body=[])\/(f.flags=0 /\ ∃ x:UInt8,x.toNat<=6/\f.body=[x])))
 \/ (f.kind=5/\f.id=0/\f.body.length=2)
 \/ (f.kind=6/\f.id=0/\f.body.length=3)
 \/ (f.kind=7/\(f.id=0\/k f.id)/\f.body.length=2/\Cs.num f.body 0≠0)
theorem zeo.mono{k k':Nat->Prop}{f:Fr}(h:zeo k f)(hk:∀ s,k s->k' s):zeo k' f:=by
 rcases h with h|h|h|⟨h1,h2,h3⟩
 ·exact .inl h
 ·exact .inr (.inl h)
 ·exact .inr (.inr (.inl h))
 ·exact .inr (.inr (.inr ⟨h1,h2.imp id (hk _),h3⟩))
theorem zeo.kind{k:Nat->Prop}{f:Fr}(h:zeo k f):4<=f.kind:=by rcases h with h | h | h | h<;>omega
def ownB(client:Bool)(id:Nat):Bool:=(id%2 == 1) == client
def Fit(client:Bool)(h:Nat->zal):(Nat->Prop)->Nat->Nat->Bytes->List Fr->Prop
 | _,_,n,_,[]=>n=0
 | k,p,n,b,f::P=>f.Ok /\
  if f.kind=1 then n=0/\ownB client f.id=false/\p<f.id/\f.flags%2=0/\f.body<+:zah (h f.id) /\
   (if f.flags/2%2=1 then f.body=zah (h f.id)/\Fit client h (λs=>k s\/s=f.id) f.id 0 [] P else Fit client h (λs=>k s\/s=f.id) f.id f.id f.body P)
  else if f.kind=2 then n≠0/\n=f.id/\b++f.body<+:zah (h f.id) /\
   (if f.flags/2%2=1 then b++f.body=zah (h f.id)/\Fit client h k p 0 [] P else Fit client h k p n (b++f.body) P)
  else n=0/\((f.kind=0/\k f.id)\/(f.kind=3/\k f.id/\f.body.length=1)\/zeo k f)/\Fit client h k p n b P
theorem Fit.mono{client:Bool}{h:Nat->zal}{P:List Fr}{k k':Nat->Prop}{p n:Nat}{b:Bytes}(hF:Fit client h k p n b P)(hk:∀ s,k s->k' s):Fit client h k' p n b P:=by
 induction P generalizing k k' p n b with
 | nil=>exact hF
 | cons f P ih =>
  unfold Fit at hF ⊢;refine⟨hF.1,?_⟩;have hF:=hF.2;split
  ·rename_i h1
   rw[if_pos h1] at hF;obtain⟨a1,a2,a3,a4,a5,a6⟩:=hF;refine⟨a1,a2,a3,a4,a5,?_⟩;have hk':∀ s,k s\/s=f.id->k' s\/s=f.id:=λs hs=>hs.imp (hk s) id;split
   ·rename_i h2;rw[if_pos h2] at a6;exact⟨a6.1,ih a6.2 hk'⟩
   ·rename_i h2;rw[if_neg h2] at a6;exact ih a6 hk'
  ·rename_i h1
   rw[if_neg h1] at hF;split
   ·rename_i h2
    rw[if_pos h2] at hF;obtain⟨a1,a2,a3,a4⟩:=hF;refine⟨a1,a2,a3,?_⟩;split
    ·rename_i h3;rw[if_pos h3] at a4;exact⟨a4.1,ih a4.2 hk⟩
    ·rename_i h3;rw[if_neg h3] at a4;exact ih a4 hk
   ·rename_i h2
    rw[if_neg h2] at hF;obtain⟨a1,a2,a3⟩:=hF;refine⟨a1,?_,ih a3 hk⟩;rcases a2 with a2 | a2 | a2
    ·exact .inl ⟨a2.1,hk _ a2.2⟩
    ·exact .inr (.inl ⟨a2.1,hk _ a2.2.1,a2.2.2⟩)
    ·exact .inr (.inr (a2.mono hk))
theorem Fit.hdrs{client:Bool}{h h':Nat->zal}{P:List Fr}{k:Nat->Prop}{p n:Nat}{b:Bytes}(hF:Fit client h k p n b P)(hh:∀ f∈P,f.kind=1\/f.kind=2->h' f.id=h f.id):Fit client h' k p n b P:=by
 induction P generalizing k p n b with
 | nil=>exact hF
 | cons f P ih =>
  have ih':=λ{k p n b} (x:Fit client h k p n b P)=>ih x λg hg=>hh g (by simp[hg])
  have hf:=hh f (by simp);unfold Fit at hF ⊢;refine⟨hF.1,?_⟩;have hF:=hF.2;split
  ·rename_i h1
   rw[if_pos h1] at hF;rw[hf (.inl h1)];obtain⟨a1,a2,a3,a4,a5,a6⟩:=hF;refine⟨a1,a2,a3,a4,a5,?_⟩;split
   ·rename_i h2;rw[if_pos h2] at a6;exact⟨a6.1,ih' a6.2⟩
   ·rename_i h2;rw[if_neg h2] at a6;exact ih' a6
  ·rename_i h1
   rw[if_neg h1] at hF;split
   ·rename_i h2
    rw[if_pos h2] at hF;rw[hf (.inr h2)];obtain⟨a1,a2,a3,a4⟩:=hF;refine⟨a1,a2,a3,?_⟩;split
    ·rename_i h3;rw[if_pos h3] at a4;exact⟨a4.1,ih' a4.2⟩
    ·rename_i h3;rw[if_neg h3] at a4;exact ih' a4
   ·rename_i h2
    rw[if_neg h2] at hF;exact⟨hF.1,hF.2.1,ih' hF.2.2⟩
theorem Fit.append{client:Bool}{h:Nat->zal}{P Q:List Fr}{k:Nat->Prop}{p n:Nat}{b:Bytes}(hF:Fit client h k p n b P)(hQ:∀ b',Fit client h (λs=>k s\/opn s P) (top p P) 0 b' Q):Fit client h k p n b (P++Q):=by
 induction P generalizing k p n b with
 | nil =>
  have:n=0:=hF
  subst this;exact(hQ b).mono λs hs=>hs.elim id λ⟨f,hf,_⟩=>by simp at hf
 | cons f P ih =>
  rw[List.cons_append];unfold Fit at hF ⊢;refine⟨hF.1,?_⟩;have hF:=hF.2;split
  ·rename_i h1
   rw[if_pos h1] at hF;obtain⟨a1,a2,a3,a4,a5,a6⟩:=hF;refine⟨a1,a2,a3,a4,a5,?_⟩;have hQ':∀ b',Fit client h (λs=>(k s\/s=f.id)\/opn s P) (top f.id P) 0 b' Q:=by
    intro b'
    have:=hQ b'
    rw[top,if_pos h1] at this;refine this.mono λs hs => ?_;rcases hs with hs | hs
    ·exact .inl (.inl hs)
    ·rcases (zhj s f P).1 hs with hs|hs
     ·exact .inl (.inr hs.2.symm)
     ·exact .inr hs
   split
   ·rename_i h2;rw[if_pos h2] at a6;exact⟨a6.1,ih a6.2 hQ'⟩
   ·rename_i h2;rw[if_neg h2] at a6;exact ih a6 hQ'
  ·rename_i h1
   rw[if_neg h1] at hF;have hQ':∀ b',Fit client h (λs=>k s\/opn s P) (top p P) 0 b' Q:=by
    intro b'
    have:=hQ b'
    rw[top,if_neg h1] at this;refine this.mono λs hs => ?_;rcases hs with hs | hs
    ·exact .inl hs
    ·rcases (zhj s f P).1 hs with hs|hs
     ·exact absurd hs.1 h1
     ·exact .inr hs
   split
   ·rename_i h2
    rw[if_pos h2] at hF;obtain⟨a1,a2,a3,a4⟩:=hF;refine⟨a1,a2,a3,?_⟩;split
    ·rename_i h3;rw[if_pos h3] at a4;exact⟨a4.1,ih a4.2 hQ'⟩
    ·rename_i h3;rw[if_neg h3] at a4;exact ih a4 hQ'
   ·rename_i h2
    rw[if_neg h2] at hF;exact⟨hF.1,hF.2.1,ih hF.2.2 hQ'⟩
def hfr(id:Nat):Nat->Nat->Bytes->List Fr
 | 0,_,_=>[]
 | fuel+1,kind,b=>if b.length=0 then [] else ⟨kind,if b.length<=64 then 2 else 0,id,b.take 64⟩::hfr id fuel 2 (b.drop 64)
theorem zzblo(id fuel kind:Nat)(b:Bytes):encs (hfr id fuel kind b)=Cs.headsGo id fuel kind b:=by
 induction fuel generalizing kind b with
 | zero=>rfl
 | succ n ih =>
  unfold hfr Cs.headsGo;split
  ·rfl
  ·rw[zfg,ih];rfl
theorem zzblp(id fuel kind:Nat)(b:Bytes)(hk:kind=1\/kind=2)(f:Fr)(hf:f∈hfr id fuel kind b):(f.kind=1\/f.kind=2)/\f.id=id:=by
 induction fuel generalizing kind b with
 | zero=>simp[hfr] at hf
 | succ n ih =>
  unfold hfr at hf;split at hf
  ·simp at hf
  ·rcases List.mem_cons.1 hf with rfl|hf
   ·exact⟨hk,rfl⟩
   ·exact ih 2 _ (.inr rfl) hf
theorem zzblq(id fuel:Nat)(b:Bytes)(p:Nat)(hp:p=id):top p (hfr id fuel 2 b)=id:=by
 induction fuel generalizing b with
 | zero=>exact hp
 | succ n ih =>
  unfold hfr;split
  ·exact hp
  ·rw[top,if_neg (by simp)];exact ih _
theorem zzblr(client:Bool)(h:Nat->zal)(id:Nat)(h0:id≠0)(hid:id<65536)(fuel:Nat):∀ (k:Nat->Prop) (p:Nat) (acc b:Bytes),b≠[]->b.length<=fuel->acc++b=zah (h id)->Fit client h k p id acc (hfr id fuel 2 b):=by
 induction fuel with
 | zero=>intro k p acc b hb hl _;exact absurd (List.eq_nil_of_length_eq_zero (by omega)) hb
 | succ n ih =>
  intro k p acc b hb hl he;have hpos:=List.length_pos_iff.2 hb;unfold hfr;rw[if_neg (by omega)];unfold Fit;refine⟨⟨by simp,by dsimp only;split<;>omega,hid,by simp;omega⟩,?_⟩;rw[if_neg (by simp),if_pos rfl];refine⟨h0,rfl,?_,?_⟩
  ·show acc++b.take 64<+:zah (h id)
   rw[<-he];exact⟨b.drop 64,by rw[List.append_assoc,List.take_append_drop]⟩
  ·dsimp only;by_cases h64:b.length<=64
   ·rw[if_pos (by rw[if_pos h64])];have ed:b.drop 64=[]:=List.drop_of_length_le h64;refine⟨by rw[List.take_of_length_le h64];exact he,?_⟩;rw[ed];cases n<;>simp[hfr,Fit]
   ·rw[if_neg (by rw[if_neg h64];simp)];refine ih k p _ _ ?_ (by rw[List.length_drop];omega) (by rw[List.append_assoc,List.take_append_drop];exact he);intro hd
    have:=congrArg List.length hd
    rw[List.length_drop] at this;simp at this;omega
def zgy(id:Nat)(b:Bytes):List Fr:=hfr id b.length 1 b
theorem zun(id:Nat)(b:Bytes):encs (zgy id b)=Cs.heads id b:=zzblo _ _ _ _
theorem zgv(id:Nat)(b:Bytes)(f:Fr)(hf:f∈zgy id b):(f.kind=1\/f.kind=2)/\f.id=id:=zzblp id _ 1 b (.inl rfl) f hf
theorem zkw(id:Nat)(b:Bytes)(hb:b≠[]):∃ fl r,zgy id b=⟨1,fl,id,b.take 64⟩::hfr id (b.length-1) 2 (b.drop 64)/\fl=(if b.length<=64 then 2 else 0)/\r=b.length-1:=by have hpos:=List.length_pos_iff.2 hb;refine⟨_,_,?_,rfl,rfl⟩;obtain⟨n,hn⟩:∃ n,b.length=n+1:=⟨b.length-1,by omega⟩;unfold zgy;rw[hn];rw[hfr,if_neg (by omega),hn];rfl
theorem zzbfm(id:Nat)(b:Bytes)(hb:b≠[])(p:Nat):top p (zgy id b)=id/\opn id (zgy id b):=by obtain⟨fl,r,e,-,-⟩:=zkw id b hb;rw[e];refine⟨?_,⟨_,List.mem_cons_self,rfl,rfl⟩⟩;rw[top,if_pos rfl];exact zzblq _ _ _ _ rfl
theorem zzbfn(client:Bool)(h:Nat->zal)(id:Nat)(hid:id<65536)(k:Nat->Prop)(p:Nat)(acc:Bytes)(hb:zah (h id)≠[])(ho:ownB client id=false)(hp:p<id):Fit client h k p 0 acc (zgy id (zah (h id))):=by
 obtain⟨fl,r,e,efl,-⟩:=zkw id _ hb;rw[e];unfold Fit;refine⟨⟨by simp,by dsimp only;rw[efl];split<;>omega,hid,by simp;omega⟩,?_⟩;rw[if_pos rfl];refine⟨rfl,ho,hp,by dsimp only;rw[efl];split<;>rfl,List.take_prefix _ _,?_⟩;dsimp only;by_cases h64:(zah (h id)).length<=64
 ·rw[if_pos (by rw[efl,if_pos h64])];refine⟨List.take_of_length_le h64,?_⟩;rw[List.drop_of_length_le h64];generalize (zah (h id)).length-1=n;cases n<;>simp[hfr,Fit]
 ·rw[if_neg (by rw[efl,if_neg h64];simp)];refine zzblr client h id (by omega) hid _ _ _ _ _ ?_ (by rw[List.length_drop];omega) (List.take_append_drop _ _);intro hd
  have:=congrArg List.length hd
  rw[List.length_drop] at this;simp at this;omega
structure Way where
 sent:Bytes:=[]
 read:Nat:=0
 ended:Bool:=false
structure Half (A B:Cs) (U D CA CB:List Fr) (w:Nat->Way) (r:Nat->Bool) (h:Nat->zal):Prop where
 fl:A.failed=false
 cl:A.client = !B.client
 hp:∀ s,zbi (h s)=true
 ctl:A.control=CA.map Fr.enc
 ctlOk:∀ f∈CA,f.Ok/\zeo (hl B.l) f
 fit:Fit B.client h (hl B.l) B.peer B.now B.block U
 now:B.now≠0->hl B.l B.now/\(vl B.l B.now).coming=true/\B.ends=false/\ownB B.client B.now=false
 coming:∀ s,(vl B.l s).coming=true->vl B.l s = { id:=s,coming:=true }/\B.now=s
 ringUp:A.ring.Pairwise λx y=>(vl A.l x).head≠[]->(vl A.l y).head≠[]->x<y
 ringHas:∀ s,(vl A.l s).head≠[]->s∈A.ring
 headed:∀ s,(vl A.l s).head≠[]->ownB A.client s=true/\top B.peer U<s/\(vl A.l s).head=Cs.heads s (zah (h s))/\(vl A.l s).reset=false/\(vl A.l s).mine=false
 ids:∀ s,hl A.l s->1<=s/\s<65536/\(if ownB A.client s then s<=A.own else s<=A.peer)
 ownAll:∀ s,1<=s->ownB A.client s=true->s<=A.own->hl A.l s
 ownMax:A.own<=99
 ownPar:A.own=0\/ownB A.client A.own=true
 ringIn:∀ x∈A.ring,hl A.l x
 peerLe:B.peer<=A.own
 introd:∀ s,hl A.l s->(vl A.l s).head=[]->((vl A.l s).reset=false\/0<(vl A.l s).code)->hl B.l s\/opn s U
 opens:∀ f∈U,f.kind<=3->hl A.l f.id/\(f.kind=1\/f.kind=2->ownB A.client f.id=true)
 peers:∀ s,hl B.l s->ownB B.client s=false->hl A.l s
 hdr:∀ s,hl B.l s->ownB B.client s=false->(vl B.l s).headers=h s\/((vl B.l s).headers=[]/\((vl B.l s).coming=true\/(vl B.l s).reset=true))
 evs:∀ e∈B.events,e.1≠6/\(e.1=1->hl B.l e.2.1/\(vl B.l e.2.1).headers=h e.2.1)
 i1:B.recv+tot B.l=150
 i2:A.send+zbp U+win 0 (D++CB)=B.recv
 j:∀ s,s≠0->(vl A.l s).send+(dat s U).length+win s (D++CB)+(vl B.l s).unread.length<=100
 jr:∀ s,(vl B.l s).theirs=false->(vl B.l s).reset=false->(vl B.l s).recv+(vl B.l s).unread.length=100
 ord:∀ s,Ord s (vl B.l s).theirs U
 e1:∀ s,(vl A.l s).mine=false->fin s U=false/\(vl B.l s).theirs=false
 e2:∀ s,(vl A.l s).mine=true->(vl A.l s).bytes=[]/\((vl A.l s).ending=true\/(vl A.l s).reset=true)
 rst:∀ s,(vl A.l s).reset=true->(vl A.l s).head=[]/\(vl A.l s).bytes=[]/\(vl A.l s).ending=false
 q:∀ s,(vl B.l s).reset=false -> ∃ rest,(w s).sent.drop (w s).read=(vl B.l s).unread++dat s U++rest/\((vl A.l s).reset=false->rest=(vl A.l s).bytes)/\(fin s U=true\/(vl B.l s).theirs=true->rest=[]/\(w s).ended=true)
 q0:∀ s,(w s).read<=(w s).sent.length
 sentHas:∀ s,(w s).sent≠[]->hl A.l s
 q2:∀ s,(vl A.l s).ending=true->(w s).ended=true
 q3:∀ s,0<(w s).read->hl B.l s/\(ownB B.client s=false->(vl B.l s).headers≠[])
 z:∀ s,(vl B.l s).reset=true->r s=true\/(∃ c,(3,s,c)∈B.events)\/(ownB B.client s=false/\(vl B.l s).headers=[])
 z2:∀ s,hl A.l s->ownB A.client s=true -> ¬ hl B.l s -> ¬ opn s U->(vl A.l s).head≠[]\/r s=true
structure Sys (A B:Cs) (U D CA CB:List Fr) (wA wB:Nat->Way) (r:Nat->Bool) (h:Nat->zal):Prop where
 ab:Half A B U D CA CB wA r h
 ba:Half B A D U CB CA wB r h
theorem Sys.swap{A B:Cs}{U D CA CB:List Fr}{wA wB:Nat->Way}{r:Nat->Bool}{h:Nat->zal}(S:Sys A B U D CA CB wA wB r h):Sys B A D U CB CA wB wA r h:=⟨S.ba,S.ab⟩
end Go.Proofs.YtoijpogadkogcaaGreat
