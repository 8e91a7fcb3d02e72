import Derived.Test.YtoijpogadkogcaaGreatRa
import Derived.Test.YtoijpogadkogcaaGreatQy
namespace Go.Proofs.YtoijpogadkogcaaGreat
open Go.RowKit
set_option maxRecDepth 100000
theorem zzblh(n:Nat)(h:n<=65535)(r:Bytes):Cs.num (two n++r) 0=n:=by simp[Cs.num,two];omega
theorem zev(d:Ds)(h0:d.inn=[])(hf:d.failed=false)(k f i:Nat)(body:Bytes)(hk:k<=255)(hfl:f<=255)(hi:i<=65535)(hb:body.length<=64)(hd:(d.done k f i body).inn=[]):d.takes (frame k f i body)=d.done k f i body:=by
 have hn:Cs.num (frame k f i body) 0=body.length:=by unfold frame;rw[List.append_assoc,List.append_assoc];exact zzblh _ (by omega) _
 have hst:zbd { d with inn:=frame k f i body }=d.done k f i body:=by
  unfold zbd;have hl:(frame k f i body).length=6+body.length:=zax _ _ _ _;have e0:({ d with inn:=[] }:Ds)=d:=by rw[<-h0]
  have e1:((frame k f i body).getD 2 0).toNat=k:=by simp[frame,two];omega
  have e2:((frame k f i body).getD 3 0).toNat=f:=by simp[frame,two];omega
  have e3:Cs.num (frame k f i body) 4=i:=by simp[frame,two,Cs.num];omega
  have e4:(frame k f i body).drop 6=body:=by simp[frame,two]
  simp only[zcg,zei,hn];have e5:(frame k f i body).drop (6+body.length)=[]:=List.drop_of_length_le (by omega);have e6:(frame k f i body).take (6+body.length)=frame k f i body:=List.take_of_length_le (by omega);rw[e5,e6,e0,e1,e2,e3,e4]
 unfold Ds.takes;rw[if_neg (by rw[hf];simp)];dsimp only;rw[h0,List.nil_append];rw[zdo _ { d with inn:=frame k f i body } hf (by show 6<=(frame k f i body).length;rw[zax];omega) (by show Cs.num (frame k f i body) 0<=64;omega) (by show 6+Cs.num (frame k f i body) 0<=(frame k f i body).length;rw[zax];omega),hst];exact zbb _ _ (.inr (by rw[hd];show 0<6;omega))
theorem zkv(d:Ds)(h0:d.inn=[])(hf:d.failed=false)(k f i:Nat)(body rest:Bytes)(hk:k<=255)(hfl:f<=255)(hi:i<=65535)(hb:body.length<=64)(hd:(d.done k f i body).inn=[]):d.takes (frame k f i body++rest)=(d.done k f i body).takes rest:=by rw[zfp,zev d h0 hf k f i body hk hfl hi hb hd]
theorem zzbff(id:Nat)(hid:id<=65535)(h:zal)(fuel:Nat):∀ (d:Ds) (sofar rest:Bytes),d.inn=[]->d.failed=false->d.coming=some (id,false,sofar)->(sofar++rest).length<=1000->unpacks (sofar++rest)=some h->d.tCount<d.tMost->d.leaving=false->rest.length<=fuel->d.takes (Ds.hframes id fuel 2 rest)=({ d with coming:=none }:Ds).accept id false h:=by
 induction fuel with
 | zero =>
  intro d sofar rest h0 hf hc hl hu hm hv hfu;have hr:rest=[]:=List.length_eq_zero_iff.1 (by omega);subst hr;have e:d.done 2 2 id []=({ d with coming:=none }:Ds).accept id false h:=by unfold Ds.done Ds.off Ds.doMore Ds.takeHeaders;simp only[hc,hu];rw[if_neg (by simp),if_neg (by omega),if_neg (by omega),if_pos (by trivial),if_neg (by omega),if_neg (by simp),if_neg (by rw[hv];simp;omega)]
  show d.takes (frame 2 2 id [])=_
  rw[zev d h0 hf 2 2 id [] (by omega) (by omega) hid (by simp) (by rw[e];exact h0),e]
 | succ fuel ih =>
  intro d sofar rest h0 hf hc hl hu hm hv hfu;unfold Ds.hframes;by_cases h64:64<rest.length
  ·rw[if_pos h64];have hl64:(rest.take 64).length=64:=by rw[List.length_take];omega
   have e:d.done 2 0 id (rest.take 64)=({ d with coming:=some (id,false,sofar++rest.take 64) }:Ds):=by unfold Ds.done Ds.off Ds.doMore Ds.takeHeaders;simp only[hc];rw[if_neg (by simp),if_neg (by omega),if_neg (by omega),if_pos (by trivial),if_neg (by rw[List.length_append] at hl ⊢;omega),if_pos (by rfl)]
   rw[zkv d h0 hf 2 0 id _ _ (by omega) (by omega) hid (by omega) (by rw[e];exact h0),e];refine ih _ (sofar++rest.take 64) (rest.drop 64) h0 hf rfl ?_ ?_ hm hv (by rw[List.length_drop];omega)
   ·rw[List.append_assoc,List.take_append_drop];exact hl
   ·rw[List.append_assoc,List.take_append_drop];exact hu
  ·rw[if_neg h64];have e:d.done 2 2 id rest=({ d with coming:=none }:Ds).accept id false h:=by
    unfold Ds.done Ds.off Ds.doMore Ds.takeHeaders;simp only[hc,hu];rw[if_neg (by simp),if_neg (by omega),if_neg (by omega),if_pos (by trivial),if_neg (by omega),if_neg (by simp),if_neg (by rw[hv];simp;omega)]
   rw[zev d h0 hf 2 2 id rest (by omega) (by omega) hid (by omega) (by rw[e];exact h0),e]
theorem zzbfg(id:Nat)(hid:id<=65535)(h:zal)(hp:zbi h=true)(d:Ds)(h0:d.inn=[])(hf:d.failed=false)(hc:d.coming=none)(hm:d.tCount<d.tMost)(hv:d.leaving=false)(hsd:d.side id=some false)(hlt:d.tLast<id) :
  d.takes (Ds.headerFrames id (zah h))=({ d with tLast:=id }:Ds).accept id false h:=by
 obtain⟨hel,hne,-⟩:=zff h hp;have hu:=zzbbz h hp;generalize zah h=b at *;unfold Ds.headerFrames;have hpos:0<b.length:=List.length_pos_iff.2 hne;obtain⟨fuel,hfu⟩:∃ fuel,b.length=fuel+1:=⟨b.length-1,by omega⟩;have ec:({ d with tLast:=id,coming:=none }:Ds) = { d with tLast:=id }:=by rw[<-hc]
 rw[hfu];unfold Ds.hframes;by_cases h64:64<b.length
 ·rw[if_pos h64];have hl64:(b.take 64).length=64:=by rw[List.length_take];omega
  have e:d.done 1 0 id (b.take 64)=({ d with tLast:=id,coming:=some (id,false,b.take 64) }:Ds):=by unfold Ds.done Ds.off Ds.doOpen Ds.takeHeaders;simp only[hc];rw[if_neg (by simp),if_neg (by omega),if_pos (by trivial),if_pos ⟨hsd,hlt⟩,if_neg (by rw[List.nil_append];omega),if_pos (by rfl),List.nil_append];rfl
  rw[zkv d h0 hf 1 0 id _ _ (by omega) (by omega) hid (by omega) (by rw[e];exact h0),e];rw[zzbff id hid h fuel { d with tLast:=id,coming:=some (id,false,b.take 64) } (b.take 64) (b.drop 64) h0 hf rfl (by rw[List.take_append_drop];omega) (by rw[List.take_append_drop];exact hu) hm hv (by rw[List.length_drop];omega)];rw[<-ec]
 ·rw[if_neg h64];have e:d.done 1 2 id b=({ d with tLast:=id }:Ds).accept id false h:=by
   unfold Ds.done Ds.off Ds.doOpen Ds.takeHeaders;simp only[hc];rw[if_neg (by simp),if_neg (by omega),if_pos (by trivial),if_pos ⟨hsd,hlt⟩,if_neg (by rw[List.nil_append];omega),if_neg (by simp),List.nil_append];simp only[hu];rw[if_neg (by rw[hv];simp;omega)];rfl
  rw[zev d h0 hf 1 2 id b (by omega) (by omega) hid (by omega) (by rw[e];exact h0),e]
theorem zsl(d:Ds)(m:Nat)(hm:m<=60000000)(h1:d.mLast<=99)(h2:d.tLast<=99)(h3:d.mMost<=6)(h4:d.tMost<=6)(h5:0<=d.mCount/\d.mCount<=6)(h6:0<=d.tCount/\d.tCount<=6)(h7:0<=d.from_/\d.from_<=150)(h8:0<=d.to_/\d.to_<=150)
  (h9:d.ctl.length<=10) (h10:d.ring.length<=10) (h11:d.ev.length<=10) (h12:d.inn=[]) (h13:d.pings=0) (h14:d.coming=none) (h15:∀ f∈d.ctl,f.1<=255/\f.2.1<=255/\f.2.2.2.length<=1000/\f.2.2.1<=65535)
  (h16:∀ n s,d.str n=some s->s.Fits/\s.id=n/\s.state≠0/\s.ends=false/\n<=(if d.side n=some true then d.mLast else d.tLast)):d.Ok m 1 (m+10):=by
 refine⟨⟨by omega,by omega,by omega,by omega,by omega,by omega,by omega,by omega,h7.1,by omega,h8.1,by omega,by omega,by omega,by omega,by rw[h12];exact Nat.zero_le _,by omega,λi e b hc=>(by rw[h14] at hc;cases hc),λf hf=>⟨(h15 f hf).2.2.1,(h15 f hf).2.2.2⟩,λn s hn=>(h16 n s hn).1⟩,λn s hn=>⟨(h16 n s hn).2.1,(h16 n s hn).2.2.1,λ_=>(h16 n s hn).2.2.2.1,λh=>absurd h (by omega)⟩,λid hi hl => ?_,λid hi hl => ?_,λi e b hc=>(by rw[h14] at hc;cases hc),λf hf=>⟨(h15 f hf).1,(h15 f hf).2.1⟩,by omega,by omega⟩
 ·cases e:d.str id with
  | none=>rfl
  | some s =>
   have:=(h16 id s e).2.2.2.2
   rw[if_neg (by rw[hi];simp)] at this;omega
 ·cases e:d.str id with
  | none=>rfl
  | some s =>
   have:=(h16 id s e).2.2.2.2
   rw[if_pos hi] at this;omega
theorem zgh{R:Int}{s r:Ds}(hs:s.Ok 3000000 1 3000010)(hr:r.Ok 3000000 1 3000010)(hi:r.inn=[])(hl:(s.out R).2.length<=1000000):zfk R s r :=
 ⟨(hs.outOk (by omega) (by omega)).toE,hs.ck,by omega,3000000,1,3000010,hr,by rw[hi];show 0+_+100<=_;omega,by rw[hi];show 2*(0+_)+20<=_;omega⟩
theorem zzbli(d:Ds)(R:Int)(hR:R=1099511627776)(h1:d.ring=[])(h2:d.ctl.length<=10)(hb:∀ f∈d.ctl,f.2.2.2.length<=1000):d.out R=({ d with ctl:=[] },flat d.ctl):=by rw[zzbds d R hb (by omega)];refine zjl (zjc _ ?_);unfold Ds.ready;rw[show ({ d with ctl:=[] }:Ds).ring=d.ring from rfl,h1];rfl
def Az(a b:Nat):Ds:={ client:=true,mMost:=b,tMost:=a }
def Bz(a b:Nat):Ds:={ client:=false,mMost:=a,tMost:=b }
theorem zzbfh(a:Nat)(h:a<=6):(UInt8.ofNat a).toNat=a:=by simp;omega
theorem zzblj{d:Ds}(h:d.str=λ_=>none):∀ n s,d.str n=some s->s.Fits/\s.id=n/\s.state≠0/\s.ends=false/\n<=(if d.side n=some true then d.mLast else d.tLast):=λn s hn=>by rw[h] at hn;cases hn
theorem zzblk{l:List (Nat×Nat×Nat×Bytes)}(h:∀ f∈l,f.1=4/\f.2.1<=1/\f.2.2.1=0/\f.2.2.2.length<=1):∀ f∈l,f.1<=255/\f.2.1<=255/\f.2.2.2.length<=1000/\f.2.2.1<=65535:=λf hf=>by obtain⟨a,b,c,d⟩:=h f hf;omega
section
variable {a b:Nat} {R:Int}
theorem zok(client:Bool)(x y:Nat)(hx:x<=6)(hy:y<=6)(l:List (Nat×Nat×Nat×Bytes))(hl:l.length<=10)(h4:∀ f∈l,f.1=4/\f.2.1<=1/\f.2.2.1=0/\f.2.2.2.length<=1):Ds.Ok ({ client:=client,mMost:=x,tMost:=y,ctl:=l }:Ds) 3000000 1 3000010 :=
 zsl _ 3000000 (by omega) (by show 0<=99;omega) (by show 0<=99;omega) hx hy ⟨by show (0:Int)<=0;omega,by show (0:Int)<=6;omega⟩ ⟨by show (0:Int)<=0;omega,by show (0:Int)<=6;omega⟩ ⟨by show (0:Int)<=150;omega,by show (150:Int)<=150;omega⟩ ⟨by show (0:Int)<=150;omega,by show (150:Int)<=150;omega⟩ hl (by show 0<=10;omega) (by show 0<=10;omega) rfl rfl rfl (zzblk h4) (zzblj rfl)
theorem zout(client:Bool)(x y:Nat)(l:List (Nat×Nat×Nat×Bytes))(hl:l.length<=10)(h4:∀ f∈l,f.1=4/\f.2.1<=1/\f.2.2.1=0/\f.2.2.2.length<=1)(hR:R=1099511627776):Ds.out ({ client:=client,mMost:=x,tMost:=y,ctl:=l }:Ds) R=({ client:=client,mMost:=x,tMost:=y },flat l) :=
 zzbli _ R hR rfl hl (λf hf=>by have:=(h4 f hf).2.2.2;omega)
theorem zset(client:Bool)(x y z:Nat)(hz:z<=6)(l:List (Nat×Nat×Nat×Bytes)):Ds.takes ({ client:=client,mMost:=x,tMost:=y,ctl:=l }:Ds) (frame 4 0 0 [UInt8.ofNat z]) = { client:=client,mMost:=z,tMost:=y,ctl:=l++[(4,1,0,[])] }:=by
 have e:Ds.done ({ client:=client,mMost:=x,tMost:=y,ctl:=l }:Ds) 4 0 0 [UInt8.ofNat z] = { client:=client,mMost:=z,tMost:=y,ctl:=l++[(4,1,0,[])] }:=by have hb:=zzbfh z hz;unfold Ds.done Ds.off Ds.doSettings Ds.lay;have hg:(([UInt8.ofNat z]:Bytes).getD 0 0).toNat=z:=hb;dsimp only;rw[hg,if_neg (by simp),if_neg (by omega),if_neg (by omega),if_neg (by omega),if_neg (by omega),if_pos (by trivial),if_neg (by simp),if_neg (by simp),if_neg (by simp),if_neg (by omega)]
 rw[zev _ rfl rfl 4 0 0 _ (by omega) (by omega) (by omega) (by simp) (by rw[e]),e]
theorem zack(client:Bool)(x y:Nat)(l:List (Nat×Nat×Nat×Bytes)):Ds.takes ({ client:=client,mMost:=x,tMost:=y,ctl:=l }:Ds) (frame 4 1 0 []) = { client:=client,mMost:=x,tMost:=y,ctl:=l }:=by have e:Ds.done ({ client:=client,mMost:=x,tMost:=y,ctl:=l }:Ds) 4 1 0 [] = { client:=client,mMost:=x,tMost:=y,ctl:=l }:=rfl;rw[zev _ rfl rfl 4 1 0 _ (by omega) (by omega) (by omega) (by simp) (by rw[e]),e]
theorem zmf{A B:Ds}(h1:A.ctl=[])(h2:A.ring=[])(h3:B.inn=[]):half1 R (A,B)=(A,B):=by unfold half1;dsimp only;rw[zht A R h1 h2,zwu B h3]
theorem zrn{A B:Ds}(h1:B.ctl=[])(h2:B.ring=[])(h3:A.inn=[]):half2 R (A,B)=(A,B):=by unfold half2;dsimp only;rw[zht B R h1 h2,zwu A h3]
theorem zzy{A B:Ds}(hA:A.Ok 3000000 1 3000010)(hB:B.Ok 3000000 1 3000010)(h1:A.ctl=[])(h2:A.ring=[])(h3:B.inn=[])(h1':B.ctl=[])(h2':B.ring=[])(h3':A.inn=[]):zfk R A B/\zfk R (half1 R (A,B)).2 (half1 R (A,B)).1:=by rw[zmf h1 h2 h3];exact⟨zgh hA hB h3 (by rw[zht A R h1 h2];exact Nat.zero_le _),zgh hB hA h3' (by rw[zht B R h1' h2'];exact Nat.zero_le _)⟩
theorem zsm(k f i:Nat)(b:Bytes):flat [(k,f,i,b)]=frame k f i b:=by show _++[]=_;rw[List.append_nil]
theorem zzbdt(ha:a<=6)(hb:b<=6)(hR:R=1099511627776) :
  srounds R 5 (Ds.new true a,Ds.new false b)=(Az a b,Bz a b) /\ ∀ i,i<5->zfk R (srounds R i (Ds.new true a,Ds.new false b)).1 (srounds R i (Ds.new true a,Ds.new false b)).2/\zfk R (half1 R (srounds R i (Ds.new true a,Ds.new false b))).2 (half1 R (srounds R i (Ds.new true a,Ds.new false b))).1:=by
 have c1:∀ x:Nat,∀ f∈([(4,0,0,[UInt8.ofNat x])]:List (Nat×Nat×Nat×Bytes)),f.1=4/\f.2.1<=1/\f.2.2.1=0/\f.2.2.2.length<=1:=λx f hf=>by simp at hf;subst hf;simp
 have c2:∀ x:Nat,∀ f∈([(4,0,0,[UInt8.ofNat x]),(4,1,0,[])]:List (Nat×Nat×Nat×Bytes)),f.1=4/\f.2.1<=1/\f.2.2.1=0/\f.2.2.2.length<=1:=λx f hf=>by simp at hf;rcases hf with rfl | rfl<;>simp
 have c3:∀ f∈([(4,1,0,[])]:List (Nat×Nat×Nat×Bytes)),f.1=4/\f.2.1<=1/\f.2.2.1=0/\f.2.2.2.length<=1:=λf hf=>by simp at hf;subst hf;simp
 have c0:∀ f∈([]:List (Nat×Nat×Nat×Bytes)),f.1=4/\f.2.1<=1/\f.2.2.1=0/\f.2.2.2.length<=1:=λf hf=>by cases hf
 have fl2:flat [(4,0,0,[UInt8.ofNat b]),(4,1,0,[])]=frame 4 0 0 [UInt8.ofNat b]++frame 4 1 0 []:=by show _++flat [_]=_;rw[zsm]
 have o1:Ds.out (Ds.new true a) R=({ client:=true,mMost:=1,tMost:=a },frame 4 0 0 [UInt8.ofNat a]):=by rw[<-zsm];exact zout true 1 a [(4,0,0,[UInt8.ofNat a])] (by simp) (c1 a) hR
 have p1:half1 R (Ds.new true a,Ds.new false b)=({ client:=true,mMost:=1,tMost:=a },{ client:=false,mMost:=a,tMost:=b,ctl:=[(4,0,0,[UInt8.ofNat b]),(4,1,0,[])] }):=by
  unfold half1;dsimp only;rw[o1];dsimp only
  have:=zset false 1 b a ha [(4,0,0,[UInt8.ofNat b])]
  rw[show Ds.new false b = { client:=false,mMost:=1,tMost:=b,ctl:=[(4,0,0,[UInt8.ofNat b])] } from rfl,this];rfl
 have o2:=zout (R:=R) false a b [(4,0,0,[UInt8.ofNat b]),(4,1,0,[])] (by simp) (c2 b) hR;have p2:zgg R (Ds.new true a,Ds.new false b)=({ client:=true,mMost:=b,tMost:=a,ctl:=[(4,1,0,[])] },Bz a b):=by unfold zgg;rw[p1];unfold half2;dsimp only;rw[o2];dsimp only;rw[fl2,zfp,zset true 1 a b hb [],zack];rfl
 have o3:=zout (R:=R) true b a [(4,1,0,[])] (by simp) c3 hR;have p3:half1 R ({ client:=true,mMost:=b,tMost:=a,ctl:=[(4,1,0,[])] },Bz a b)=(Az a b,Bz a b):=by
  unfold half1;dsimp only;rw[o3];dsimp only;rw[zsm]
  have:=zack false a b []
  rw[show Bz a b = { client:=false,mMost:=a,tMost:=b,ctl:=[] } from rfl,this];rfl
 have sz1:half1 R (Az a b,Bz a b)=(Az a b,Bz a b):=zmf rfl rfl rfl;have sz2:half2 R (Az a b,Bz a b)=(Az a b,Bz a b):=zrn rfl rfl rfl;have s0:srounds R 0 (Ds.new true a,Ds.new false b)=(Ds.new true a,Ds.new false b):=rfl;have s1:srounds R 1 (Ds.new true a,Ds.new false b)=({ client:=true,mMost:=b,tMost:=a,ctl:=[(4,1,0,[])] },Bz a b):=p2;have s2:srounds R 2 (Ds.new true a,Ds.new false b)=(Az a b,Bz a b):=by
  show zgg R (srounds R 1 _)=_
  rw[s1];unfold zgg;rw[p3,sz2]
 have sn:∀ n,srounds R (n+2) (Ds.new true a,Ds.new false b)=(Az a b,Bz a b):=λn=>by
  induction n with
  | zero=>exact s2
  | succ n ih=>show zgg R (srounds R (n+2) _)=_;rw[ih];unfold zgg;rw[sz1,sz2]
 have kA:(Az a b).Ok 3000000 1 3000010:=zok true b a hb ha [] (by simp) c0;have kB:(Bz a b).Ok 3000000 1 3000010:=zok false a b ha hb [] (by simp) c0;have lf:∀ l:List (Nat×Nat×Nat×Bytes),l.length<=10->(∀ f∈l,f.1=4/\f.2.1<=1/\f.2.2.1=0/\f.2.2.2.length<=1)->(flat l).length<=1000000:=λl h1 h2=>by
  have:=zzw l (λf hf=>by have:=(h2 f hf).2.2.2;omega)
  omega
 refine⟨sn 3,λi hi => ?_⟩
 match i,hi with
 | 0,_ =>
  rw[s0,p1];refine⟨zgh (zok true 1 a (by omega) ha _ (by simp) (c1 a)) (zok false 1 b (by omega) hb _ (by simp) (c1 b)) rfl ?_,zgh (zok false a b ha hb _ (by simp) (c2 b)) (zok true 1 a (by omega) ha [] (by simp) c0) rfl ?_⟩
  ·show ((Ds.new true a).out R).2.length<=_
   rw[o1,zax];simp
  ·dsimp only;rw[o2];exact lf _ (by simp) (c2 b)
 | 1,_ =>
  rw[s1,p3];refine⟨zgh (zok true b a hb ha _ (by simp) c3) kB rfl ?_,zgh kB kA rfl ?_⟩
  ·dsimp only;rw[o3];exact lf _ (by simp) c3
  ·dsimp only;rw[zht _ R rfl rfl];exact Nat.zero_le _
 | (n+2),_ =>
  rw[sn n];exact zzy kA kB rfl rfl rfl rfl rfl rfl
end
def Cl(a b mL:Nat)(mC F:Int)(ring:List Nat)(s1:DS)(s3:Option DS):Ds:={ client:=true,mLast:=mL,mMost:=b,mCount:=mC,tMost:=a,from_:=F,ring:=ring,str:=λk=>if k=1 then some s1 else if k=3 then s3 else none }
def word:Bytes:=[119,111,114,100]
theorem zpu{d:Ds}{n:Nat}{r:List Nat}(hr:d.ring=n::r)(hgo:d.canGo (d.stOf n)=true)(room:Int):d.turned room=if (d.turn (d.stOf n) room).1.length=0 then none else some ((d.turn (d.stOf n) room).1,(d.turn (d.stOf n) room).2.1.leave 0 (d.turn (d.stOf n) room).2.2):=by
 refine zrk room (k:=0) ?_ ?_
 ·unfold Ds.ready;rw[hr,List.findIdx?_cons,hgo];rfl
 ·rw[hr];rfl
section
variable {a b:Nat} {R:Int} {h:zal}
theorem zzbdu(hb:1<=b)(hp:zbi h=true):(Az a b).open? h=0:=by unfold Ds.open?;rw[if_neg (by rw[hp];simp),if_neg (by simp[Az]),if_neg (by simp[Az,Ds.next];omega)]
def S1b(h:zal)(data:Bytes):DS:={ Ds.begun 1 true with block:=zah h,data:=data }
theorem zwv:(Az a b).opened h=Cl a b 1 1 150 [1] (S1b h []) none:=by
 have e:(λk=>if k=1 then some (S1b h []) else none)=(λk=>if k=1 then some (S1b h []) else if k=3 then none else none:Nat->Option DS):=by funext k;simp
 have e2:(Az a b).opened h = { client:=true,mLast:=1,mMost:=b,mCount:=1,tMost:=a,from_:=150,ring:=[1],str:=λk=>if k=1 then some (S1b h []) else none }:=rfl;rw[e2,e];rfl
theorem zsn(mL:Nat)(mC F:Int)(ring:List Nat)(s1 s1':DS)(s3:Option DS):(Cl a b mL mC F ring s1 s3).setS 1 s1'=Cl a b mL mC F ring s1' s3:=by
 have e:(λk=>if k=1 then some s1' else (Cl a b mL mC F ring s1 s3).str k)=(λk=>if k=1 then some s1' else if k=3 then s3 else none:Nat->Option DS):=by
  funext k
  show (if k=1 then some s1' else if k=1 then some s1 else if k=3 then s3 else none)=_
  by_cases h:k=1
  ·rw[if_pos h,if_pos h]
  ·rw[if_neg h,if_neg h,if_neg h]
 unfold Ds.setS;rw[e];rfl
theorem zzz(mL:Nat)(hm:1<=mL)(mC F:Int)(ring:List Nat)(s1:DS)(s3:Option DS)(hk:s1.kept=true)(hi:s1.mine=true):(Cl a b mL mC F ring s1 s3).find 1=s1:=by
 refine zfe ?_;unfold Ds.real;rw[show (Cl a b mL mC F ring s1 s3).side 1=some true from rfl]
 show (if (1:Int)<=(mL:Int) then _ else _)=_
 rw[if_pos (by omega)]
 show (if (s1.kept && s1.mine == true)=true then some s1 else none)=_
 rw[hk,hi];rfl
theorem zqj:(Cl a b 1 1 150 [1] (S1b h []) none).unwritable (S1b h [])=0/\Ds.room (S1b h []) word=4/\(Cl a b 1 1 150 [1] (S1b h []) none).write (S1b h []) word=Cl a b 1 1 150 [1] (S1b h word) none:=by
 refine⟨rfl,rfl,?_⟩;unfold Ds.write;rw[if_neg (by show ¬ (4:Nat)=0;omega)];have e:((S1b h []).data++word.take (Ds.room (S1b h []) word))=word:=rfl;rw[e]
 show ((Cl a b 1 1 150 [1] (S1b h []) none).setS 1 (S1b h word)).enter 1=_
 rw[zsn];rfl
def S1d(data:Bytes):DS:={ Ds.begun 1 true with data:=data }
def S1e:DS:={ Ds.begun 1 true with from_:=96 }
def Ay(a b:Nat):Ds:=Cl a b 1 1 146 [] S1e none
theorem zuj(hp:zbi h=true)(id:Nat):(Ds.headerFrames id (zah h)).length<=7006/\(Ds.headerFrames id (zah h)).length≠0:=by
 obtain⟨hel,-,-⟩:=zff h hp
 have:=ziz id (zah h).length 1 (zah h) (Nat.le_refl _)
 exact⟨by unfold Ds.headerFrames;omega,zrm _ _ _ _⟩
theorem zzbms(hp:zbi h=true)(hR:R=1099511627776):(Cl a b 1 1 150 [1] (S1b h word) none).out R=(Ay a b,Ds.headerFrames 1 (zah h)++frame 0 0 1 word):=by
 obtain⟨hl,hn0⟩:=zuj hp 1;obtain⟨-,hne,-⟩:=zff h hp;obtain⟨f,hf⟩:∃ f,R.toNat+1=f+2:=⟨R.toNat-1,by omega⟩;rw[zzbds _ R (λf hf=>by cases hf) (by show 1006*((0:Nat):Int)<=R;omega),hf]
 show Ds.outRing R (f+2) (Cl a b 1 1 150 [1] (S1b h word) none) []=_
 have t1:(Cl a b 1 1 150 [1] (S1b h word) none).turned (R-(([]:Bytes).length:Int))=some (Ds.headerFrames 1 (zah h),Cl a b 1 1 150 [1] (S1d word) none):=by have ho:(Cl a b 1 1 150 [1] (S1b h word) none).stOf 1=S1b h word:=rfl;have e:=zpj (Cl a b 1 1 150 [1] (S1b h word) none) (S1b h word) (R-(([]:Bytes).length:Int)) hne;rw[if_neg (by show ¬ R-((0:Nat):Int)<((Ds.headerFrames 1 (zah h)).length:Int);omega)] at e;rw[zpu (n:=1) (r:=[]) rfl (by rw[ho];unfold Ds.canGo;simp[S1b,hne]),ho,e];dsimp only;rw[show (S1b h word).id=1 from rfl,show (S1b h word).block=zah h from rfl,if_neg hn0,zsn];rfl
 rw[zpq t1];have t2:(Cl a b 1 1 150 [1] (S1d word) none).turned (R-(([]++Ds.headerFrames 1 (zah h):Bytes).length:Int))=some (frame 0 0 1 word,Ay a b):=by
  have ho:(Cl a b 1 1 150 [1] (S1d word) none).stOf 1=S1d word:=rfl;rw[List.nil_append];generalize hx:(Ds.headerFrames 1 (zah h)).length=x at *;have hn:(Cl a b 1 1 150 [1] (S1d word) none).dataN (S1d word) (R-(x:Int))=((4:Nat):Int):=by
   unfold Ds.dataN
   show min (min (min (min (4:Int) 64) 100) 150) (R-(x:Int)-6)=4
   omega
  have e:=zwk (Cl a b 1 1 150 [1] (S1d word) none) (S1d word) (R-(x:Int)) rfl rfl rfl 4 hn;rw[if_neg (by show ¬ R-(x:Int)<6+((min 4 1:Nat):Int);omega)] at e;rw[zpu (n:=1) (r:=[]) rfl (by rw[ho];rfl),ho,e];unfold zic;dsimp only;rw[show (S1d word).id=1 from rfl,if_neg (by rw[zax];omega)];have e3:({ Cl a b 1 1 150 [1] (S1d word) none with from_:=(Cl a b 1 1 150 [1] (S1d word) none).from_-((4:Nat):Int) }:Ds)=Cl a b 1 1 146 [1] (S1d word) none:=rfl;rw[e3,zsn];rfl
 rw[zpq t2];refine zjl (zjc _ ?_);rfl
def T1(h:zal):DS:={ Ds.begun 1 false with headers:=h,to_:=96,unread:=word }
def By(a b:Nat)(h:zal):Ds:={ client:=false,mMost:=a,tMost:=b,tLast:=1,tCount:=1,to_:=146,ev:=[(1,1,0)],str:=λk=>if k=1 then some (T1 h) else none }
theorem zzbjx(hb:1<=b)(hp:zbi h=true):(Bz a b).takes (Ds.headerFrames 1 (zah h)++frame 0 0 1 word)=By a b h:=by
 have e0:({ Bz a b with tLast:=1 }:Ds).accept 1 false h = { client:=false,mMost:=a,tMost:=b,tLast:=1,tCount:=1,ev:=[(1,1,0)],str:=λk=>if k=1 then some { Ds.begun 1 false with headers:=h } else none }:=by
  have e1:(λk=>if k=1 then some { Ds.begun 1 false with headers:=h } else if k=1 then some (Ds.begun 1 false) else none)=(λk=>if k=1 then some { Ds.begun 1 false with headers:=h } else none:Nat->Option DS):=by funext k;by_cases h:k=1<;>simp[h]
  have e2:({ Bz a b with tLast:=1 }:Ds).accept 1 false h = { client:=false,mMost:=a,tMost:=b,tLast:=1,tCount:=1,ev:=[(1,1,0)],str:=λk=>if k=1 then some { Ds.begun 1 false with headers:=h } else if k=1 then some (Ds.begun 1 false) else none }:=rfl;rw[e2,e1]
 rw[zfp,zzbfg 1 (by omega) h hp (Bz a b) rfl rfl rfl (by show (0:Int)<(b:Int);omega) rfl rfl (by show 0<1;omega),e0];have e:Ds.done { client:=false,mMost:=a,tMost:=b,tLast:=1,tCount:=1,ev:=[(1,1,0)],str:=λk=>if k=1 then some { Ds.begun 1 false with headers:=h } else none } 0 0 1 word=By a b h:=by
  have e1:(λk=>if k=1 then some (T1 h) else if k=1 then some { Ds.begun 1 false with headers:=h } else none)=(λk=>if k=1 then some (T1 h) else none:Nat->Option DS):=by funext k;by_cases h:k=1<;>simp[h]
  have e2:Ds.done { client:=false,mMost:=a,tMost:=b,tLast:=1,tCount:=1,ev:=[(1,1,0)],str:=λk=>if k=1 then some { Ds.begun 1 false with headers:=h } else none } 0 0 1 word = { client:=false,mMost:=a,tMost:=b,tLast:=1,tCount:=1,to_:=146,ev:=[(1,1,0)],str:=λk=>if k=1 then some (T1 h) else if k=1 then some { Ds.begun 1 false with headers:=h } else none }:=rfl;rw[e2,e1];rfl
 rw[zev _ rfl rfl 0 0 1 word (by omega) (by omega) (by omega) (by decide) (by rw[e];rfl),e]
theorem cl_ok(ha:a<=6)(hb:b<=6)(mL:Nat)(hm:mL<=99)(h1m:1<=mL)(mC F:Int)(h0:0<=mC)(h6:mC<=6)(hF0:0<=F)(hF:F<=150)(ring:List Nat)(hr:ring.length<=10)(s1:DS)(s3:Option DS)(f1:s1.Fits)(i1:s1.id=1)(t1:s1.state≠0)(e1:s1.ends=false)(k3:∀ s,s3=some s->3<=mL/\s.Fits/\s.id=3/\s.state≠0/\s.ends=false):(Cl a b mL mC F ring s1 s3).Ok 3000000 1 3000010:=by
 refine zsl _ 3000000 (by omega) hm (by show 0<=99;omega) hb ha ⟨h0,h6⟩ ⟨by show (0:Int)<=0;omega,by show (0:Int)<=6;omega⟩ ⟨hF0,hF⟩ ⟨by show (0:Int)<=150;omega,by show (150:Int)<=150;omega⟩ (by show 0<=10;omega) hr (by show 0<=10;omega) rfl rfl rfl (λf hf=>by cases hf) (λn s hn => ?_);have hn':(if n=1 then some s1 else if n=3 then s3 else none)=some s:=hn;by_cases h1:n=1
 ·rw[if_pos h1] at hn';injection hn' with hn'
  subst hn';subst h1;refine⟨f1,i1,t1,e1,?_⟩;rw[show (Cl a b mL mC F ring s1 s3).side ((1:Nat):Int)=some true from rfl,if_pos rfl];exact h1m
 ·rw[if_neg h1] at hn';by_cases h3:n=3
  ·rw[if_pos h3] at hn';obtain⟨q1,q2,q3,q4,q5⟩:=k3 s hn';subst h3;refine⟨q2,q3,q4,q5,?_⟩;rw[show (Cl a b mL mC F ring s1 s3).side ((3:Nat):Int)=some true from rfl,if_pos rfl];exact q1
  ·rw[if_neg h3] at hn';cases hn'
theorem sfits(id:Nat)(hid:id<=65535)(m:Bool)(f:Int)(h0:0<=f)(h1:f<=1000)(block data:Bytes)(hb:block.length<=1000)(hd:data.length<=256):DS.Fits { Ds.begun id m with from_:=f,block:=block,data:=data } :=
 ⟨hid,by show 1<=8;omega,h0,h1,by show (0:Int)<=100;omega,by show (100:Int)+((0:Nat):Int)<=100;omega,by show 0<=1000;omega,hb,hd,by show 0<=255;omega⟩
theorem tfits(n:Nat)(hn:n<=100)(t:Int)(h0:0<=t)(u:Bytes)(hu:t+u.length<=100)(hh:h.length<=1000):DS.Fits { Ds.begun n false with headers:=h,to_:=t,unread:=u } :=
 ⟨by show n<=65535;omega,by show 1<=8;omega,by show (0:Int)<=100;omega,by show (100:Int)<=1000;omega,h0,hu,hh,by show 0<=1000;omega,by show 0<=256;omega,by show 0<=255;omega⟩
theorem zzbhk(ha:a<=6)(hb:b<=6)(hp:zbi h=true)(l:List (Nat×Nat×Nat×Bytes))(hl:l.length<=10)(hl2:∀ f∈l,f.1<=255/\f.2.1<=255/\f.2.2.2.length<=1000/\f.2.2.1<=65535)(T:Int)(hT0:0<=T)(hT:T<=150)(ev:List (Nat×Nat×Nat))(hev:ev.length<=10)(t:Int)(h0:0<=t)(u:Bytes)(hu:t+u.length<=100) :
  Ds.Ok { client:=false,mMost:=a,tMost:=b,tLast:=1,tCount:=1,to_:=T,ctl:=l,ev:=ev,str:=λk=>if k=1 then some { Ds.begun 1 false with headers:=h,to_:=t,unread:=u } else none } 3000000 1 3000010:=by
 have h8:=(zff h hp).2.2;refine zsl _ 3000000 (by omega) (by show 0<=99;omega) (by show 1<=99;omega) ha hb ⟨by show (0:Int)<=0;omega,by show (0:Int)<=6;omega⟩ ⟨by show (0:Int)<=1;omega,by show (1:Int)<=6;omega⟩ ⟨by show (0:Int)<=150;omega,by show (150:Int)<=150;omega⟩ ⟨hT0,hT⟩ hl (by show 0<=10;omega) hev rfl rfl rfl hl2 (λn s hn => ?_);have hn':(if n=1 then some { Ds.begun 1 false with headers:=h,to_:=t,unread:=u } else none)=some s:=hn;by_cases h1:n=1
 ·rw[if_pos h1] at hn';injection hn' with hn'
  subst hn';subst h1;refine⟨tfits 1 (by omega) t h0 u hu (by omega),rfl,by show (1:Nat)≠0;omega,rfl,?_⟩;rw[if_neg (by rw[show Ds.side _ ((1:Nat):Int)=some false from rfl];simp)];exact Nat.le_refl _
 ·rw[if_neg h1] at hn';cases hn'
theorem by_ok(ha:a<=6)(hb:b<=6)(hp:zbi h=true):(By a b h).Ok 3000000 1 3000010 :=
 zzbhk ha hb hp [] (by simp) (λf hf=>by cases hf) 146 (by omega) (by omega) [(1,1,0)] (by simp) 96 (by omega) word (by show (96:Int)+((4:Nat):Int)<=100;omega)
theorem ay_ok(ha:a<=6)(hb:b<=6):(Ay a b).Ok 3000000 1 3000010 :=
 cl_ok ha hb 1 (by omega) (by omega) 1 146 (by omega) (by omega) (by omega) (by omega) [] (by simp) S1e none (sfits 1 (by omega) true 96 (by omega) (by omega) [] [] (by simp) (by simp)) rfl (by show (1:Nat)≠0;omega) rfl (λs hs=>by cases hs)
theorem aw_ok(ha:a<=6)(hb:b<=6)(hp:zbi h=true)(data:Bytes)(hd:data.length<=256):(Cl a b 1 1 150 [1] (S1b h data) none).Ok 3000000 1 3000010 :=
 cl_ok ha hb 1 (by omega) (by omega) 1 150 (by omega) (by omega) (by omega) (by omega) [1] (by simp) (S1b h data) none (sfits 1 (by omega) true 100 (by omega) (by omega) (zah h) data (zff h hp).1 hd) rfl (by show (1:Nat)≠0;omega) rfl (λs hs=>by cases hs)
theorem zzbdv(ha:a<=6)(hb:b<=6)(hb1:1<=b)(hp:zbi h=true)(hR:R=1099511627776) :
  srounds R 5 (Cl a b 1 1 150 [1] (S1b h word) none,Bz a b)=(Ay a b,By a b h) /\ ∀ i,i<5->zfk R (srounds R i (Cl a b 1 1 150 [1] (S1b h word) none,Bz a b)).1 (srounds R i (Cl a b 1 1 150 [1] (S1b h word) none,Bz a b)).2/\zfk R (half1 R (srounds R i (Cl a b 1 1 150 [1] (S1b h word) none,Bz a b))).2 (half1 R (srounds R i (Cl a b 1 1 150 [1] (S1b h word) none,Bz a b))).1:=by
 have kz:(Bz a b).Ok 3000000 1 3000010:=zok false a b ha hb [] (by simp) (λf hf=>by cases hf);have o1:=zzbms (a:=a) (b:=b) hp hR;have p1:half1 R (Cl a b 1 1 150 [1] (S1b h word) none,Bz a b)=(Ay a b,By a b h):=by unfold half1;dsimp only;rw[o1];dsimp only;rw[zzbjx hb1 hp]
 have sz1:half1 R (Ay a b,By a b h)=(Ay a b,By a b h):=zmf rfl rfl rfl;have sz2:half2 R (Ay a b,By a b h)=(Ay a b,By a b h):=zrn rfl rfl rfl;have sn:∀ n,srounds R (n+1) (Cl a b 1 1 150 [1] (S1b h word) none,Bz a b)=(Ay a b,By a b h):=λn=>by
  induction n with
  | zero=>show zgg R (Cl a b 1 1 150 [1] (S1b h word) none,Bz a b)=_;unfold zgg;rw[p1,sz2]
  | succ n ih=>show zgg R (srounds R (n+1) _)=_;rw[ih];unfold zgg;rw[sz1,sz2]
 refine⟨sn 4,λi hi => ?_⟩
 match i,hi with
 | 0,_ =>
  show zfk R (Cl a b 1 1 150 [1] (S1b h word) none) (Bz a b)/\zfk R (half1 R (Cl a b 1 1 150 [1] (S1b h word) none,Bz a b)).2 (half1 R (Cl a b 1 1 150 [1] (S1b h word) none,Bz a b)).1
  rw[p1];refine⟨zgh (aw_ok ha hb hp word (by decide)) kz rfl ?_,zgh (by_ok ha hb hp) (ay_ok ha hb) rfl ?_⟩
  ·rw[o1]
   have:=(zuj hp 1).1
   show (_++_:Bytes).length<=_
   rw[List.length_append,zax,show word.length=4 from rfl];omega
  ·rw[zht _ R rfl rfl];exact Nat.zero_le _
 | (n+1),_ =>
  rw[sn n];exact zzy (ay_ok ha hb) (by_ok ha hb hp) rfl rfl rfl rfl rfl rfl
def T2(h:zal):DS:={ Ds.begun 1 false with headers:=h,to_:=98,unread:=[114,100] }
def Bx(a b:Nat)(h:zal):Ds:={ client:=false,mMost:=a,tMost:=b,tLast:=1,tCount:=1,to_:=148,ctl:=[(7,0,1,two 2),(7,0,0,two 2)],ev:=[(1,1,0)],str:=λk=>if k=1 then some (T2 h) else none }
theorem zzbll:(By a b h).find 1=T1 h:=by refine zfe ?_;rfl
theorem zzbdw:Ds.read? ((By a b h).find 1) 2=0/\Ds.readN ((By a b h).find 1) 2=2/\((By a b h).find 1).unread.take 2=[119,111]/\(By a b h).read ((By a b h).find 1) 2=Bx a b h:=by
 rw[zzbll];refine⟨rfl,rfl,rfl,?_⟩;have e1:(λk=>if k=1 then some (T2 h) else if k=1 then some { T1 h with unread:=[114,100] } else if k=1 then some (T1 h) else none)=(λk=>if k=1 then some (T2 h) else none:Nat->Option DS):=by funext k;by_cases h:k=1<;>simp[h]
 have e2:(By a b h).read (T1 h) 2 = { client:=false,mMost:=a,tMost:=b,tLast:=1,tCount:=1,to_:=148,ctl:=[(7,0,1,two 2),(7,0,0,two 2)],ev:=[(1,1,0)],str:=λk=>if k=1 then some (T2 h) else if k=1 then some { T1 h with unread:=[114,100] } else if k=1 then some (T1 h) else none }:=rfl;rw[e2,e1];rfl
theorem zzbfi(hp:zbi h=true):(Bx a b h).headers? 1=some h:=by
 have hne:h≠[]:=by intro e;rw[e] at hp;cases hp
 show (if h=[] then none else some h)=some h
 rw[if_neg hne]
theorem bx_ok(ha:a<=6)(hb:b<=6)(hp:zbi h=true):(Bx a b h).Ok 3000000 1 3000010 :=
 zzbhk ha hb hp [(7,0,1,two 2),(7,0,0,two 2)] (by simp) (λf hf=>by simp at hf;rcases hf with rfl | rfl<;>simp[two]) 148 (by omega) (by omega) [(1,1,0)] (by simp) 98 (by omega) [114,100] (by show (98:Int)+((2:Nat):Int)<=100;omega)
end
end Go.Proofs.YtoijpogadkogcaaGreat
