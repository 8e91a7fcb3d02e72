import Derived.Test.YtoijpogadkogcaaGreatRs
import Derived.Test.YtoijpogadkogcaaGreatRo
namespace Go.Proofs.YtoijpogadkogcaaGreat
open Go.RowKit
set_option maxRecDepth 100000
def Px(d:Ds):Nat:=zaz 100 (dt d)
structure RS (r:Nat) (dx dy:Ds):Prop where
 ix:dx.inn=[]
 iy:dy.inn=[]
 px:PB dx
 py:PB dy
 ux:∀ s,un dx s=0
 uy:∀ s,un dy s=0
 dom:∀ s x,dx.str s=some x->zaw x.state=true->dx.from_<=50+x.from_
 mx:Px dx=0\/2*(Px dx:Int)+(150-dx.from_)+100*(r:Int)<=6400
 my:Px dy=0\/Px dy+100*r<=3200
structure S1 (r:Nat) (dx dy:Ds) (v:Bytes):Prop where
 px:PB dx
 iy:dy.inn=[]
 cx:dx.ctl=[]
 more:1<=r->v=[]/\dx.inn=[]/\(∀ s,un dx s=0)/\(Px dx=0\/2*Px dx+zaz 100 (un dy)+100*(r+1)<=6400)/\(Px dy=0\/Px dy+100*r<=3200)
structure S2 (r:Nat) (dx dy:Ds):Prop where
 ix:dx.inn=[]
 iy:dy.inn=[]
 px:PB dx
 py:PB dy
 dom:∀ s x,dx.str s=some x->zaw x.state=true->dx.from_<=50+x.from_
 mx:Px dx=0\/2*(Px dx:Int)+(150-dx.from_)+100*(r:Int)<=6400
 my:Px dy=0\/Px dy+100*r<=3200
theorem zld{p:Nat}{cl:Bool}{nA nB:Nat}{d e:Ds}{down:Bytes}{wA wB:Nat->Way}{r:Nat->Bool}{h:Nat->zal}{b:Bytes}(H:LK p cl nA nB d (e.takes b) [] down wA wB r h):(e.takes b).inn=[]:=by
 refine H.noPart ?_;rcases zzbcs e b with k | k
 ·rw[H.swap.failed] at k;cases k
 ·exact k
theorem zqb{d:Ds}{s:Nat}(h:0<dt d s):∃ x,d.str s=some x/\x.data≠[]/\d.stOf s=x:=by
 unfold dt Ds.stOf at h;cases hs:d.str s with
 | none=>rw[hs] at h;cases h
 | some x =>
  rw[hs] at h;refine⟨x,rfl,λq => ?_,by unfold Ds.stOf;rw[hs];rfl⟩;have h':0<x.data.length:=h;rw[q] at h';cases h'
theorem dt_of{d:Ds}{s:Nat}{x:DS}(h:d.str s=some x):dt d s=x.data.length:=by unfold dt Ds.stOf;rw[h];rfl
section
variable {dx dy:Ds} {u v:Bytes} {ls:List Line} {m m' L:Nat} {R:Int}
theorem zzbkt(hr:R=1099511627776)(H:TD true dx dy u v ls 2 m L)(T:TD true (dx.out R).1 (dy.takes (u++(dx.out R).2)) [] v ls 2 m L):S1 0 (dx.out R).1 (dy.takes (u++(dx.out R).2)) v:=by obtain⟨a1,a2,-⟩:=H.lk.outAll (by omega) H.od (by rw[<-hr];exact T.od) R hr;exact⟨a2,zld T.lk,a1,λq=>by omega⟩
theorem zzbmf{r:Nat}(hr:R=1099511627776)(H:TD true dx dy [] [] ls 2 m L)(T:TD true (dx.out R).1 (dy.takes ([]++(dx.out R).2)) [] [] ls 2 m L)(S:RS r dx dy):S1 r (dx.out R).1 (dy.takes ([]++(dx.out R).2)) []:=by
 obtain⟨a1,a2,a3⟩:=H.lk.outAll (by omega) H.od (by rw[<-hr];exact T.od) R hr;have in1:(dx.out R).1.inn=[]:=(zni dx R).2.trans S.ix;have iy1:=zld T.lk;obtain⟨Q0,q0,l0⟩:=H.lk.ledger (Nat.le_refl _) (by rw[S.ix];rfl);obtain⟨Q1,q1,l1⟩:=(H.lk.out R).ledger (Nat.le_refl _) (by rw[in1];rfl);obtain⟨Q2,q2,l2⟩:=T.lk.ledger (Nat.le_refl _) (by rw[in1];rfl);obtain⟨Qa,qa,-,fa,-⟩:=H.lk.swap.flowQ (Nat.le_refl _);obtain⟨Qb,qb,-,fb,-⟩:=(H.lk.out R).swap.flowQ (Nat.le_refl _);obtain⟨Qc,qc,-,fc,-⟩:=T.lk.swap.flowQ (Nat.le_refl _);rw[S.iy] at q0;rw[iy1] at q2;rw[S.ix] at qa;rw[in1] at qb qc;have z0:=zee Q0 q0.symm;have z2:=zee Q2 q2.symm;have za:=zee Qa qa.symm;have zb:=zee Qb qb.symm;have zc:=zee Qc qc.symm;subst z0 z2 za zb zc;have en:∀ s,(dat s ([]:List Fr)).length=0:=λ_=>rfl;generalize (dx.out R).1=dx1 at *;generalize dy.takes ([]++(dx.out R).2)=dy1 at *;have e1:∀ s,dt dx s=(dat s Q1).length+dt dx1 s:=λs=>by
  have k0:=l0.flow s;have k1:=l1.flow s
  have:=en s
  omega
 have e2:∀ s,un dy1 s=(dat s Q1).length:=λs=>by
  have k1:=l1.flow s;have k2:=l2.flow s
  have:=en s
  have:=S.uy s
  omega
 have e3:∀ s,un dx1 s=0:=λs=>by
  have k0:=fa s;have k1:=fb s
  have:=en s
  have:=S.ux s
  unfold un at *;omega
 have e4:∀ s,dt dy1 s=dt dy s:=λs=>by
  have k1:=fb s;have k2:=fc s
  have:=en s
  unfold dt;omega
 have s1:Px dx=(zaz 100 λs=>(dat s Q1).length)+Px dx1:=by unfold Px;rw[zdi (f:=dt dx) (g:=λs=>(dat s Q1).length+dt dx1 s) λs _=>e1 s,zlc]
 have s2:zaz 100 (un dy1)=zaz 100 λs=>(dat s Q1).length:=zdi λs _=>e2 s;have s3:Px dy1=Px dy:=zdi λs _=>e4 s;have c0:=l0.conn;have c1:=l1.conn;have z0:(zaz 100 λs=>(dat s ([]:List Fr)).length)=0:=zgk λs _=>rfl;rw[z0] at c0;refine⟨a2,iy1,a1,λ_=>⟨rfl,in1,e3,?_,by rw[s3];exact S.my⟩⟩;by_cases hP:Px dx1=0
 ·exact .inl hP
 ·right;obtain⟨s,hs,hd⟩:=zsy (f:=dt dx1) (N:=100) (by unfold Px at hP;omega);obtain⟨x1,y1,y2,-⟩:=zqb hd;obtain⟨x,y3,y4,-⟩:=zqb (d:=dx) (s:=s) (by have:=e1 s;omega);have g1:=l1.sends s x1 y1 y2;have g0:=l0.sends s x y3 y4;have t1:=l1.strm s x1 y1 g1;have t0:=l0.strm s x y3 g0;have d0:=S.dom s x y3 g0;have hge:(dat s Q1).length<=zaz 100 λs=>(dat s Q1).length:=zmz (f:=λs=>(dat s Q1).length) hs;have p1:=l1.pos.1;have p2:=l1.pos.2 s x1 y1;have hX:dx.from_-50<=((zaz 100 λs=>(dat s Q1).length:Nat):Int):=by
   have:=en s
   rcases a3 s x1 y1 y2 with q|q
   ·omega
   ·omega
  rcases S.mx with q|q
  ·omega
  ·rw[s2];omega
theorem zzbiz{r:Nat}(hr:R=1099511627776)(H:TD true dx dy [] v ls 2 m L)(T:TD true (dx.takes (v++(dy.out R).2)) (dy.out R).1 [] [] ls 2 m L)(S:S1 r dx dy v):S2 (r+1) (dx.takes (v++(dy.out R).2)) (dy.out R).1:=by
 obtain⟨a1,a2,a3⟩:=H.lk.swap.outAll (by omega) H.oe (by rw[<-hr];exact T.oe) R hr;have iy2:(dy.out R).1.inn=[]:=(zni dy R).2.trans S.iy;have ix2:=zld T.lk.swap;have pbx:=S.px.takes (v++(dy.out R).2) T.lk.failed;obtain⟨Q,q,l⟩:=T.lk.ledger (Nat.le_refl _) (by rw[ix2];rfl);rw[iy2] at q;have z:=zee Q q.symm;subst z;have en:∀ s,(dat s ([]:List Fr)).length=0:=λ_=>rfl;have z0:(zaz 100 λs=>(dat s ([]:List Fr)).length)=0:=zgk λs _=>rfl;have cn:=l.conn;rw[z0,zzbbe a1] at cn;have hwx:=T.lk.waitsLe (Nat.le_refl _) T.od;have hwy:=T.lk.swap.waitsLe (Nat.le_refl _) T.oe;have hpos:=l.pos.1;have hdom:∀ s x,(dx.takes (v++(dy.out R).2)).str s=some x->zaw x.state=true->(dx.takes (v++(dy.out R).2)).from_<=50+x.from_:=λs x hs hsd=>by
  have k:=l.strm s x hs hsd;rw[zzbbe a1] at k
  have:=en s
  have:=zmz (f:=un (dy.out R).1) (N:=100) (l.num s x hs).2
  omega
 by_cases h0:r=0
 ·subst h0;refine⟨ix2,iy2,pbx,a2,hdom,.inr ?_,.inr ?_⟩
  ·unfold Px;omega
  ·unfold Px;omega
 ·obtain⟨rfl,ix1,ux1,mx1,my1⟩:=S.more (by omega);obtain⟨Qa,qa,-,fa,-⟩:=H.lk.flowQ (Nat.le_refl _);obtain⟨Qb,qb,-,fb,-⟩:=(H.lk.swap.out R).swap.flowQ (Nat.le_refl _);obtain⟨Q3,q3,l3⟩:=H.lk.swap.ledger (Nat.le_refl _) (by rw[S.iy];rfl);obtain⟨Q4,q4,l4⟩:=(H.lk.swap.out R).ledger (Nat.le_refl _) (by rw[iy2];rfl);rw[S.iy] at qa;rw[iy2] at qb;rw[ix1] at q3;have za:=zee Qa qa.symm;have zb:=zee Qb qb.symm;have z3:=zee Q3 q3.symm;subst za zb z3;have e1:∀ s,un (dy.out R).1 s=un dy s:=λs=>by
   have k1:=fa s;have k2:=fb s
   have:=en s
   unfold un;omega
  have e2:∀ s,dt (dx.takes ([]++(dy.out R).2)) s=dt dx s:=λs=>by
   have k1:=fa s;have k2:=l.flow s
   have:=en s
   have:=e1 s
   unfold un dt at *;omega
  have e3:∀ s,dt dy s=(dat s Q4).length+dt (dy.out R).1 s:=λs=>by
   have k1:=l3.flow s;have k2:=l4.flow s
   have:=en s
   omega
  have s1:Px (dx.takes ([]++(dy.out R).2))=Px dx:=zdi λs _=>e2 s;have s2:zaz 100 (un (dy.out R).1)=zaz 100 (un dy):=zdi λs _=>e1 s;have s3:Px dy=(zaz 100 λs=>(dat s Q4).length)+Px (dy.out R).1:=by unfold Px;rw[zdi (f:=dt dy) (g:=λs=>(dat s Q4).length+dt (dy.out R).1 s) λs _=>e3 s,zlc]
  have sux:zaz 100 (un dx)=0:=zgk λs _=>ux1 s;refine⟨ix2,iy2,pbx,a2,hdom,?_,?_⟩
  ·rw[s1];rcases mx1 with k | k
   ·exact .inl k
   ·right;omega
  ·by_cases hP:Px (dy.out R).1=0
   ·exact .inl hP
   ·right;obtain⟨s,hs,hd⟩:=zsy (f:=dt (dy.out R).1) (N:=100) (by unfold Px at hP;omega);obtain⟨x1,y1,y2,-⟩:=zqb hd;have g1:=l4.sends s x1 y1 y2;have t1:=l4.strm s x1 y1 g1;have c4:=l4.conn;rw[zzbbe S.cx] at t1 c4;rw[sux] at c4;have u0:=ux1 s;have hge:(dat s Q4).length<=zaz 100 λs=>(dat s Q4).length:=zmz (f:=λs=>(dat s Q4).length) hs;have p1:=l4.pos.1;have p2:=l4.pos.2 s x1 y1;have hY:100<=zaz 100 λs=>(dat s Q4).length:=by
     rcases a3 s x1 y1 y2 with q|q
     ·omega
     ·omega
    rcases my1 with k|k
    ·omega
    ·omega
end
theorem zzbbf(d:Ds)(x:DS)(n:Nat):∃ y:DS,(∀ s,(d.read x n).str s=if s=x.id then some y else d.str s)/\y.from_=x.from_/\y.state=x.state/\y.data=x.data/\y.unread=x.unread.drop n/\(d.read x n).inn=d.inn/\(d.read x n).from_=d.from_:=by
 unfold Ds.read;dsimp only;split
 ·exact⟨{ x with unread:=x.unread.drop n },λs=>rfl,rfl,rfl,rfl,rfl,rfl,rfl⟩
 split
 ·exact⟨{ x with unread:=x.unread.drop n },λs=>rfl,rfl,rfl,rfl,rfl,rfl,rfl⟩
 ·refine⟨{ x with unread:=x.unread.drop n,to_:=x.to_+n },λs => ?_,rfl,rfl,rfl,rfl,rfl,rfl⟩
  show (if s=x.id then some { x with unread:=x.unread.drop n,to_:=x.to_+n } else if s=x.id then some { x with unread:=x.unread.drop n } else d.str s)=_
  by_cases e:s=x.id
  ·rw[if_pos e,if_pos e]
  ·rw[if_neg e,if_neg e,if_neg e]
structure Rd1 (d d':Ds) (n:Nat):Prop where
 inn:d'.inn=d.inn
 ev:d'.ev=d.ev
 fr:d'.from_=d.from_
 pb:PB d->PB d'
 str:∀ s x',d'.str s=some x' -> ∃ x,d.str s=some x/\x'.from_=x.from_/\x'.state=x.state
 dts:∀ s,dt d' s=dt d s
 zero:un d' n=0
 le:∀ s,un d' s<=un d s
theorem LK.readZero{p:Nat}{cl:Bool}{nA nB:Nat}{d e:Ds}{up down:Bytes}{wA wB:Nat->Way}{r:Nat->Bool}{h:Nat->zal}(H:LK p cl nA nB d e up down wA wB r h)(hp:p<=2)(n:Nat)(most:Int)(hm:0<=most)(hz:Ds.read? (d.find (n:Int)) most≠0/\Ds.read? (d.find (n:Int)) most≠8):d.str n=none:=by
 obtain⟨A,B,U,D,CA,CB,h1,h2,S,-⟩:=H;obtain⟨C1,-,-,-⟩:=S.calm hp;cases hs:d.str n with
 | none=>rfl
 | some x =>
  exfalso;obtain⟨a0,a1,a2,a3⟩:=h1.stOf_some hs;have hf:d.find (n:Int)=x:=by
   rcases h1.find S.toSys.idsA n with ⟨q1,q2⟩|⟨q1,q2,q3⟩|⟨q1,i',s',q2,q3,q4,q5,q6⟩
   ·rw[S.toSys.idsA.known a3] at q1;cases q1
   ·obtain⟨i,hi⟩:=zdq A.l n a3;rcases q3 with q3 | ⟨i',q3,q4⟩
    ·rw[hi] at q3;cases q3
    ·rcases q4 with q4|⟨-,q4,-⟩
     ·rw[a2] at q4;cases q4
     ·rw[C1.nr n] at q4;cases q4
   ·rw[q3];rw[hs] at q4;injection q4 with q4;exact q4.symm
  rw[hf] at hz;unfold Ds.read? at hz;rw[if_neg a1.state_pos,if_neg (by omega),a1.isReset,C1.nr n,if_neg Bool.false_ne_true] at hz;split at hz
  ·exact hz.2 rfl
  ·exact hz.1 rfl
theorem zzbja{c:Bool}{d e d':Ds}{u v:Bytes}{ls ls':List Line}{k m L:Nat}{t:Line}(H:TD c d e u v ls 2 m L)(ht:ls[k]? = some t)(X:RdX c d ls k 1000 d' ls'):Rd1 d d' t.id/\ls'.map Line.id=ls.map Line.id:=by
 have hid:=H.line ht;rcases X t ht with ⟨h0,rfl,rfl⟩ | ⟨h0,rfl,rfl⟩
 ·refine⟨⟨rfl,rfl,rfl,id,λs x' hs=>⟨x',hs,rfl,rfl⟩,λ_=>rfl,?_,λ_=>Nat.le_refl _⟩,rfl⟩;by_cases h8:Ds.read? (d'.find (t.id:Int)) ((1000:Nat):Int)=8
  ·cases hs:d'.str t.id with
   | none=>unfold un Ds.stOf;rw[hs];rfl
   | some x =>
    have hst:(d'.find (t.id:Int)).state≠0/\(d'.find (t.id:Int)).state≠8:=by
     unfold Ds.read? at h8;constructor
     ·intro q;rw[if_pos q] at h8;cases h8
     ·intro q;rw[if_neg (by rw[q];omega),if_neg (by omega),q] at h8;cases h8
    have hfs:=zzbak d' t.id hst.1 hst.2;rw[hs] at hfs;injection hfs with hfs
    rw[<-hfs] at h8;unfold Ds.read? at h8;rw[if_neg (by rw[hfs];exact hst.1),if_neg (by omega)] at h8;split at h8
    ·cases h8
    ·split at h8
     ·rename_i q
      unfold un Ds.stOf;rw[hs];exact q.1
     ·cases h8
  ·have:=H.lk.readZero (Nat.le_refl _) t.id ((1000:Nat):Int) (by omega) ⟨h0,h8⟩
   unfold un Ds.stOf;rw[this];rfl
 ·have hst:(d.find (t.id:Int)).state≠0/\(d.find (t.id:Int)).state≠8:=by
   unfold Ds.read? at h0;constructor
   ·intro q;rw[if_pos q] at h0;cases h0
   ·intro q;rw[if_neg (by rw[q];omega),if_neg (by omega),q] at h0;cases h0
  obtain⟨hs,hi⟩:=H.lk.realStr t.id hst.1 hst.2;generalize hx:d.find (t.id:Int)=x at *;have hfit:=(H.od.fits.st t.id x hs).to1;have hto:=(H.od.fits.st t.id x hs).to0;have hn:Ds.readN x ((1000:Nat):Int)=x.unread.length:=by unfold Ds.readN;omega
  rw[hn];obtain⟨y,y1,y2,y3,y4,y5,y6,y7⟩:=zzbbf d x x.unread.length;have hsx:d.str x.id=some x:=by rw[hi];exact hs
  have stx:d.stOf x.id=x:=by unfold Ds.stOf;rw[hsx];rfl
  have sto:∀ s,(d.read x x.unread.length).stOf s=if s=x.id then y else d.stOf s:=λs=>by unfold Ds.stOf;rw[y1];split<;>rfl
  refine⟨⟨y6,zql _ _ _,y7,λq=>q.read (q x.id x hsx) _,λs x' hs' => ?_,λs => ?_,?_,λs => ?_⟩,zns _ _ _ λz=>(zdz z c _).2.2.2.2⟩
  ·rw[y1] at hs';split at hs'
   ·rename_i es
    injection hs' with hs'
    rw[<-hs',es];exact⟨x,hsx,y2,y3⟩
   ·exact⟨x',hs',rfl,rfl⟩
  ·unfold dt;rw[sto];split
   ·rename_i es;rw[es,stx,y4]
   ·rfl
  ·unfold un;rw[sto,if_pos hi.symm,y5,List.drop_of_length_le (Nat.le_refl _)];rfl
  ·unfold un;rw[sto];split
   ·rename_i es;rw[es,stx,y5,List.length_drop];omega
   ·exact Nat.le_refl _
structure RP (r k:Nat) (dx dy:Ds) (ids:List Nat):Prop where
 s2:S2 r dx dy
 rx:∀ j n,j<k->ids[j]? = some n->un dx n=0
 ry:∀ j n,j<k->ids[j]? = some n->un dy n=0
theorem S2.readX{r:Nat}{dx dy d':Ds}{n:Nat}(S:S2 r dx dy)(R:Rd1 dx d' n):S2 r d' dy :=
 ⟨R.inn.trans S.ix,S.iy,R.pb S.px,S.py,λs x' hs hsd=>by
  obtain⟨x,q1,q2,q3⟩:=R.str s x' hs;rw[R.fr,q2];exact S.dom s x q1 (by rw[<-q3];exact hsd),by
  have:Px d'=Px dx:=zdi λs _=>R.dts s
  rw[this,R.fr];exact S.mx,S.my⟩
theorem S2.readY{r:Nat}{dx dy d':Ds}{n:Nat}(S:S2 r dx dy)(R:Rd1 dy d' n):S2 r dx d' :=
 ⟨S.ix,R.inn.trans S.iy,S.px,R.pb S.py,S.dom,S.mx,by
  have:Px d'=Px dy:=zdi λs _=>R.dts s
  rw[this];exact S.my⟩
theorem zero_le{a b:Nat}(h:a<=b)(h0:b=0):a=0:=by omega
theorem RP.readX{r k:Nat}{dx dy d':Ds}{ids:List Nat}{n:Nat}(S:RP r k dx dy ids)(R:Rd1 dx d' n):RP r k d' dy ids :=
 ⟨S.s2.readX R,λj i hj hi=>zero_le (R.le i) (S.rx j i hj hi),S.ry⟩
theorem RP.readY{r k:Nat}{dx dy d':Ds}{ids:List Nat}{n:Nat}(S:RP r k dx dy ids)(R:Rd1 dy d' n):RP r k dx d' ids :=
 ⟨S.s2.readY R,S.rx,λj i hj hi=>zero_le (R.le i) (S.ry j i hj hi)⟩
theorem RP.next{r k:Nat}{dx dy:Ds}{ids:List Nat}{n:Nat}(S:RP r k dx dy ids)(hn:ids[k]? = some n)(h1:un dx n=0)(h2:un dy n=0):RP r (k+1) dx dy ids:=by
 refine⟨S.s2,λj i hj hi => ?_,λj i hj hi => ?_⟩
 ·by_cases e:j=k
  ·rw[e,hn] at hi;injection hi with hi;rw[<-hi];exact h1
  ·exact S.rx j i (by omega) hi
 ·by_cases e:j=k
  ·rw[e,hn] at hi;injection hi with hi;rw[<-hi];exact h2
  ·exact S.ry j i (by omega) hi
theorem zzbku{ls:List Line}{s:Nat}(h:s ∉ ls.map Line.id):(lwA ls s).sent=[]/\(lwB ls s).sent=[]/\(lwA ls s).read=0/\(lwB ls s).read=0:=by have hn:=zlt ls s h;unfold lwA lwB;rw[hn];exact⟨rfl,rfl,rfl,rfl⟩
theorem RP.rest{r m L:Nat}{dx dy:Ds}{ls:List Line}(H:TD true dx dy [] [] ls 2 m L)(S:RP r ls.length dx dy (ls.map Line.id)):RS r dx dy:=by
 obtain⟨Q0,q0,-,f0,-⟩:=H.lk.flowQ (Nat.le_refl _);obtain⟨Q1,q1,-,f1,-⟩:=H.lk.swap.flowQ (Nat.le_refl _);have key:∀ s,un dx s=0/\un dy s=0:=λs=>by
  by_cases hs:s∈ls.map Line.id
  ·obtain⟨j,hj⟩:=List.mem_iff_getElem?.1 hs;have hlt:j<ls.length:=by
    have:=(List.getElem?_eq_some_iff.1 hj).1
    rw[List.length_map] at this;exact this
   exact⟨S.rx j s hlt hj,S.ry j s hlt hj⟩
  ·obtain⟨a1,a2,-,-⟩:=zzbku hs;have k0:(lwA ls s).sent.length=_:=f0 s;have k1:(lwB ls s).sent.length=_:=f1 s;rw[a1] at k0;rw[a2] at k1
   have:([]:Bytes).length=0:=rfl
   unfold un;omega
 exact⟨S.s2.ix,S.s2.iy,S.s2.px,S.s2.py,λs=>(key s).1,λs=>(key s).2,S.s2.dom,S.s2.mx,S.s2.my⟩
theorem Fit.nil{client:Bool}{h:Nat->zal}{k:Nat->Prop}{p n:Nat}{b:Bytes}(hF:Fit client h k p n b []):n=0:=hF
theorem LK.there{p:Nat}{cl:Bool}{nA nB:Nat}{d e:Ds}{up down:Bytes}{wA wB:Nat->Way}{r:Nat->Bool}{h:Nat->zal}(H:LK p cl nA nB d e up down wA wB r h)(hp:p<=2)(hD:d.inn++down=[])(pb:PB e)(n:Nat)(h1:1<=n)(hn:n<=(if ownB cl n then nA else nB)) :
  ∃ x,d.str n=some x/\d.find (n:Int)=x/\x.state≠0/\zbx x.state=false:=by
 obtain⟨A,B,U,D,CA,CB,k1,k2,S,h3,h4,h5,h6,h7,-⟩:=H;obtain⟨C1,C2,-,-⟩:=S.calm hp;have eD:D=[]:=zee D (by rw[<-h4];exact hD);subst eD;have hnow:A.now=0:=S.ba.fit.nil;have hcm:(vl A.l n).coming=false:=by
  cases q:(vl A.l n).coming with
  | false=>rfl
  | true=>have:=(S.ba.coming n q).2;omega
 have hh:hl A.l n:=by
  cases ho:ownB A.client n with
  | true =>
   refine S.ab.ownAll n h1 ho ?_;rw[<-h7,ho,if_pos rfl,<-h5] at hn;exact hn
  | false =>
   have hob:ownB B.client n=true:=by rw[zqk S.ba.cl,ho];rfl
   rw[<-h7,ho,if_neg Bool.false_ne_true,<-h6] at hn;have hB:=S.ba.ownAll n h1 hob hn;have hcb:(vl B.l n).coming=false:=by
    cases q:(vl B.l n).coming with
    | false=>rfl
    | true =>
     have q2:=(S.ab.coming n q).2
     have:=S.ab.now (by omega)
     rw[q2,hob] at this;exact absurd this.2.2.2 (by simp)
   obtain⟨i,hi⟩:=zdq B.l n hB;obtain⟨y,hy,hr⟩:=k2.at hi hcb;have hhd:(vl B.l n).head=[]:=by rw[hr.he,if_pos (pb n y hy).1]
   rcases S.ba.introd n hB hhd (.inl (C2.nr n)) with q|⟨f,hf,-⟩
   ·exact q
   ·cases hf
 obtain⟨i,hi⟩:=zdq A.l n hh;obtain⟨x,hx,hr⟩:=k1.at hi hcm;refine⟨x,hx,?_,hr.state_pos,by rw[hr.isReset,C1.nr n]⟩;rcases k1.find S.toSys.idsA n with ⟨q1,q2⟩ | ⟨q1,q2,q3⟩ | ⟨q1,i',s',q2,q3,q4,q5,q6⟩
 ·rw[S.toSys.idsA.known hh] at q1;cases q1
 ·rcases q3 with q3|⟨i',q3,q4⟩
  ·rw[hi] at q3;cases q3
  ·rcases q4 with q4|⟨-,q4,-⟩
   ·rw[hcm] at q4;cases q4
   ·rw[C1.nr n] at q4;cases q4
 ·rw[q3];rw[hx] at q4;injection q4 with q4;exact q4.symm
theorem zog{c:Bool}{d e:Ds}{ls:List Line}{k m L:Nat}{t:Line}(H:TD c d e [] [] ls 2 m L)(di:d.inn=[])(ei:e.inn=[])(pb:PB e)(hu:∀ s,un d s=0)(hdt:∀ s,dt e s=0)(ht:ls[k]? = some t) :
  (t.inn c).read=(t.inn c).sent.length/\Ds.read? (d.find (t.id:Int)) 1=(if (t.inn c).ended=true then 8 else 0)/\Ds.readN (d.find (t.id:Int)) 1=0:=by
 have hid:=H.line ht;obtain⟨x,hx,hf,h0,hr⟩:=H.lk.there (Nat.le_refl _) (by rw[di];rfl) pb t.id hid.1 hid.2.2;obtain⟨Q,q,l⟩:=H.lk.swap.ledger (Nat.le_refl _) (by rw[ei];rfl);rw[di] at q;have z:=zee Q q.symm;subst z;have hw:=zjp c ht H.nodup;have hfl:=l.flow t.id;rw[hw] at hfl;have e0:(dat t.id ([]:List Fr)).length=0:=rfl;have u0:=hu t.id;have d0:=hdt t.id;have hun:x.unread=[]:=by
  have:(d.stOf t.id).unread.length=0:=u0
  have e1:d.stOf t.id=x:=by unfold Ds.stOf;rw[hx];rfl
  rw[e1] at this;exact List.eq_nil_of_length_eq_zero this
 have hth:zce x.state=(t.inn c).ended:=by
  have e1:th d t.id=zce x.state:=by unfold th Ds.stOf;rw[hx];rfl
  rw[<-e1];cases he:(t.inn c).ended with
  | true =>
   obtain⟨xe,y1,y2⟩:=l.ends t.id (by rw[hw];exact he);have hd:xe.data=[]:=by
    have:=dt_of y1
    exact List.eq_nil_of_length_eq_zero (by omega)
   rcases l.gone t.id xe y1 ((pb t.id xe y1).2 hd y2) with k|k
   ·cases k
   ·exact k
  | false =>
   cases hq:th d t.id with
   | false=>rfl
   | true =>
    have:=l.ended t.id hq
    rw[hw,he] at this;cases this
 refine⟨by omega,?_,?_⟩
 ·rw[hf];unfold Ds.read?;rw[if_neg h0,if_neg (by omega),hr,if_neg Bool.false_ne_true,hun,hth];cases (t.inn c).ended
  ·rw[if_neg (λq=>by cases q.2),if_neg Bool.false_ne_true]
  ·rw[if_pos ⟨rfl,rfl⟩,if_pos rfl]
 ·rw[hf];unfold Ds.readN;rw[hun]
  show min _ 0=0
  omega
theorem zzbcv{ls:List Line}{k:Nat}{t:Line}(ht:ls[k]? = some t)(f:Line->Line)(hf:f t=t):ls.modify k f=ls:=by
 apply List.ext_getElem?;intro j;rw[List.getElem?_modify];by_cases e:k=j
 ·subst e;rw[ht];simp[hf]
 ·simp[e]
theorem TD.read0{c:Bool}{d e:Ds}{u v:Bytes}{ls:List Line}{k m L:Nat}{t:Line}(H:TD c d e u v ls 2 (m+3) L)(ht:ls[k]? = some t)(h0:Ds.read? (d.find (t.id:Int)) 1=0)(hn:Ds.readN (d.find (t.id:Int)) 1=0):TD c (d.read (d.find (t.id:Int)) 0) e u v ls 2 m L/\Rd1 d (d.read (d.find (t.id:Int)) 0) t.id:=by
 rcases H.reads ht (.inr (Nat.le_refl _)) 1 (by omega) with ⟨q,-⟩|⟨q,-⟩|⟨q,-⟩|⟨-,n,q1,-,-,q4,-⟩
 ·rw[h0] at q;cases q
 ·rw[h0] at q;cases q
 ·rw[h0] at q;cases q
 ·rw[hn] at q1;subst q1;have e1:(ls.modify k λx=>x.setIn c { (x.inn c) with read:=(x.inn c).read+0 })=ls:=zzbcv ht _ (by cases c<;>rfl);rw[e1] at q4;refine⟨q4,?_⟩;have hst:(d.find (t.id:Int)).state≠0/\(d.find (t.id:Int)).state≠8:=by
   unfold Ds.read? at h0;constructor
   ·intro q;rw[if_pos q] at h0;cases h0
   ·intro q;rw[if_neg (by rw[q];omega),if_neg (by omega),q] at h0;cases h0
  obtain⟨hs,hi⟩:=H.lk.realStr t.id hst.1 hst.2;generalize hx:d.find (t.id:Int)=x at *;obtain⟨y,y1,y2,y3,y4,y5,y6,y7⟩:=zzbbf d x 0;have hsx:d.str x.id=some x:=by rw[hi];exact hs
  have stx:d.stOf x.id=x:=by unfold Ds.stOf;rw[hsx];rfl
  have hz:x.unread.length=0:=by unfold Ds.readN at hn;omega
  have sto:∀ s,(d.read x 0).stOf s=if s=x.id then y else d.stOf s:=λs=>by unfold Ds.stOf;rw[y1];split<;>rfl
  refine⟨y6,zql _ _ _,y7,λq=>q.read (q x.id x hsx) _,λs x' hs' => ?_,λs => ?_,?_,λs => ?_⟩
  ·rw[y1] at hs';split at hs'
   ·rename_i es
    injection hs' with hs'
    rw[<-hs',es];exact⟨x,hsx,y2,y3⟩
   ·exact⟨x',hs',rfl,rfl⟩
  ·unfold dt;rw[sto];split
   ·rename_i es;rw[es,stx,y4]
   ·rfl
  ·unfold un;rw[sto,if_pos hi.symm,y5,List.length_drop];omega
  ·unfold un;rw[sto];split
   ·rename_i es;rw[es,stx,y5,List.length_drop];omega
   ·exact Nat.le_refl _
structure FS (dx dy:Ds):Prop where
 ix:dx.inn=[]
 iy:dy.inn=[]
 px:PB dx
 py:PB dy
 ux:∀ s,un dx s=0
 uy:∀ s,un dy s=0
 tx:∀ s,dt dx s=0
 ty:∀ s,dt dy s=0
theorem RS.fin{r m L:Nat}{dx dy:Ds}{ls:List Line}(H:TD true dx dy [] [] ls 2 m L)(S:RS r dx dy)(hr:65<=r):FS dx dy:=by
 obtain⟨Q,-,l⟩:=H.lk.ledger (Nat.le_refl _) (by rw[S.ix];rfl);obtain⟨Q',-,l'⟩:=H.lk.swap.ledger (Nat.le_refl _) (by rw[S.iy];rfl);have hx:Px dx=0:=by
  rcases S.mx with q|q
  ·exact q
  ·have c:=l.conn
   have:=l.pos.1
   omega
 have hy:Px dy=0:=by
  rcases S.my with q|q
  ·exact q
  ·omega
 have key:∀ d:Ds,Px d=0->(∀ s x,d.str s=some x->s<100) -> ∀ s,dt d s=0:=λd hd hb s=>by
  by_cases hs:s<100
  ·have:=zmz (f:=dt d) hs
   unfold Px at hd;omega
  ·cases q:d.str s with
   | none=>unfold dt Ds.stOf;rw[q];rfl
   | some x=>exact absurd (hb s x q) hs
 exact⟨S.ix,S.iy,S.px,S.py,S.ux,S.uy,key dx hx λs x hs=>(l.num s x hs).2,key dy hy λs x hs=>(l'.num s x hs).2⟩
theorem FS.readX{dx dy d':Ds}{n:Nat}(S:FS dx dy)(R:Rd1 dx d' n):FS d' dy :=
 ⟨R.inn.trans S.ix,S.iy,R.pb S.px,S.py,λs=>zero_le (R.le s) (S.ux s),S.uy,λs=>(R.dts s).trans (S.tx s),S.ty⟩
theorem FS.readY{dx dy d':Ds}{n:Nat}(S:FS dx dy)(R:Rd1 dy d' n):FS dx d' :=
 ⟨S.ix,R.inn.trans S.iy,S.px,R.pb S.py,S.ux,λs=>zero_le (R.le s) (S.uy s),S.tx,λs=>(R.dts s).trans (S.ty s)⟩
end Go.Proofs.YtoijpogadkogcaaGreat
