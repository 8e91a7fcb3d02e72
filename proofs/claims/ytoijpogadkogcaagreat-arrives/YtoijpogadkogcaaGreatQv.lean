import Derived.Test.YtoijpogadkogcaaGreatQu
import Derived.Test.YtoijpogadkogcaaGreatQr
import Derived.Test.YtoijpogadkogcaaGreatQs
namespace Go.Proofs.YtoijpogadkogcaaGreat
open Go.RowKit
set_option maxRecDepth 100000
def zuc(d:Ds):Nat:=(d.ring.filter (λn=>zan (d.stOf n).state)).length
structure OutOk (d:Ds) (c:Nat:=0):Prop where
 fits:d.Fits (zuc d+1+c)
 ids:∀ n s,d.str n=some s->s.id=n/\s.ends=false
theorem zgc(d:Ds)(k:Nat)(s:DS):d.leave k s = { d with ring:=(d.leave k s).ring }:=by
 unfold Ds.leave;dsimp only;split
 ·unfold Ds.enter;split<;>rfl
 ·rfl
theorem zgs(d:Ds)(n:Nat):(d.enter n).ring=if d.ring.contains n then d.ring else d.ring++[n]:=by unfold Ds.enter;split<;>rfl
theorem zwm(d:Ds)(k:Nat)(s:DS)(hk:k<d.ring.length):(d.leave k s).ring.length<=d.ring.length:=by
 have h1:(d.ring.eraseIdx k).length=d.ring.length-1:=by rw[List.length_eraseIdx];simp[hk]
 unfold Ds.leave;dsimp only;split
 ·rw[zgs];dsimp only;split
  ·omega
  ·rw[List.length_append,h1];simp;omega
 ·dsimp only;omega
theorem zgd(P:Nat->Bool):∀ (r:List Nat) (k:Nat),k<r.length->((r.eraseIdx k).filter P).length+(if P (r.getD k 0) then 1 else 0)=(r.filter P).length
 | [],k,h=>by simp at h
 | a::r,0,_=>by
  show (r.filter P).length+(if P a then 1 else 0)=_
  rw[List.filter_cons];split<;>simp
 | a::r,k+1,h=>by
  have ih:=zgd P r k (by simpa using h)
  show (((a::r.eraseIdx k)).filter P).length+(if P (r.getD k 0) then 1 else 0)=_
  rw[List.filter_cons,List.filter_cons];split
  ·simp only[List.length_cons];omega
  ·exact ih
theorem zwn(P P':Nat->Bool)(h:∀ n,P' n=true->P n=true):∀ l:List Nat,(l.filter P').length<=(l.filter P).length
 | []=>Nat.le_refl _
 | a::l=>by
  have ih:=zwn P P' h l;rw[List.filter_cons,List.filter_cons];by_cases e:P' a=true
  ·rw[if_pos e,if_pos (h a e)];simp only[List.length_cons];omega
  ·rw[if_neg e];split
   ·simp only[List.length_cons];omega
   ·exact ih
theorem zrj(d:Ds)(k:Nat)(s:DS)(P:Nat->Bool):((d.leave k s).ring.filter P).length<=((d.ring.eraseIdx k).filter P).length+(if P s.id then 1 else 0):=by
 unfold Ds.leave;dsimp only;split
 ·rw[zgs];dsimp only;split
  ·omega
  ·rw[List.filter_append,List.length_append];simp only[List.filter_cons,List.filter_nil];split<;>simp
 ·dsimp only;omega
theorem zcn(d:Ds)(n:Nat)(s:DS)(k:Nat):(d.setS n s).stOf k=if k=n then s else d.stOf k:=by unfold Ds.stOf;rw[zaj];split<;>rfl
theorem stOf_some{d:Ds}{n:Nat}{s:DS}(h:d.str n=some s):d.stOf n=s:=by unfold Ds.stOf;rw[h];rfl
theorem zdy(d:Ds)(s:DS)(t:Nat):(d.move s t).ring=d.ring:=by unfold Ds.move Ds.bump;split<;>rfl
theorem zhs(d:Ds)(s:DS)(t k:Nat):(d.move s t).stOf k=if k=s.id then Ds.moved s t else d.stOf k:=by
 unfold Ds.move;rw[zcn]
 have:(d.bump s.mine (Ds.shift s t)).stOf k=d.stOf k:=by unfold Ds.bump;split<;>rfl
 rw[this]
theorem zud(d:Ds)(k:Nat)(s:DS):(d.leave k s).failed=d.failed/\(d.leave k s).inn=d.inn/\(d.leave k s).ctl=d.ctl:=by rw[zgc];exact⟨rfl,rfl,rfl⟩
theorem zwo(d:Ds)(s:DS)(t:Nat):(d.move s t).failed=d.failed/\(d.move s t).inn=d.inn/\(d.move s t).ctl=d.ctl:=by unfold Ds.move Ds.bump;split<;>exact⟨rfl,rfl,rfl⟩
theorem zwp(d:Ds)(s:DS)(room:Int):(d.turn s room).2.1.failed=d.failed/\(d.turn s room).2.1.inn=d.inn/\(d.turn s room).2.1.ctl=d.ctl:=by
 unfold Ds.turn;dsimp only;split
 ·split<;>exact⟨rfl,rfl,rfl⟩
 ·split
  ·split
   ·exact⟨rfl,rfl,rfl⟩
   ·exact zwo _ _ _
  ·split
   ·exact⟨rfl,rfl,rfl⟩
   ·split
    ·exact zwo _ _ _
    ·exact⟨rfl,rfl,rfl⟩
theorem zln(d:Ds)(s:DS)(room:Int):(d.turn s room).2.1.ring=d.ring:=by
 unfold Ds.turn;dsimp only;split
 ·split<;>rfl
 ·split
  ·split
   ·rfl
   ·exact zdy _ _ _
  ·split
   ·rfl
   ·split
    ·exact zdy _ _ _
    ·rfl
def zcq(s:DS):Bool:=zan s.state || (s.ends && zaw s.state)
def zqh(s:DS):Prop:=s.ends=true->(zan s.state=true->s.data=[])/\(zan s.state=false->zaw s.state=true)
def zbg(d:Ds):Nat:=(d.ring.filter (λn=>zcq (d.stOf n))).length
structure zgx (d:Ds) (c:Nat:=0):Prop where
 fits:d.Fits (zbg d+1+c)
 ids:∀ n s,d.str n=some s->s.id=n/\(n∈d.ring->zqh s)
 nd:d.ring.Nodup \/ ∀ n s,d.str n=some s->s.ends=false
theorem OutOk.toE{d:Ds}{c:Nat}(h:OutOk d c):zgx d c:=by
 have e:zbg d=zuc d:=by
  unfold zbg zuc
  have:(λn=>zcq (d.stOf n))=λn=>zan (d.stOf n).state:=by
   funext n
   unfold zcq
   have:(d.stOf n).ends=false:=by
    unfold Ds.stOf;cases hs:d.str n with
    | none=>rfl
    | some s=>exact(h.ids n s hs).2
   rw[this];simp
  rw[this]
 refine⟨by rw[e];exact h.fits,λn s hs=>⟨(h.ids n s hs).1,λ_ he => ?_⟩,.inr λn s hs=>(h.ids n s hs).2⟩;rw[(h.ids n s hs).2] at he;cases he
theorem zzbhd(ring:List Nat)(k n:Nat)(hk:k<ring.length)(hn:ring.Nodup)(h:n∈ring.eraseIdx k):n∈ring/\n≠ring.getD k 0:=by
 rw[List.mem_eraseIdx_iff_getElem?] at h;obtain⟨j,hj,hx⟩:=h;refine⟨List.mem_of_getElem? hx,λe => ?_⟩;have hj2:=(List.getElem?_eq_some_iff.1 hx).1;have hk2:ring[k]? = some n:=by rw[e,List.getD_eq_getElem?_getD,List.getElem?_eq_getElem hk];rfl
 exact hj ((List.getElem?_inj hj2 hn).1 (hx.trans hk2.symm))
theorem zzbfa(d1:Ds)(k:Nat)(s1:DS)(hk:k<d1.ring.length)(hid:s1.id=d1.ring.getD k 0)(hn:d1.ring.Nodup){n:Nat}(h:n∈(d1.leave k s1).ring):n∈d1.ring/\(n=s1.id->s1.waits=true):=by
 have hin:s1.id∈d1.ring:=by rw[hid,List.getD_eq_getElem?_getD,List.getElem?_eq_getElem hk];exact List.getElem_mem _
 have hno:n∈d1.ring.eraseIdx k->n∈d1.ring/\n≠s1.id:=λhx=>by rw[hid];exact zzbhd _ _ _ hk hn hx
 unfold Ds.leave at h;dsimp only at h;split at h
 ·rename_i hw
  refine⟨?_,λ_=>hw⟩;rw[zgs] at h;dsimp only at h;split at h
  ·exact(hno h).1
  ·rcases List.mem_append.1 h with h|h
   ·exact(hno h).1
   ·rw[List.mem_singleton.1 h];exact hin
 ·exact⟨(hno h).1,λe=>absurd e (hno h).2⟩
theorem zzbby(d1:Ds)(k:Nat)(s1:DS)(hn:d1.ring.Nodup):(d1.leave k s1).ring.Nodup:=by
 have h1:(d1.ring.eraseIdx k).Nodup:=hn.sublist (List.eraseIdx_sublist _ _);unfold Ds.leave;dsimp only;split
 ·rw[zgs];dsimp only;split
  ·exact h1
  ·rename_i hc
   rw[List.nodup_append];refine⟨h1,by simp,λx hx y hy e => ?_⟩;rw[List.mem_singleton] at hy;subst hy;subst e;exact hc (by simpa using hx)
 ·exact h1
def IdsE(d1:Ds)(i:Nat):Prop:=∀ n t,d1.str n=some t->t.id=n/\(n∈d1.ring->(n=i->t.waits=true)->zqh t)
theorem zwq{d1:Ds}{k:Nat}(hk:k<d1.ring.length){s1:DS}(hid:s1.id=d1.ring.getD k 0){m c:Nat}(hf:d1.Fits (m+1+c))(hm:zbg d1<=m)(ids:IdsE d1 s1.id)(hs1:d1.str s1.id=some s1)(nd:d1.ring.Nodup \/ ∀ n s,d1.str n=some s->s.ends=false):zgx (d1.leave k s1) c:=by
 have ht:zbg (d1.leave k s1)<=zbg d1:=by
  have e:zbg (d1.leave k s1)=((d1.leave k s1).ring.filter (λn=>zcq (d1.stOf n))).length:=by unfold zbg;rw[zgc];rfl
  rw[e];refine Nat.le_trans (zrj d1 k s1 _) ?_
  have:=zgd (λn=>zcq (d1.stOf n)) d1.ring k hk
  rw[hid];unfold zbg;omega
 have hl:=zwm d1 k s1 hk;have hr:=hf.ring;have f1:(d1.leave k s1).Fits (m+1+c):=by rw[zgc];exact hf.ring' _ (by omega)
 have estr:(d1.leave k s1).str=d1.str:=by rw[zgc]
 refine⟨f1.mono (by omega),λn s hn => ?_,?_⟩
 ·rw[estr] at hn;refine⟨(ids n s hn).1,λhr he => ?_⟩;rcases nd with nd | nd
  ·obtain⟨m1,m2⟩:=zzbfa d1 k s1 hk hid nd hr;refine(ids n s hn).2 m1 (λe => ?_) he;rw[e,hs1] at hn;injection hn with hn
   rw[<-hn];exact m2 e
  ·rw[nd n s hn] at he;cases he
 ·rcases nd with nd|nd
  ·exact .inl (zzbby d1 k s1 nd)
  ·exact .inr λn s hn=>nd n s (by rw[<-estr];exact hn)
theorem zja(d d':Ds){i:Nat}{s s1:DS}(hn:d.str i=some s)(hr:d'.ring=d.ring)(hst:∀ k,d'.stOf k=if k=i then s1 else d.stOf k)(hg:zcq s1=zcq s):zbg d'=zbg d:=by
 unfold zbg;have e:(λk=>zcq (d'.stOf k))=(λk=>zcq (d.stOf k)):=by
  funext k
  rw[hst];by_cases h:k=i
  ·rw[if_pos h,hg,h,stOf_some hn]
  ·rw[if_neg h]
 rw[e,hr]
theorem zjb(d d':Ds){k:Nat}(hk:k<d.ring.length){s s1:DS}(hs:d.str (d.ring.getD k 0)=some s)(hr:d'.ring=d.ring)(hst:∀ j,d'.stOf j=if j=d.ring.getD k 0 then s1 else d.stOf j)(hg:zcq s=true)(hg1:zcq s1=false):zbg d'+1<=zbg d:=by
 unfold zbg;rw[hr];have h1:=zgd (λn=>zcq (d.stOf n)) d.ring k hk;have h2:=zgd (λn=>zcq (d'.stOf n)) d.ring k hk;have e1:zcq (d.stOf (d.ring.getD k 0))=true:=by rw[stOf_some hs];exact hg
 have e2:zcq (d'.stOf (d.ring.getD k 0))=false:=by rw[hst,if_pos rfl];exact hg1
 rw[e1,if_pos rfl] at h1;rw[e2,if_neg (by simp)] at h2;have h3:=zwn (λn=>zcq (d.stOf n)) (λn=>zcq (d'.stOf n)) (λn hn=>by
  rw[hst] at hn;by_cases e:n=d.ring.getD k 0
  ·rw[if_pos e,hg1] at hn;cases hn
  ·rw[if_neg e] at hn;exact hn) (d.ring.eraseIdx k)
 omega
theorem zfj(d:Ds)(s:DS)(room:Int)(hf0:0<=s.from_)(hd0:0<=d.from_):d.turn s room=([],d,s) \/
  (s.block≠[] /\ ¬ room<(Ds.headerFrames s.id s.block).length/\d.turn s room=(Ds.headerFrames s.id s.block,d.setS s.id { s with block:=[] },{ s with block:=[] })) \/
  (s.block=[]/\zan s.state=true /\ ¬ room<7/\d.turn s room=(frame 3 0 s.id [UInt8.ofNat s.code],d.move s 8,Ds.moved s 8)) \/
  (s.block=[]/\zan s.state=false /\ ∃ n:Nat,d.dataN s room=n/\n<=s.data.length/\(n:Int)<=s.from_/\(n:Int)<=d.from_/\(n:Int)<=room-6 /\
   ((¬ ((s.data.drop n).length=0/\s.ends=true)/\d.turn s room=zic d s n)\/((s.data.drop n).length=0/\s.ends=true/\d.turn s room=lastT d s n))):=by
 by_cases hb:s.block≠[]
 ·rw[zpj d s room hb];split
  ·exact .inl rfl
  ·rename_i hlt
   exact .inr (.inl ⟨hb,hlt,rfl⟩)
 ·have hb':s.block=[]:=Classical.not_not.1 hb;cases ht:zan s.state with
  | true =>
   rw[zts d s room hb' ht];split
   ·exact .inl rfl
   ·rename_i hlt
    exact .inr (.inr (.inl ⟨hb',rfl,hlt,rfl⟩))
  | false =>
   by_cases hlt:room<6+min s.data.length 1
   ·left;unfold Ds.turn;rw[if_neg hb,if_neg (by rw[ht];simp),if_pos hlt]
   ·obtain⟨n,hn⟩:∃ n:Nat,d.dataN s room=(n:Int):=⟨(d.dataN s room).toNat,by
     have:0<=d.dataN s room:=by unfold Ds.dataN;omega
     omega⟩
    have hnA:n<=s.data.length/\(n:Int)<=s.from_/\(n:Int)<=d.from_/\(n:Int)<=room-6:=by unfold Ds.dataN at hn;omega
    refine .inr (.inr (.inr ⟨hb',rfl,n,hn,hnA.1,hnA.2.1,hnA.2.2.1,hnA.2.2.2,?_⟩));by_cases hl:(s.data.drop n).length=0/\s.ends=true
    ·right;refine⟨hl.1,hl.2,?_⟩;rw[zwl d s room hb' ht hl.2 n hn hl.1,if_neg hlt]
    ·left;refine⟨hl,?_⟩;unfold Ds.turn;rw[if_neg hb,if_neg (by rw[ht];simp),if_neg hlt];dsimp only;rw[hn];have hl':¬ ((s.data.drop (n:Int).toNat).length=0/\s.ends=true):=hl;rw[if_neg hl'];rfl
theorem zgx.turn{d:Ds}{c:Nat}(h:zgx d c){k:Nat}(hk:k<d.ring.length){s:DS}(hs:d.str (d.ring.getD k 0)=some s)(room:Int)(hne:(d.turn s room).1.length≠0) :
  ∃ m,(d.turn s room).2.1.Fits (m+1+c)/\zbg (d.turn s room).2.1<=m/\IdsE (d.turn s room).2.1 s.id/\(d.turn s room).2.2.id=s.id/\(d.turn s room).2.1.str s.id=some (d.turn s room).2.2/\((d.turn s room).2.1.ring.Nodup \/ ∀ n t,(d.turn s room).2.1.str n=some t->t.ends=false):=by
 obtain⟨hid,hen⟩:=h.ids _ _ hs;have hin:d.ring.getD k 0∈d.ring:=by rw[List.getD_eq_getElem?_getD,List.getElem?_eq_getElem hk];exact List.getElem_mem _
 have hen:=hen hin;have fs:=h.fits.st _ _ hs;have hs':d.str s.id=some s:=by rw[hid];exact hs
 have idsOf:∀ (d1:Ds) (s1:DS),d1.ring=d.ring->(∀ n,d1.str n=if n=s.id then some s1 else d.str n)->s1.id=s.id->(s1.waits=true->zqh s1)->IdsE d1 s.id:=λd1 s1 q1 q2 q3 q4 n t ht=>by
  rw[q2] at ht;by_cases e:n=s.id
  ·rw[if_pos e] at ht;injection ht with ht
   subst ht;exact⟨q3.trans e.symm,λ_ hw=>q4 (hw e)⟩
  ·rw[if_neg e] at ht;exact⟨(h.ids n t ht).1,λhr _=>(h.ids n t ht).2 (by rw[<-q1];exact hr)⟩
 have ndOf:∀ (d1:Ds) (s1:DS),d1.ring=d.ring->(∀ n,d1.str n=if n=s.id then some s1 else d.str n)->s1.ends=s.ends->d1.ring.Nodup \/ ∀ n t,d1.str n=some t->t.ends=false:=λd1 s1 q1 q2 q3=>by
  rcases h.nd with nd|nd
  ·exact .inl (by rw[q1];exact nd)
  ·refine .inr λn t ht => ?_;rw[q2] at ht;by_cases e:n=s.id
   ·rw[if_pos e] at ht;injection ht with ht;subst ht;rw[q3];exact nd _ _ hs
   ·rw[if_neg e] at ht;exact nd n t ht
 have mstr:∀ (d0:Ds) (s0:DS) (to:Nat) (n:Nat),(d0.move s0 to).str n=if n=s0.id then some (Ds.moved s0 to) else d0.str n:=λd0 s0 to n=>by
  unfold Ds.move Ds.bump;rw[zaj];split
  ·rfl
  ·split<;>rfl
 rcases zfj d s room fs.from0 h.fits.from0 with e|⟨hb,-,e⟩|⟨hb,ht,-,e⟩|⟨hb,ht,n,hn,hnl,hnf,hnd,hnr,e⟩
 ·rw[e] at hne;exact absurd rfl hne
 ·rw[e];dsimp only;have f2:DS.Fits { s with block:=[] }:={ fs with block:=Nat.zero_le _ };have q2:∀ n,(d.setS s.id { s with block:=[] }).str n=if n=s.id then some { s with block:=[] } else d.str n:=λn=>zaj _ _ _ _
  exact⟨zbg d,h.fits.setS _ _ f2,Nat.le_of_eq (zja d _ hs' rfl (zcn d s.id _) rfl),idsOf _ _ rfl q2 rfl (λ_=>hen),rfl,by rw[q2];exact if_pos rfl,ndOf _ _ rfl q2 rfl⟩
 ·rw[e];dsimp only;have hm:=zjb d (d.move s 8) hk hs (zdy d s 8) (λj=>by rw[zhs,hid]) (by unfold zcq;rw[ht];rfl) (by unfold zcq Ds.moved;simp[zan,zaw]);obtain⟨m,em⟩:∃ m,zbg d=m+1:=⟨zbg d-1,by omega⟩;have f1:=h.fits;rw[em] at f1;have q2:=mstr d s 8;exact⟨m,Ds.Fits.move (m:=m+1+c) (f1.mono (by omega)) fs (by omega),by omega,idsOf _ _ (zdy d s 8) q2 rfl (λhw he=>by exfalso;have hd:s.data=[]:=(hen he).1 ht;unfold DS.waits at hw;have e1:(Ds.moved s 8).block=[]:=hb;have e2:(Ds.moved s 8).data=[]:=hd;have e3:(Ds.moved s 8).state=8:=rfl;rw[e1,e2,e3] at hw;simp[zan,zaw] at hw),rfl,by rw[q2];exact if_pos rfl,ndOf _ _ (zdy d s 8) q2 rfl⟩
 ·have f:=h.fits;have f1:Ds.Fits { d with from_:=d.from_-n } (zbg d+1+c):={ f with from0:=by show 0<=d.from_-(n:Int);omega,from1:=by show d.from_-(n:Int)<=1000;have:=f.from1;omega };have f2:DS.Fits { s with data:=s.data.drop n,from_:=s.from_-n }:={ fs with from0:=by show 0<=s.from_-(n:Int);omega,from1:=by show s.from_-(n:Int)<=1000;have:=fs.from1;omega,data:=by show (s.data.drop n).length<=256;rw[List.length_drop];have:=fs.data;omega };have f3:=f1.setS s.id _ f2;have q2:∀ j,(Ds.setS { d with from_:=d.from_-n } s.id { s with data:=s.data.drop n,from_:=s.from_-n }).str j=if j=s.id then some { s with data:=s.data.drop n,from_:=s.from_-n } else d.str j:=λj=>zaj _ _ _ _
  rcases e with ⟨-,e⟩|⟨hl,he,e⟩
  ·rw[e];unfold zic;dsimp only;exact⟨zbg d,f3,Nat.le_of_eq (zja d _ hs' rfl (zcn { d with from_:=d.from_-n } s.id _) rfl),idsOf _ _ rfl q2 rfl (λ_ he=>⟨λhx=>(by rw[ht] at hx;cases hx),(hen he).2⟩),rfl,by rw[q2];exact if_pos rfl,ndOf _ _ rfl q2 rfl⟩
  ·rw[e];unfold lastT;dsimp only;have hsn:zaw s.state=true:=(hen he).2 ht;have hto:Ds.hereTo { s with data:=s.data.drop n,from_:=s.from_-n }=4\/Ds.hereTo { s with data:=s.data.drop n,from_:=s.from_-n }=2:=by unfold Ds.hereTo;split<;>simp
   generalize Ds.hereTo { s with data:=s.data.drop n,from_:=s.from_-n }=to at hto;have hg1:zcq (Ds.moved { s with data:=s.data.drop n,from_:=s.from_-n } to)=false:=by unfold zcq Ds.moved;rcases hto with rfl | rfl<;>simp[zan,zaw]
   have hm:=zjb d ((Ds.setS { d with from_:=d.from_-n } s.id { s with data:=s.data.drop n,from_:=s.from_-n }).move { s with data:=s.data.drop n,from_:=s.from_-n } to) hk hs (zdy _ _ _) (λj=>by rw[zhs,zcn,<-hid];split<;>rfl) (by unfold zcq;rw[he,hsn];simp) hg1
   obtain⟨m,em⟩:∃ m,zbg d=m+1:=⟨zbg d-1,by omega⟩;rw[em] at f3;have q3:∀ j,((Ds.setS { d with from_:=d.from_-n } s.id { s with data:=s.data.drop n,from_:=s.from_-n }).move { s with data:=s.data.drop n,from_:=s.from_-n } to).str j=if j=s.id then some (Ds.moved { s with data:=s.data.drop n,from_:=s.from_-n } to) else d.str j:=λj=>by
    rw[mstr]
    show (if j=s.id then _ else (Ds.setS _ s.id _).str j)=_
    rw[q2];split<;>rfl
   refine⟨m,Ds.Fits.move (m:=m+1+c) (f3.mono (by omega)) f2 (by omega),by omega,idsOf _ _ (zdy _ _ _) q3 rfl (λhw _ => ?_),rfl,by rw[q3];exact if_pos rfl,ndOf _ _ (zdy _ _ _) q3 rfl⟩;exfalso;unfold DS.waits at hw;have e1:(Ds.moved { s with data:=s.data.drop n,from_:=s.from_-n } to).block=[]:=hb;have e2:(Ds.moved { s with data:=s.data.drop n,from_:=s.from_-n } to).data=[]:=List.eq_nil_of_length_eq_zero hl;have e3:(Ds.moved { s with data:=s.data.drop n,from_:=s.from_-n } to).state=to:=rfl;rw[e1,e2,e3] at hw;rcases hto with rfl | rfl<;>simp[zan,zaw] at hw
theorem zzbhe{d:Ds}{c:Nat}(h:zgx d c){s:DS}(hs:d.str s.id=some s)(room:Int):(d.turn s room).1.length=0\/((d.turn s room).1.length:Int)<=room:=by
 have fs:=h.fits.st _ _ hs;rcases zfj d s room fs.from0 h.fits.from0 with e | ⟨hb,hlt,e⟩ | ⟨hb,ht,hlt,e⟩ | ⟨hb,ht,n,hn,hnl,hnf,hnd,hnr,e⟩
 ·rw[e];exact .inl rfl
 ·rw[e];right;dsimp only;omega
 ·rw[e];right;dsimp only;rw[zax];simp;omega
 ·right;rcases e with ⟨-,e⟩ | ⟨-,-,e⟩
  ·rw[e];unfold zic;dsimp only;rw[zax,List.length_take];omega
  ·rw[e];unfold lastT;dsimp only;rw[zax,List.length_take];omega
theorem zzs:Tryz.prog.elem 99=111:=by kernel_rfl
theorem zzblg(W:World):(sizeOf 111).run Tryz.prog W = .ok 4 W:=by kernel_rfl
theorem zwr(a o k n cap sz:Nat):sliced (some ⟨a,o,none⟩) k n cap sz = .slice (some ⟨a,if cap=k then o else o+k*sz,none⟩) (n-k) (cap-k):=by
 unfold sliced;by_cases e:cap=k
 ·simp[e]
 ·simp[e,zea]
section
variable {N:Type} {own:N->Res} {nm:DN->N} {g:Nat} {d:Ds} {v:DV} {wb w:World}
theorem Sep.cutRow(h:Sep wb w own){n:N}{T sz k cap a o:Nat}{xs:List Value}(hn:own n = .row T sz (.slice (some ⟨a,o,none⟩) k cap) k xs)(j:Nat)(hj:j<=k):Sep wb w (upd own n (.row T sz (.slice (some ⟨a,if cap=j then o else o+j*sz,none⟩) (k-j) (cap-j)) (k-j) (xs.drop (j*sz)))):=by have ho:OwnAt w T sz (.slice (some ⟨a,o,none⟩) k cap) k xs:=h.get hn;have ho2:=ho.from j hj;rw[zwr] at ho2;refine h.put n _ h.base (Nat.le_refl _) (λ_ _ _ _=>rfl) ho2 (λb hb=>⟨.inl ?_,ho2.lt b hb⟩);rw[hn];exact hb
theorem zaa.pop(h:zaa own nm g d v)(hs:Sep wb w own){f:Nat×Nat×Nat×Bytes}{r:List (Nat×Nat×Nat×Bytes)}(hc:d.ctl=f::r){a o cap n:Nat}(hn:n=r.length)(hv:v.vC = .slice (some ⟨a,o,none⟩) (n+1) cap) :
  ∃ own',Sep wb (w.setCell ⟨g,12,none⟩ (.slice (some ⟨a,if cap=1 then o else o+4,none⟩) n (cap-1))) own'/\zaa own' nm g { d with ctl:=r } { v with vC:=.slice (some ⟨a,if cap=1 then o else o+4,none⟩) n (cap-1),fr:=v.fr.drop 1,b:=v.b+1 }/\zai nm own own':=by
 have hl:d.ctl.length=n+1:=by rw[hc,hn];rfl
 have s1:=hs.drop (nm (.fr v.b));have c1:upd own (nm (.fr v.b)) .none (nm .ctl) = .row 111 4 (.slice (some ⟨a,o,none⟩) (n+1) cap) (n+1) (zcv d.ctl v.fr):=by
  rw[zad h.inj,if_neg (by simp),h.res]
  show Res.row _ _ _ _ _=_
  rw[hv,hl]
 have s2:=s1.cutRow c1 1 (by omega);rw[show n+1-1=n by omega,Nat.one_mul,zyl _ _ h.frl] at s2;have h3:=h.popCtl (.slice (some ⟨a,if cap=1 then o else o+4,none⟩) n (cap-1));have el:(d.ctl.drop 1).length=n:=by rw[List.length_drop,hl];omega
 rw[el] at h3;have c2:upd (upd own (nm (.fr v.b)) .none) (nm .ctl) (.row 111 4 (.slice (some ⟨a,if cap=1 then o else o+4,none⟩) n (cap-1)) n (zcv (d.ctl.drop 1) (v.fr.drop 1))) (nm .conn) = .obj g (.cells (zbc d v) 105 (0,0)):=by rw[zad h.inj,if_neg (by simp),zad h.inj,if_neg (by simp)];exact h.conn
 have s3:=s2.setObj c2 12 (.slice (some ⟨a,if cap=1 then o else o+4,none⟩) n (cap-1));have er:d.ctl.drop 1=r:=by rw[hc];rfl
 rw[er] at h3 s3;exact⟨_,s3,h3,(((zai.refl nm own).upd _ _).upd _ _).upd _ _⟩
end
theorem zzbhf{d:Ds}{s:DS}(room:Int)(h:(d.turn s room).1.length=0):(d.turn s room).2.1=d:=by
 have hh:∀ (id fuel kind:Nat) (b:Bytes),(Ds.hframes id fuel kind b).length≠0:=λid fuel kind b=>by
  cases fuel with
  | zero=>unfold Ds.hframes;rw[zax];omega
  | succ f =>
   unfold Ds.hframes;split
   ·rw[List.length_append,zax];omega
   ·rw[zax];omega
 unfold Ds.turn at h ⊢;dsimp only at h ⊢;split at h
 ·rename_i hb
  rw[if_pos hb];split at h
  ·rename_i hl;rw[if_pos hl]
  ·exact absurd h (hh _ _ _ _)
 ·rename_i hb
  rw[if_neg hb];split at h
  ·rename_i ht
   rw[if_pos ht];split at h
   ·rename_i hl;rw[if_pos hl]
   ·exact absurd h (by dsimp only;rw[zax];omega)
  ·rename_i ht
   rw[if_neg ht];split at h
   ·rename_i hl;rw[if_pos hl]
   ·split at h
    ·exact absurd h (by dsimp only;rw[zax];omega)
    ·exact absurd h (by dsimp only;rw[zax];omega)
def ROut{N:Type}(nm:DN->N)(g:Nat)(wb:World)(own:N->Res)(v:DV)(t:Ds×Bytes)(e:Ending)(w':World):Prop :=
 ∃ (vo:Value) (own':Option N->Res) (v':DV),e = .returned vo/\Sep wb w' own'/\zaa own' (λx=>some (nm x)) g t.1 v'/\own' none = .row 5 1 vo t.2.length (zab t.2)/\(∀ n,(∀ x,n≠nm x)->own' (some n)=own n)/\v'.rp=v.rp/\(t.1.failed=false->v'.vI=v.vI)
def zzt(g:Nat)(w:World):Nat:=match w.cell? ⟨g,12,none⟩ with
 | some (.slice _ n _)=>n
 | _=>0
section
variable {N:Type} {own:N->Res} {nm:DN->N} {g:Nat} {d:Ds} {v:DV} {wb w:World}
theorem zws(h:zaa own nm g d v)(hs:Sep wb w own):zzt g w=d.ctl.length:=by unfold zzt;rw[h.c12 hs];obtain⟨a,cap,e,_⟩:=(h.rowC hs).slice;rw[e]
theorem zmb(room:Int)(f:Nat×Nat×Nat×Bytes)(r:List (Nat×Nat×Nat×Bytes))(out:Bytes):Ds.outCtl room (f::r) out=if room-out.length<6+f.2.2.2.length then (f::r,out) else Ds.outCtl room r (out++frame f.1 f.2.1 f.2.2.1 f.2.2.2):=by
 obtain⟨k,fl,i,b⟩:=f
 conv=>lhs;unfold Ds.outCtl
theorem znh(room:Int)(out:Bytes):Ds.outCtl room [] out=([],out):=by unfold Ds.outCtl;rfl
theorem zzbjr{d dd:Ds}{room:Int}{out:Bytes}(h1:dd = { d with ctl:=dd.ctl })(h2:Ds.outCtl room dd.ctl out=Ds.outCtl room d.ctl []){f:Nat×Nat×Nat×Bytes}{r:List (Nat×Nat×Nat×Bytes)}(hc:dd.ctl=f::r)(hr:room-out.length<6+f.2.2.2.length):d.out room=(dd,out):=by rw[hc,zmb,if_pos hr] at h2;unfold Ds.out;dsimp only;rw[<-h2];dsimp only;rw[if_neg (by simp),<-hc,<-h1]
theorem zzbjs{room:Int}{out:Bytes}{c:List (Nat×Nat×Nat×Bytes)}{f:Nat×Nat×Nat×Bytes}{r:List (Nat×Nat×Nat×Bytes)}(hc:c=f::r)(hr:¬ room-out.length<6+f.2.2.2.length):Ds.outCtl room c out=Ds.outCtl room r (out++frame f.1 f.2.1 f.2.2.1 f.2.2.2):=by rw[hc,zmb,if_neg hr]
theorem zzbjt{d dd:Ds}{room:Int}{out:Bytes}(h1:dd = { d with ctl:=dd.ctl })(h2:Ds.outCtl room dd.ctl out=Ds.outCtl room d.ctl [])(hc:dd.ctl=[]):d.out room=Ds.outRing room (room.toNat+1) dd out:=by rw[hc,znh] at h2;unfold Ds.out;dsimp only;rw[<-h2];dsimp only;rw[if_pos (by rfl),<-hc,<-h1]
theorem zjl{dd:Ds}{room:Int}{out:Bytes}{fuel:Nat}(h:dd.turned (room-out.length)=none):Ds.outRing room fuel dd out=(dd,out):=by
 cases fuel with
 | zero=>rfl
 | succ f=>unfold Ds.outRing;rw[h]
theorem zpq{dd d2:Ds}{room:Int}{out b:Bytes}{fuel:Nat}(h:dd.turned (room-out.length)=some (b,d2)):Ds.outRing room (fuel+1) dd out=Ds.outRing room fuel d2 (out++b):=by
 conv=>lhs;unfold Ds.outRing
 rw[h]
theorem zjc{dd:Ds}(room:Int)(h:dd.ready=none):dd.turned room=none:=by unfold Ds.turned;rw[h]
theorem zrk{dd:Ds}(room:Int){k:Nat}(h:dd.ready=some k){s:DS}(hs:dd.stOf (dd.ring.getD k 0)=s):dd.turned room=if (dd.turn s room).1.length=0 then none else some ((dd.turn s room).1,(dd.turn s room).2.1.leave k (dd.turn s room).2.2):=by unfold Ds.turned;rw[h];dsimp only;rw[hs]
theorem zaa.updO(h:zaa own nm g d v){n:N}(hn:∀ x,nm x≠n)(r:Res):zaa (upd own n r) nm g d v :=
 ⟨h.inj,λx=>by rw[zac own r (hn x)];exact h.res x,h.frl,h.mapM,h.mapT,h.wf,h.nilB,h.nilH⟩
theorem zzbju(w:World)(cs:Array Value)(T k:Nat):(w.alloc (.cells cs T (0,0))).cell? ⟨w.heap.size,k,none⟩=cs[k]?:=by have h2:=heap_alloc_new w (.cells cs T (0,0));unfold World.cell?;rw[h2];rfl
theorem zgx.ctl0{d:Ds}{c:Nat}(h:zgx d c):zgx { d with ctl:=[] } c:=by
 have f:=h.fits
 have:=f.ctl
 exact⟨⟨f.mLast,f.tLast,f.mMost,f.tMost,f.mCount0,f.mCount1,f.tCount0,f.tCount1,f.from0,f.from1,f.to0,f.to1,by show 0+1000*(zbg d+1+c)<=68719476736;omega,f.ring,f.ev,f.inn,f.pings,f.coming,λ_ hx=>absurd hx (by simp),f.st⟩,h.ids,h.nd⟩
set_option maxHeartbeats 12800000 in
theorem zzbhg(h:zaa own nm g d v)(hs:Sep wb w own)(hf:zgx d)(hck:∀ f∈d.ctl,f.1<=255/\f.2.1<=255)(room:Int)(hr0:-9223372036854775808<=room)(hr1:room<=17592186044416) :
  Calls Tryz.prog 20 #[.pointer (some ⟨g,0,none⟩),.int .i64 room] w (ROut nm g wb own v (d.out room)):=by
 obtain⟨i0,hi0,hz0,hz1,hz2⟩:=zbk Tryz.infoU;have S0:Sep wb w (lift own (.row 5 1 (.slice none 0 0) 0 [])):=hs.liftRow (Ext.refl w) (OwnAt.nil _ _ _) (λb hb=>by simp[Value.ownBlock] at hb);have H0:=h.lift (.row 5 1 (.slice none 0 0) 0 []);have HCK:=hide hck;have HOK:=hide hf;clear hck;obtain⟨T,hT⟩:∃ T,T=d.out room:=⟨_,rfl⟩;rw[<-hT];have HT:=hide hT;clear hT
 go_enter Tryz.func20,Tryz.ntmps20
 go_wp2
 go_loopw [5] (λvo wr => ∃ (dd:Ds) (out:Bytes) (own':Option N->Res) (v':DV),Sep wb wr own'/\zaa own' (λx=>some (nm x)) g dd v'/\own' none = .row 5 1 vo out.length (zab out)/\(∀ n,(∀ x,n≠nm x)->own' (some n)=own n)/\v'.rp=v.rp/\v'.vI=v.vI/\Hid (dd = { d with ctl:=dd.ctl }/\Ds.outCtl room dd.ctl out=Ds.outCtl room d.ctl []/\(out=[]\/(out.length:Int)<=room)/\(∀ f∈dd.ctl,f∈d.ctl))) (λ_ wr=>zzt g wr)
 case atStart=>exact⟨d,[],_,v,S0,H0,rfl,λ_ _=>rfl,rfl,rfl,rfl,rfl,.inl rfl,λ_ hf=>hf⟩
 case round =>
  obtain⟨dd,out,owno,vd,so,ho,no,eo,ro,io,HP⟩:=hrel;clear S0 H0 hs h;have hO:=(show OwnAt wr 5 1 _ out.length (zab out) from so.get no);obtain⟨ao,co,hvo,hco1,hco2⟩:=hO.slice;subst hvo;have c12:=ho.c12 so;have hLC:=zws ho so;have hob:(out.length:Int)<=17592186044416 /\ -9223372036854775808<=room-(out.length:Int):=by
   rcases HP.out.2.2.1 with e|e
   ·rw[e];simp;omega
   ·omega
  obtain⟨hol,hrb⟩:=hob;cases hcc:dd.ctl with
  | nil =>
   have HTR:Hid (Ds.outRing room (room.toNat+1) dd out=T):=by
    show _=_
    rw[HT.out];exact(zzbjt HP.out.1 HP.out.2.1 hcc).symm
   have hOK:zgx dd:=by have e:=HP.out.1;rw[hcc] at e;rw[e];exact HOK.out.ctl0
   have hlen:dd.ctl.length=0:=by rw[hcc];rfl
   obtain⟨ac,cc,hvc,-,-⟩:=(ho.rowC so).slice;rw[hvc,hlen] at c12;have hsm:out=[]\/(out.length:Int)<=room:=HP.out.2.2.1;have HSM:=hide hsm;clear hvc hlen hcc hLC HT HP HOK HCK hsm;have hmf:∀ (fn:Fn) (first cap:Array Value) (w:World),(Instr.makeFunc fn first cap).run Tryz.prog w = .ok (.func fn first cap) w:=λ_ _ _ _=>rfl
   go_wp2
   go_loopw [5] (λvo wr => ∃ (dd:Ds) (out:Bytes) (own':Option N->Res) (v':DV) (fuel:Nat),Sep wb wr own'/\zaa own' (λx=>some (nm x)) g dd v'/\own' none = .row 5 1 vo out.length (zab out)/\(∀ n,(∀ x,n≠nm x)->own' (some n)=own n)/\v'.rp=v.rp/\(dd.failed=false->v'.vI=v.vI)/\zgx dd/\Hid ((room-(out.length:Int)).toNat<fuel/\Ds.outRing room fuel dd out=T/\(out=[]\/(out.length:Int)<=room))) (λvo _=>(room-(lenOf vo:Int)).toNat)
   case atStart=>exact⟨dd,out,owno,vd,room.toNat+1,so,ho,no,eo,ro,λ_=>io,hOK,by omega,HTR.out,HSM.out⟩
   case round =>
    clear so ho no eo ro io hOK HTR HSM c12 hO hol hrb hco1 hco2;obtain⟨d2,o2,own2,v2,fuel,S2,H2,n2,e2,r2,i2,OK2,HP2⟩:=hrel;have hO2:=(show OwnAt wr 5 1 _ o2.length (zab o2) from S2.get n2);obtain⟨a2,k2,hv2,hk1,hk2⟩:=hO2.slice;subst hv2;have hob:(o2.length:Int)<=17592186044416 /\ -9223372036854775808<=room-(o2.length:Int)/\room-(o2.length:Int)<=9223372036854775807:=by
     rcases HP2.out.2.2 with e|e
     ·rw[e];simp;omega
     ·omega
    obtain⟨hol,hrb,hrc⟩:=hob;have c13:=H2.c13 S2;have kI:=zpp H2 S2;obtain⟨aR,cR,hvR,-,-⟩:=(H2.rowR S2).slice;have HVR:=hide hvR;rw[hvR] at c13 kI;clear hvR;cases hrd:d2.ready with
    | none =>
     have e:zdm d2.ring (λn=>d2.canGo (d2.stOf n)) = -1:=by unfold zdm;unfold Ds.ready at hrd;rw[hrd]
     rw[e] at kI;have HR:Hid ((d2,o2)=T):=by
      show _=_
      rw[<-HP2.out.2.1];exact(zjl (zjc _ hrd)).symm
     clear hrd e
     go_wp2_with fail
     refine kI.mono ?_;rintro e w3 ⟨rfl,he3⟩
     go_wp2
     go_ret
     rw[<-HR.out];exact⟨_,own2,v2,rfl,S2.ext he3,H2,n2,e2,r2,i2⟩
    | some k =>
     have e:zdm d2.ring (λn=>d2.canGo (d2.stOf n))=(k:Int):=by unfold zdm;unfold Ds.ready at hrd;rw[hrd]
     rw[e] at kI;have hk:k<d2.ring.length:=by unfold Ds.ready at hrd;rw[List.findIdx?_eq_some_iff_getElem] at hrd;exact hrd.1
     obtain⟨s,hs⟩:=H2.wf.rings (d2.ring.getD k 0) (by rw[List.getD_eq_getElem?_getD,List.getElem?_eq_getElem hk];exact List.getElem_mem hk);have hid:s.id=d2.ring.getD k 0:=H2.wf.ids _ _ hs;have hs':d2.str s.id=some s:=by rw[hid];exact hs
     have hso:=stOf_some hs;have hTD:=zrk (room-(o2.length:Int)) hrd hso;clear e hrd hso;obtain⟨aR',oR,cR',hvR',-,-,hcell⟩:=(H2.rowR S2).at (by omega);rw[HVR.out] at hvR';simp only[Value.slice.injEq] at hvR';obtain⟨rfl,-,rfl⟩:=hvR';have fk:wr.cell? ⟨aR',oR+k,none⟩=some (.pointer (some ⟨v2.ptr s.id,0,none⟩)):=by rw[hid];exact(hcell k (by omega)).trans (zeq d2.ring v2.ptr k hk)
     have hkl:(k:Int)<(d2.ring.length:Int):=by omega
     have hk0:decide ((k:Int)<0)=false:=by simp
     have HIN:Hid (d2.ring.getD k 0∈d2.ring):=by show _∈_;rw[List.getD_eq_getElem?_getD,List.getElem?_eq_getElem hk];exact List.getElem_mem hk
     have KT:=hide (λ(u:World) (hu:Ext wr u)=>zzbez H2 (S2.ext hu) (OK2.fits.mono (by omega)) hs' (λhe ht=>((OK2.ids _ _ hs).2 HIN.out he).2 ht) (room-(o2.length:Int)) hrb hrc);have HTL:=hide (zzbhe OK2 hs' (room-(o2.length:Int)));have HTN:=hide (zzbhf (d:=d2) (s:=s) (room-(o2.length:Int)));have HTO:=hide (OK2.turn hk hs (room-(o2.length:Int)));have HTG:=hide (zln d2 s (room-(o2.length:Int)));have HTD:=hide hTD;have HTK:=hide (zwp d2 s (room-(o2.length:Int)));have HID:=hide hid;clear hcell hTD hid hs';generalize htt:d2.turn s (room-(o2.length:Int))=t at *;clear htt;generalize hon:o2.length=on at *;have HON:=hide hon;clear hon
     go_wp2_with fail
     refine kI.mono ?_;rintro e w3 ⟨rfl,he3⟩;have c13':=he3.cell c13;have fk':=he3.cell fk;have kt:=KT.out w3 he3
     go_wp2_with fail
     refine kt.mono ?_;rintro e w4 ⟨vf,rfl,hBf,hLf⟩;have hsrc:=zed hBf;obtain⟨af,kf,hvf,hkf1,hkf2,-⟩:=hBf;subst hvf;obtain⟨own5,v5,S5,H5,E5,r5,i5,-⟩:=hLf;have n5:own5 none = .row 5 1 (.slice a2 on k2) on (zab o2):=(E5 none (λx e=>by cases e)).trans n2;have e5:∀ n,(∀ x,n≠nm x)->own5 (some n)=own n:=λn hn=>(E5 (some n) (λx e=>hn x (by injection e))).trans (e2 n hn)
     have r5':v5.rp=v.rp:=r5.trans r2;have i5':t.2.1.failed=false->v5.vI=v.vI:=λhx=>(i5 hx).trans (i2 (by rw[<-HTK.out.1];exact hx))
     clear S2 H2 E5 n2 e2 r2 i2 r5 i5 c13 c13' fk fk' kt KT hO2 kI;generalize htn:t.1.length=tn at *;have HTNN:=hide htn;clear htn;by_cases hz:tn=0
     ·have HR:Hid ((d2,o2)=T):=by
       show _=_
       rw[<-HP2.out.2.1];refine(zjl ?_).symm;rw[HON.out,HTD.out,if_pos hz]
      have H5':zaa own5 (λx=>some (nm x)) g d2 v5:=by rw[<-HTN.out hz];exact H5
      have i5'':d2.failed=false->v5.vI=v.vI:=λhx=>i5' (by rw[HTN.out hz];exact hx)
      have hz2':((tn:Int) == 0)=true:=by rw[hz];rfl
      clear H5 i5'
      go_wp2
      go_ret
      rw[<-HR.out];exact⟨_,own5,v5,rfl,S5,H5',by rw[n5,<-HON.out];rfl,e5,r5',i5''⟩
     ·have hz2':((tn:Int) == 0)=false:=by rw[beq_eq_false_iff_ne];omega
      have hO5:OwnAt w4 5 1 (.slice a2 on k2) on (zab o2):=S5.get n5;have hroom:(tn:Int)<=room-(on:Int):=by
       rcases HTL.out with e|e
       ·exact absurd e hz
       ·exact e
      obtain⟨m,fm,tm,im,idm,sm,ndm⟩:=HTO.out hz;have hkr:k<t.2.1.ring.length:=by rw[HTG.out];exact hk
      have hidr:t.2.2.id=t.2.1.ring.getD k 0:=by rw[HTG.out,idm,HID.out]
      have hsr:t.2.1.str (t.2.1.ring.getD k 0)=some t.2.2:=by rw[HTG.out,<-HID.out];exact sm
      have HLO:=hide (zwq hkr hidr fm tm (by rw[idm];exact im) (by rw[idm];exact sm) ndm);have HLF:=hide (zud t.2.1 k t.2.2);have HKL:=hide (λ(u:World) (ow:Option N->Res) (SS:Sep wb u ow) (HH:zaa ow (λx=>some (nm x)) g t.2.1 v5)=>zzbbx HH SS (fm.mono (by omega)) k hkr hsr);clear sm idm im tm fm hsr hidr hkr ndm HIN
      go_wp2_with (at_builtin;refine zbh _ rfl (.tmp 67) (.tmp 68) 34 34 rfl 5 i0 (.int .u8 0) 1 1 Tryz.underlying34 hi0 hz0 hz1 hz2 rfl _ _ _ rfl hO5 _ _ _ rfl hsrc ?_ ?_ ?_)
      ·unfold maxLen;omega
      ·omega
      intro v6 w6 hO6 hG6;have hNL:on+tn=(o2++t.1).length:=by rw[List.length_append,HON.out,HTNN.out]
      have hO7:=zbv hO6 hNL (zbe o2 t.1).symm;have S6:=S5.grew n5 hG6 hO7;have H6:=H5.updO (n:=none) (λx e=>by cases e) (.row 5 1 v6 (o2++t.1).length (zab (o2++t.1)));have kl:=HKL.out w6 _ S6 H6;obtain⟨a6,k6,hv6,-,-⟩:=hO7.slice;subst hv6;have HNL:=hide hNL;have HN6:Hid (upd own5 none (.row 5 1 (.slice a6 (o2++t.1).length k6) (o2++t.1).length (zab (o2++t.1))) none = .row 5 1 (.slice a6 (o2++t.1).length k6) (o2++t.1).length (zab (o2++t.1))):=zag _ _ _;have HE6:Hid (∀ n,(∀ x,n≠nm x)->upd own5 none (.row 5 1 (.slice a6 (o2++t.1).length k6) (o2++t.1).length (zab (o2++t.1))) (some n)=own n):=λn hn=>(zac _ _ (λe=>by cases e)).trans (e5 n hn)
      generalize hw6:upd own5 none (.row 5 1 (.slice a6 (o2++t.1).length k6) (o2++t.1).length (zab (o2++t.1)))=own6 at *;have HPN:Hid (∃ f,(room-((o2++t.1).length:Int)).toNat<f/\Ds.outRing room f (t.2.1.leave k t.2.2) (o2++t.1)=T/\(o2++t.1=[]\/((o2++t.1).length:Int)<=room)):=by obtain⟨p1,p2,p3⟩:=HP2.out;obtain⟨f,rfl⟩:∃ f,fuel=f+1:=⟨fuel-1,by omega⟩;have e:=zpq (fuel:=f) (dd:=d2) (d2:=t.2.1.leave k t.2.2) (room:=room) (out:=o2) (b:=t.1) (by rw[HON.out,HTD.out,if_neg hz]);refine⟨f,by omega,by rw[<-e];exact p2,.inr (by omega)⟩
      clear hO6 hO7 hG6 S5 H5 n5 hO5 hsrc S6 H6 hNL hw6 HKL;generalize hNB:o2++t.1=NB at *;clear hNB
      go_wp2_with fail
      refine kl.mono ?_;rintro e w7 ⟨rfl,own7,v7,S7,H7,E7,r7,i7,-⟩;have n7:=(E7 none (λx e=>by cases e)).trans HN6.out;have e7:∀ n,(∀ x,n≠nm x)->own7 (some n)=own n:=λn hn=>(E7 (some n) (λx e=>hn x (by injection e))).trans (HE6.out n hn)
      have i7':(t.2.1.leave k t.2.2).failed=false->v7.vI=v.vI:=λhx=>(i7 hx).trans (i5' (by rw[<-HLF.out.1];exact hx))
      obtain⟨f,hP⟩:=HPN.out;have hNN:=HNL.out
      go_wp2
      go_roundw
      case rel=>exact⟨_,NB,own7,v7,f,S7,H7,n7,e7,r7.trans r5',i7',HLO.out,hP⟩
      case measure =>
       show (room-(NB.length:Int)).toNat<(room-(on:Int)).toNat
       omega
  | cons f r =>
   obtain⟨k,fl,i,b⟩:=f;have hlen:dd.ctl.length=r.length+1:=by rw[hcc];rfl
   have hR:=ho.rowC so;obtain⟨ac,oc,cc,hvc,hc1,hc2,hcell⟩:=hR.at (by omega);obtain⟨y,ys,hfr⟩:∃ y ys,vd.fr=y::ys:=by
    have hl:=ho.frl;cases e:vd.fr with
    | nil=>rw[e,hlen] at hl;simp at hl
    | cons y ys=>exact⟨y,ys,rfl⟩
   have hcells:zcv dd.ctl vd.fr = .int .i64 (k:Int) :: .int .i64 (fl:Int) :: .int .i64 (i:Int)::y::zcv r ys:=by rw[hcc,hfr];rfl
   rw[hcells] at hcell;have k0:wr.cell? ⟨ac,oc,none⟩=some (.int .i64 (k:Int)):=hcell 0 (by omega);have k1:wr.cell? ⟨ac,oc+1,none⟩=some (.int .i64 (fl:Int)):=hcell 1 (by omega);have k2:wr.cell? ⟨ac,oc+2,none⟩=some (.int .i64 (i:Int)):=hcell 2 (by omega);have k3:wr.cell? ⟨ac,oc+3,none⟩=some y:=hcell 3 (by omega);have hnb:owno (some (nm (.fr vd.b))) = .row 5 1 y b.length (zab b):=by rw[ho.res];simp[zao,hcc,hfr]
   have hOb:OwnAt wr 5 1 y b.length (zab b):=so.get hnb;obtain⟨ay,cy,hy,hcy1,hcy2⟩:=hOb.slice;subst hy;have hfm:=HP.out.2.2.2 (k,fl,i,b) (by rw[hcc];simp);obtain⟨hbl,hil⟩:=HOK.out.fits.bodies _ hfm;obtain⟨hkl,hfll⟩:=HCK.out _ hfm;dsimp only at hbl hil hkl hfll;rw[hvc,hlen] at c12;have ks:=znf (wr.alloc (.cells #[.int .i64 (k:Int),.int .i64 (fl:Int),.int .i64 (i:Int),.slice ay b.length cy] 111)) k fl i ay b.length cy (by omega);unfold frV at ks;have hcn:=zzbju wr #[.int .i64 (k:Int),.int .i64 (fl:Int),.int .i64 (i:Int),.slice ay b.length cy] 111;have HCN:=hide hcn;have HHC:=hide hcc;have HVC:=hide hvc;have HLN:=hide hlen;have HNB:=hide hnb;have HOB:=hide hOb;have hrl:(0:Int)<=(r.length:Int):=by omega
   have HHO:=hide hO;clear hcn hcell hcells hfr hcc hvc hlen hR hfm hnb hOb hO;generalize hbn:b.length=bn at *;generalize hon:out.length=on at *;have HBN:=hide hbn;have HON:=hide hon;clear hbn hon;by_cases hlt:room-(on:Int)<6+(bn:Int)
   ·have HR:Hid (T=(dd,out)):=by
     show T=_
     rw[HT.out];exact zzbjr HP.out.1 HP.out.2.1 HHC.out (by rw[HON.out];show _<6+(b.length:Int);rw[HBN.out];exact hlt)
    go_wp2_with fail
    refine ks.mono ?_;rintro e w2 ⟨rfl,he2⟩;have hext:=((Ext.refl wr).alloc (.cells #[.int .i64 (k:Int),.int .i64 (fl:Int),.int .i64 (i:Int),.slice ay bn cy] 111)).trans he2
    go_wp2
    go_ret
    rw[HR.out];exact⟨_,owno,vd,rfl,so.ext hext,ho,by rw[no,<-HON.out];rfl,eo,ro,λ_=>io⟩
   ·have HN2:Hid (Ds.outCtl room r (out++frame k fl i b)=Ds.outCtl room d.ctl []):=by
     show _=_
     rw[<-HP.out.2.1];exact(zzbjs (f:=(k,fl,i,b)) HHC.out (by rw[HON.out];show ¬ _<6+(b.length:Int);rw[HBN.out];exact hlt)).symm
    have hrun:∀ W:World,(Instr.slice 99 (.slice (some ⟨ac,oc,none⟩) (r.length+1) cc) (some (.int .i64 1)) none none).run Tryz.prog W = .ok (.slice (some ⟨ac,if cc=1 then oc else oc+4,none⟩) r.length (cc-1)) W:=λW=>by
     rw[run_slice_l W 99 _ _ cc (by rw[zzs];exact Tryz.underlying99) .i64 1 (by omega) (by omega),zzs,zzblg]
     show Result.ok (sliced (some ⟨ac,oc,none⟩) 1 (r.length+1) cc 4) W=_
     rw[zwr];rfl
    go_wp2_with fail
    refine ks.mono ?_;rintro e w2 ⟨rfl,he2⟩;have hext:=((Ext.refl wr).alloc (.cells #[.int .i64 (k:Int),.int .i64 (fl:Int),.int .i64 (i:Int),.slice ay bn cy] 111)).trans he2;have q0:w2.cell? ⟨wr.heap.size,0,none⟩=some (.int .i64 (k:Int)):=he2.cell (HCN.out 0);have q1:w2.cell? ⟨wr.heap.size,1,none⟩=some (.int .i64 (fl:Int)):=he2.cell (HCN.out 1);have q2:w2.cell? ⟨wr.heap.size,2,none⟩=some (.int .i64 (i:Int)):=he2.cell (HCN.out 2);have q3:w2.cell? ⟨wr.heap.size,3,none⟩=some (.slice ay bn cy):=he2.cell (HCN.out 3);have hO2:=HHO.out.ext hext;have hB2:=HOB.out.ext hext;rw[<-HON.out] at hO2;rw[<-HBN.out] at hB2;have ka:=zdp w2 k fl i (.slice ay b.length cy) b out (.slice ao out.length co) hO2 (by rw[HON.out];omega) (by rw[HBN.out];omega) hkl hfll hil (λu v' hg=>hB2.isBytes.kept (λbb hbb=>by
     have hlow:bb<w2.heap.size:=hB2.lt bb hbb;refine hg.grown.block bb hlow (λe => ?_)
     have:=so.apart (some (nm (.fr vd.b))) none bb (by rw[HNB.out];rw[<-HBN.out];exact hbb) (by rw[no,<-HON.out];exact e.symm)
     cases this))
    unfold frV at ka;rw[HON.out,HBN.out] at ka;have S2:=so.ext hext;clear so k0 k1 k2 k3 c12 hO2 hB2
    go_wp2_with fail
    refine ka.mono ?_;rintro e w3 ⟨v3,rfl,hO3,hG3⟩;have S3:=S2.grew no hG3 hO3;have H3:=ho.updO (n:=none) (λx e=>by cases e) (.row 5 1 v3 (out++frame k fl i b).length (zab (out++frame k fl i b)));have c12:=H3.c12 S3;have t12:=H3.thaw S3 12;rw[HVC.out,HLN.out] at c12;obtain⟨own4,S4,H4,E4⟩:=H3.pop S3 HHC.out (n:=r.length) rfl (by rw[HVC.out,HLN.out]);have hLC4:=zws H4 S4;have n4:own4 none = .row 5 1 v3 (out++frame k fl i b).length (zab (out++frame k fl i b)):=(E4 none (λx e=>by cases e)).trans (zag _ _ _);have e4:∀ n,(∀ x,n≠nm x)->own4 (some n)=own n:=λn hn=>(E4 (some n) (λx e=>hn x (by injection e))).trans ((zac _ _ (λe=>by cases e)).trans (eo n hn))
    obtain⟨a3,k3,hv3,-,-⟩:=hO3.slice;subst hv3;have HP4:Hid (({ dd with ctl:=r }:Ds) = { d with ctl:=({ dd with ctl:=r }:Ds).ctl }/\Ds.outCtl room ({ dd with ctl:=r }:Ds).ctl (out++frame k fl i b)=Ds.outCtl room d.ctl []/\(out++frame k fl i b=[]\/((out++frame k fl i b).length:Int)<=room)/\(∀ f∈({ dd with ctl:=r }:Ds).ctl,f∈d.ctl)):=by
     refine⟨?_,HN2.out,.inr ?_,λf hf=>HP.out.2.2.2 f ?_⟩
     ·conv=>lhs;rw[HP.out.1]
     ·rw[List.length_append,zax,HON.out,HBN.out];omega
     ·rw[HHC.out];exact List.mem_cons_of_mem _ hf
    have HHL:=HLN.out;clear hO3 hG3 S2 S3 H3 E4 no ho;generalize (if cc=1 then oc else oc+4)=o9 at *;generalize hNB:out++frame k fl i b=NB at *;clear hNB
    go_wp2
    go_roundw
    case rel=>exact⟨_,NB,own4,_,S4,H4,n4,e4,ro,io,HP4⟩
    case measure=>rw[hLC,HHL];rw[hLC4];exact Nat.lt_succ_self _
end
section
variable {N:Type} {own:N->Res} {nm:DN->N} {g:Nat} {d:Ds} {v:DV} {wb w:World}
theorem Sep.fold{own':Option N->Res}(h:Sep wb w own')(k:N):Sep wb w (upd (λn=>own' (some n)) k (own' none)):=by
 refine⟨h.base,λn => ?_,λn m b hn hm => ?_,λn b hn => ?_⟩
 ·by_cases e:n=k
  ·subst e;rw[zag];exact h.ok none
  ·rw[zac _ _ e];exact h.ok (some n)
 ·by_cases e1:n=k
  ·by_cases e2:m=k
   ·rw[e1,e2]
   ·subst e1;rw[zag] at hn;rw[zac _ _ e2] at hm
    have:=h.apart none (some m) b hn hm
    cases this
  ·by_cases e2:m=k
   ·subst e2;rw[zag] at hm;rw[zac _ _ e1] at hn
    have:=h.apart (some n) none b hn hm
    cases this
   ·rw[zac _ _ e1] at hn;rw[zac _ _ e2] at hm
    have:=h.apart (some n) (some m) b hn hm
    injection this
 ·by_cases e:n=k
  ·subst e;rw[zag] at hn;exact h.low none b hn
  ·rw[zac _ _ e] at hn;exact h.low (some n) b hn
theorem zaa.fold{own':Option N->Res}(h:zaa own' (λx=>some (nm x)) g d v){k:N}(hk:∀ x,nm x≠k):zaa (upd (λn=>own' (some n)) k (own' none)) nm g d v:=h.unlift.updO hk _
theorem zaa.alike(h:zaa own nm g d v){own2:N->Res}(e:∀ x,own2 (nm x)=own (nm x)):zaa own2 nm g d v :=
 ⟨h.inj,λx=>(e x).trans (h.res x),h.frl,h.mapM,h.mapT,h.wf,h.nilB,h.nilH⟩
def zar(own:N->Res)(nm:DN->N)(g:Nat)(d:Ds):Prop:=∃ v,zaa own nm g d v/\znd d v
theorem zar.alike(h:zar own nm g d){own2:N->Res}(e:∀ x,own2 (nm x)=own (nm x)):zar own2 nm g d:=by obtain⟨v,h1,h2⟩:=h;exact⟨v,h1.alike e,h2⟩
theorem zar.updO(h:zar own nm g d){n:N}(hn:∀ x,nm x≠n)(r:Res):zar (upd own n r) nm g d:=h.alike (λx=>zac own r (hn x))
theorem zpr(room:Int):∀ (fuel:Nat) (d:Ds) (out:Bytes),(Ds.outRing room fuel d out).1.failed=d.failed/\(Ds.outRing room fuel d out).1.inn=d.inn
 | 0,d,out=>⟨rfl,rfl⟩
 | fuel+1,d,out=>by
  unfold Ds.outRing;cases h:d.turned (room-out.length) with
  | none=>exact⟨rfl,rfl⟩
  | some p =>
   obtain⟨b,d2⟩:=p;dsimp only;have ih:=zpr room fuel d2 (out++b);have hk:d2.failed=d.failed/\d2.inn=d.inn:=by
    unfold Ds.turned at h;split at h
    ·cases h
    ·dsimp only at h;split at h
     ·cases h
     ·rename_i k _ _
      simp only[Option.some.injEq,Prod.mk.injEq] at h;rw[<-h.2];have a1:=zud (d.turn (d.stOf (d.ring.getD k 0)) (room-out.length)).2.1 k (d.turn (d.stOf (d.ring.getD k 0)) (room-out.length)).2.2;have a2:=zwp d (d.stOf (d.ring.getD k 0)) (room-out.length);exact⟨a1.1.trans a2.1,a1.2.1.trans a2.2.1⟩
   exact⟨ih.1.trans hk.1,ih.2.trans hk.2⟩
theorem zni(d:Ds)(room:Int):(d.out room).1.failed=d.failed/\(d.out room).1.inn=d.inn:=by
 unfold Ds.out;dsimp only;split
 ·exact zpr _ _ _ _
 ·exact⟨rfl,rfl⟩
theorem zwt(h:zar own nm g d)(hs:Sep wb w own)(hf:zgx d)(hck:∀ f∈d.ctl,f.1<=255/\f.2.1<=255)(room:Int)(hr0:-9223372036854775808<=room)(hr1:room<=17592186044416)(k:N)(hk:∀ x,nm x≠k) :
  Calls Tryz.prog 20 #[.pointer (some ⟨g,0,none⟩),.int .i64 room] w λe w' => ∃ vo own',e = .returned vo/\Sep wb w' own'/\zar own' nm g (d.out room).1/\own' k = .row 5 1 vo (d.out room).2.length (zab (d.out room).2) /\ ∀ n,n≠k->(∀ x,n≠nm x)->own' n=own n:=by
 obtain⟨v,h1,h2⟩:=h;refine(zzbhg h1 hs hf hck room hr0 hr1).mono ?_;rintro e w' ⟨vo,own',v',rfl,S',H',n',e',r',i'⟩;obtain⟨k1,k2⟩:=zni d room;refine⟨vo,_,rfl,S'.fold k,⟨v',H'.fold hk,λhx => ?_⟩,by rw[zag];exact n',λn hn hx=>by rw[zac _ _ hn];exact e' n hx⟩;rw[r',i' hx,k2];exact h2 (by rw[<-k1];exact hx)
theorem zzbdq(Good:Ds->Prop)(hG:GoodD Good)(h:zar own nm g d)(hs:Sep wb w own)(vb:Value)(b:Bytes)(hb:zae w vb b)(hl:d.failed=false->d.inn.length+b.length<=68719476736)(hc:d.failed=false->Good { d with inn:=d.inn++b }) :
  Calls Tryz.prog 22 #[.pointer (some ⟨g,0,none⟩),vb] w λe w'=>e = .returned (.tuple #[]) /\ ∃ own',Sep wb w' own'/\zar own' nm g (d.takes b)/\zai nm own own':=by
 obtain⟨v,h1,h2⟩:=h;refine(zzbjo Good hG h1 hs h2 vb b hb hl hc).mono ?_;rintro e w' ⟨rfl,own',v',S',H',E',I'⟩;exact⟨rfl,own',S',⟨v',H',I'⟩,E'⟩
theorem zzu(hi:∀ a b,nm a=nm b->a=b)(h0:∀ x,own (nm x) = .none)(hs:Sep wb w own)(client:Bool)(streams:Nat)(hst:streams<=6) :
  Calls Tryz.prog 27 #[.bool client,.int .i64 (streams:Int)] w λe w' => ∃ g own',e = .returned (.tuple #[.pointer (some ⟨g,0,none⟩),.int .i64 0])/\Sep wb w' own'/\zar own' nm g (Ds.new client streams)/\zai nm own own':=by
 refine(zzbgq hi h0 hs client streams hst).mono ?_;rintro e w' ⟨g,rfl,own',v',S',H',E',I'⟩;exact⟨g,own',rfl,S',⟨v',H',I'⟩,E'⟩
set_option maxHeartbeats 1600000 in
theorem zrl(h:zar own nm g d)(hs:Sep wb w own)(k:N)(hk:∀ x,nm x≠k) :
  Calls Tryz.prog 44 #[.pointer (some ⟨g,0,none⟩)] w λe w' => ∃ ve own',e = .returned ve/\Sep wb w' own'/\zar own' nm g d.asked/\own' k = .row 109 3 ve d.ev.length (zcf d.ev) /\ ∀ n,n≠k->(∀ x,n≠nm x)->own' n=own n:=by
 obtain⟨v,h1,h2⟩:=h;have f14:=h1.c14 hs;have th:=h1.thaw hs 14;obtain⟨aE,cE,hE,-,-⟩:=OwnAt.slice (h1.rowE hs);have s1:=hs.moveOut (h1.res .ev);have s2:Sep wb w (lift (upd own (nm .ev) (.row 109 3 (.slice none 0 0) 0 [])) (.row 109 3 v.vE d.ev.length (zcf d.ev))):=by
  have s1':=s1.nilRow (some (nm .ev)) 109 3;have e:upd (lift (upd own (nm .ev) .none) (zao g d v .ev)) (some (nm .ev)) (.row 109 3 (.slice none 0 0) 0 [])=lift (upd own (nm .ev) (.row 109 3 (.slice none 0 0) 0 [])) (.row 109 3 v.vE d.ev.length (zcf d.ev)):=by
   funext n
   cases n with
   | none=>exact zac _ _ (λe=>by cases e)
   | some n =>
    by_cases e:n=nm .ev
    ·subst e;rw[zag]
     show _=upd own (nm .ev) _ (nm .ev)
     rw[zag]
    ·rw[zac _ _ (λh=>e (by injection h))]
     show upd own (nm .ev) .none n=upd own (nm .ev) _ n
     rw[zac _ _ e,zac _ _ e]
  rw[e] at s1';exact s1'
 have c2:lift (upd own (nm .ev) (.row 109 3 (.slice none 0 0) 0 [])) (.row 109 3 v.vE d.ev.length (zcf d.ev)) (some (nm .conn)) = .obj g (.cells (zbc d v) 105 (0,0)):=(zad h1.inj own .ev .conn _).trans ((if_neg (by simp)).trans h1.conn);have s3:=s2.setObj c2 14 (.slice none 0 0);have s4:=s3.fold k;have hD:=h1.setEv [] (.slice none 0 0);have hD2:zaa (upd (λn=>upd (lift (upd own (nm .ev) (.row 109 3 (.slice none 0 0) 0 [])) (.row 109 3 v.vE d.ev.length (zcf d.ev))) (some (nm .conn)) (.obj g (.cells ((zbc d v).setIfInBounds 14 (.slice none 0 0)) 105 (0,0))) (some n)) k (upd (lift (upd own (nm .ev) (.row 109 3 (.slice none 0 0) 0 [])) (.row 109 3 v.vE d.ev.length (zcf d.ev))) (some (nm .conn)) (.obj g (.cells ((zbc d v).setIfInBounds 14 (.slice none 0 0)) 105 (0,0))) none)) nm g d.asked { v with vE:=.slice none 0 0 }:=by
  refine zaa.alike hD (λx => ?_);rw[zac _ _ (hk x)];by_cases e:nm x=nm .conn
  ·rw[e,zag,zag]
  ·rw[zac _ _ (λh=>e (by injection h)),zac _ _ e];rfl
 have HS:=hide s4;have HD:=hide hD2;have HI:Hid (znd d.asked { v with vE:=.slice none 0 0 }):=λhx=>h2 hx;have HE:=hide hE;rw[hE] at f14;clear s1 s2 s3 s4 hD hD2 hE
 go_enter Tryz.func44,Tryz.ntmps44
 go_wp2
 go_ret
 refine⟨_,_,rfl,HS.out,⟨_,HD.out,HI.out⟩,?_,λn hn hx => ?_⟩
 ·rw[zag,zac _ _ (λe=>by cases e)]
  show Res.row _ _ v.vE _ _=_
  rw[HE.out];rfl
 ·rw[zac _ _ hn,zac _ _ (λh=>hx .conn (by injection h))]
  show upd own (nm .ev) _ n=own n
  rw[zac _ _ (hx .ev)]
end
theorem Ds.Ok.asked{d:Ds}{m:Nat}{q:Nat}{B:Nat}(h:d.Ok m q B):d.asked.Ok m q B:=by
 have f:=h.fits
 have:=f.ev
 exact h.same ⟨f.mLast,f.tLast,f.mMost,f.tMost,f.mCount0,f.mCount1,f.tCount0,f.tCount1,f.from0,f.from1,f.to0,f.to1,f.ctl,f.ring,by show 0+1000*m<=68719476736;omega,f.inn,f.pings,f.coming,f.bodies,f.st⟩ rfl rfl rfl rfl rfl (λ_ hx => .inl hx) (Nat.le_refl _) (Nat.le_refl _)
theorem Ds.Ok.outOk{d:Ds}{m q B:Nat}(h:d.Ok m q B)(hq:1<=q){c:Nat}(hm:B+1+c<=2*m):OutOk d c:=by have h1:zuc d<=d.ring.length:=List.length_filter_le _ _;have h2:=h.rb;exact⟨h.fits.mono (by omega),λn s hn=>⟨(h.ids n s hn).1,(h.ids n s hn).2.2.1 hq⟩⟩
theorem zwu(d:Ds)(h0:d.inn=[]):d.takes []=d:=by
 unfold Ds.takes;split
 ·rfl
 ·dsimp only;rw[List.append_nil,zbb _ _ (.inr (by rw[h0];show 0<6;omega))]
end Go.Proofs.YtoijpogadkogcaaGreat
