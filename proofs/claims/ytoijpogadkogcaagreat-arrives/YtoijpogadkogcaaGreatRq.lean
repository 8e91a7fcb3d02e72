import Derived.Test.YtoijpogadkogcaaGreatRo
import Derived.Test.YtoijpogadkogcaaGreatQw
import Derived.Test.YtoijpogadkogcaaGreatQz
namespace Go.Proofs.YtoijpogadkogcaaGreat
open Go.RowKit
set_option maxRecDepth 100000
section
variable {p:Nat} {cl:Bool} {nA nB:Nat} {d e:Ds} {wA wB:Nat->Way} {r:Nat->Bool} {h:Nat->zal}
theorem LK.half1(H:LK p cl nA nB d e [] [] wA wB r h)(R:Int):LK p cl nA nB (half1 R (d,e)).1 (half1 R (d,e)).2 [] [] wA wB r h:=by
 have T:=H.out R;rw[List.nil_append] at T;have T2:LK p cl nA nB (d.out R).1 e ((d.out R).2++[]) [] wA wB r h:=by rw[List.append_nil];exact T
 exact T2.takes
theorem LK.half2(H:LK p cl nA nB d e [] [] wA wB r h)(R:Int):LK p cl nA nB (half2 R (d,e)).1 (half2 R (d,e)).2 [] [] wA wB r h:=by have T:=(H.swap.half1 R).swap;rw[Bool.not_not] at T;exact T
theorem LK.srounds(H:LK p cl nA nB d e [] [] wA wB r h)(R:Int):∀ n,LK p cl nA nB (srounds R n (d,e)).1 (srounds R n (d,e)).2 [] [] wA wB r h
 | 0=>H
 | n+1=>((LK.srounds H R n).half1 R).half2 R
theorem Ds.Ok.big{m q B:Nat}(h:d.Ok m q B)(c1:0<=d.mCount)(c2:d.mCount<=1000)(c3:0<=d.tCount)(c4:d.tCount<=1000)(c5:d.to_<=1000)(c6:d.ctl.length<=10)(c7:d.ring.length<=10)(c8:d.ev.length<=10):d.Ok 50000000 0 50000010:=by have f:=h.fits;refine⟨⟨f.mLast,f.tLast,f.mMost,f.tMost,by omega,by omega,by omega,by omega,f.from0,f.from1,f.to0,by omega,by omega,by omega,by omega,f.inn,f.pings,f.coming,f.bodies,f.st⟩,λn s hn=>⟨(h.ids n s hn).1,(h.ids n s hn).2.1,Qt0 s⟩,h.newT,h.newM,h.cm,h.ck,by omega,by omega⟩
end
def zfa(hd:zal):Line:={ id:=1,client:={ sent:=word,read:=2 },h:=hd }
theorem zzbiq(a b:Nat)(ha:a<=6)(hb:b<=6)(hb1:1<=b)(ha1:1<=a)(hd:zal)(hp:zbi hd=true):TD true (Ay a b) (Bx a b hd) [] [] [zfa hd] 2 50000000 0:=by
 obtain⟨R,hR⟩:∃ R:Int,R=1099511627776:=⟨_,rfl⟩;have L0:=LK.new a b ha hb ha1 hb1 (λ_=>true) (λ_=>zup) (λ_=>zzbcj);have L1:=L0.srounds R 5;rw[(zzbdt ha hb hR).1] at L1;dsimp only at L1;obtain⟨L2,-⟩:=L1.opened hd hp (zzbdu hb1 hp) (λs=>if s=1 then false else true) (λs hs=>if_neg hs);have hnx:(Az a b).next=1:=rfl;rw[hnx,zwv] at L2;have hf1:(Cl a b 1 1 150 [1] (S1b hd []) none).find ((1:Nat):Int)=S1b hd []:=zzz 1 (by omega) _ _ _ _ _ rfl rfl;have L3:=L2.write 1 (by rw[hf1];exact zqj.1) word;rw[hf1,(zqj (a:=a) (b:=b)).2.1,zqj.2.2] at L3;have L4:=L3.srounds R 5;rw[(zzbdv ha hb hb1 hp hR).1] at L4;dsimp only at L4;obtain⟨b1,b2,b3,b4⟩:=zzbdw (a:=a) (b:=b) (h:=hd);have hrd:=L4.swap.readTells 1 (by omega) 2 (by omega);have e1:((1:Nat):Int)=1:=rfl;rw[e1,b1,b2] at hrd;have L5:LK 2 false 0 1 (Bx a b hd) (Ay a b) [] [] (λ_ => {}) (zcu (zcu (λ_ => {}) 1 { ((λ_ => {}):Nat->Way) 1 with sent:=(((λ_ => {}):Nat->Way) 1).sent++word.take 4 }) 1 { (zcu (λ_ => {}) 1 { ((λ_ => {}):Nat->Way) 1 with sent:=(((λ_ => {}):Nat->Way) 1).sent++word.take 4 }) 1 with read:=((zcu (λ_ => {}) 1 { ((λ_ => {}):Nat->Way) 1 with sent:=(((λ_ => {}):Nat->Way) 1).sent++word.take 4 }) 1).read+2 }) (λs=>if s=1 then false else true) (λs=>if s=1 then hd else zup):=by
  rcases hrd with ⟨q,-⟩|⟨q,-⟩|⟨q,-⟩|⟨-,n,hn,-,-,q⟩
  ·cases q
  ·cases q
  ·cases q
  ·subst hn;rw[b4] at q;exact q
 have L6:=L5.swap;have f1:lwA [zfa hd]=zcu (zcu (λ_ => {}) 1 { ((λ_ => {}):Nat->Way) 1 with sent:=(((λ_ => {}):Nat->Way) 1).sent++word.take 4 }) 1 { (zcu (λ_ => {}) 1 { ((λ_ => {}):Nat->Way) 1 with sent:=(((λ_ => {}):Nat->Way) 1).sent++word.take 4 }) 1 with read:=((zcu (λ_ => {}) 1 { ((λ_ => {}):Nat->Way) 1 with sent:=(((λ_ => {}):Nat->Way) 1).sent++word.take 4 }) 1).read+2 }:=by
  funext s
  by_cases es:s=1
  ·subst es;rfl
  ·have:¬ (1:Nat)=s:=λx=>es x.symm
   simp[lwA,line?,zfa,zcu,es,this]
 have f2:lwB [zfa hd]=λ_ => {}:=by
  funext s
  by_cases es:s=1
  ·subst es;rfl
  ·have:¬ (1:Nat)=s:=λx=>es x.symm
   simp[lwB,line?,zfa,this]
 have f3:lr [zfa hd]=λs=>if s=1 then false else true:=by
  funext s
  by_cases es:s=1
  ·subst es;rfl
  ·have:¬ (1:Nat)=s:=λx=>es x.symm
   simp[lr,line?,zfa,es,this]
 have f4:lh [zfa hd]=λs=>if s=1 then hd else zup:=by
  funext s
  by_cases es:s=1
  ·subst es;rfl
  ·have:¬ (1:Nat)=s:=λx=>es x.symm
   simp[lh,line?,zfa,es,this]
 refine⟨?_,by simp[zfa],λt ht => ?_,(ay_ok ha hb).big ?_ ?_ ?_ ?_ ?_ ?_ ?_ ?_,(bx_ok ha hb hp).big ?_ ?_ ?_ ?_ ?_ ?_ ?_ ?_,?_,?_,Nat.le_refl _,Nat.le_refl _,(λx (hx:x∈([]:List (Nat×Nat×Nat)))=>by cases hx),(λx (hx:x∈[((1:Nat),(1:Nat),(0:Nat))])=>by rw[List.mem_singleton.1 hx];show 1<=65535;omega)⟩
 ·show LK 2 true _ _ _ _ _ _ (lwA [zfa hd]) (lwB [zfa hd]) _ _
  rw[f1,f2,f3,f4];exact L6
 ·rw[List.mem_singleton.1 ht];exact⟨Nat.le_refl _,by show 1<=99;omega,Nat.le_refl _⟩
 all_goals first | (show (0:Int)<=1;omega) | (show (1:Int)<=1000;omega) | (show (0:Int)<=0;omega) | (show (0:Int)<=1000;omega) | (show (150:Int)<=1000;omega) | (show (148:Int)<=1000;omega) | (show (0:Nat)<=10;omega) | (show (1:Nat)<=10;omega) | (show (2:Nat)<=10;omega) | (show (0:Nat)<=69;omega)
theorem Sep.restrict{N:Type}{wb w:World}{own own':N->Res}(h:Sep wb w own)(e:∀ n,own' n=own n\/own' n = .none):Sep wb w own':=by
 have key:∀ n k,(own' n).has k->(own n).has k:=λn k hk=>by
  rcases e n with q|q
  ·rw[q] at hk;exact hk
  ·rw[q] at hk;exact hk.elim
 refine⟨h.base,λn => ?_,λn m k hn hm=>h.apart n m k (key n k hn) (key m k hm),λn k hn=>h.low n k (key n k hn)⟩;rcases e n with q | q
 ·rw[q];exact h.ok n
 ·rw[q];trivial
def keep2(own:LN->Res)(n:LN):Res:=match n with
 | .e k=>if k<2 then own (.e k) else .none
 | n=>own n
def g4(i:Nat):Nat:=if i=1 then 4 else 0
def JQ(d e:Ds)(ls:List Line)(_:Res):Prop:=(d.inn=[]/\e.inn=[])/\(∀ s,s<100->g4 s+(d.stOf s).data.length=(lwA ls s).sent.length) /\ ∀ s,s<100->g4 (100+s)+(e.stOf s).data.length=(lwB ls s).sent.length
theorem jq_is(a b:Nat)(hd:zal)(R:Res):JQ (Ay a b) (Bx a b hd) [zfa hd] R:=by
 refine⟨⟨rfl,rfl⟩,λs _ => ?_,λs _ => ?_⟩
 ·by_cases es:s=1
  ·subst es;rfl
  ·have h1:¬ (1:Nat)=s:=λx=>es x.symm;have h2:((Ay a b).stOf s).data=[]:=by
    unfold Ds.stOf Ay Cl;dsimp only;rw[if_neg es];split<;>rfl
   rw[h2];simp[g4,lwA,line?,zfa,es,h1]
 ·have h2:((Bx a b hd).stOf s).data=[]:=by
   unfold Ds.stOf Bx;dsimp only;split<;>rfl
  rw[h2];have h3:g4 (100+s)=0:=if_neg (by omega);rw[h3];by_cases es:s=1
  ·subst es;rfl
  ·have h1:¬ (1:Nat)=s:=λx=>es x.symm;simp[lwB,line?,zfa,h1]
theorem zzbcq(streams:Int)(w:World)(h1:-9223372036854775808<=streams)(h2:streams<=9223372036854775807) :
  Calls Tryz.prog 11 #[.int .i64 streams] w λe w' => ∃ gl,e = .returned (.pointer (some ⟨gl,0,none⟩))/\zbz w gl false 2 50000000 0 4 JQ w':=by
 have hd:=tdiv6 streams h1 h2;obtain⟨p1,p2⟩:=zhb streams 6 (by omega);obtain⟨p3,p4⟩:=zhb (streams.tdiv 6) 6 (by omega);obtain⟨na,hna⟩:∃ n:Nat,pk streams 6=(n:Int):=⟨(pk streams 6).toNat,by omega⟩;obtain⟨nb,hnb⟩:∃ n:Nat,pk (streams.tdiv 6) 6=(n:Int):=⟨(pk (streams.tdiv 6) 6).toNat,by omega⟩;refine(zzbfj streams w h1 h2 na nb hna hnb).mono ?_;rintro e w' ⟨gl,gx,gy,gs,own,vu,vd,vl,m,vh,rfl,S,hpk,L,q0,q1⟩;refine⟨gl,rfl,?_⟩;have S1:Sep w w' (keep2 own):=S.restrict (λn=>by
  cases n with
  | e k =>
   show (if k<2 then own (.e k) else .none)=_\/(if k<2 then own (.e k) else .none)=_
   by_cases hk:k<2
   ·rw[if_pos hk];exact .inl rfl
   ·rw[if_neg hk];exact .inr rfl
  | _=>exact .inl rfl)
 have S2:=S1.nilRow (.e 2) 5 1;have L2:=L.alike (own':=upd (keep2 own) (.e 2) (.row 5 1 (.slice none 0 0) 0 [])) (λn hn _=>by
  rw[zac _ _ (hn 2)];cases n with
  | e k=>exact absurd rfl (hn k)
  | _=>rfl)
 refine⟨_,gx,gy,_,_,vu,vd,vl,[],[],[zfa m],_,S2,L2,⟨rfl,λk t hk => ?_,λk hk _ => ?_⟩,λt ht => ?_,Nat.le_refl _,zzbiq (1+na) (1+nb) (by omega) (by omega) (by omega) (by omega) m hpk,jq_is _ _ _ _⟩
 ·have hk0:k=0:=by
   have:=(List.getElem?_eq_some_iff.1 hk).1
   simp at this;omega
  subst hk0;simp only[List.getElem?_cons_zero,Option.some.injEq] at hk;subst hk;refine⟨.slice (some ⟨gs,0,none⟩) 4 4,.slice none 0 0,vh,λj hj=>by rw[Nat.mul_zero,Nat.zero_add];rfl,.inr ⟨rfl,gs,rfl,?_⟩,.inl ?_,?_⟩
  ·rw[zac _ _ (λe=>by injection e with e;omega)];exact q1
  ·exact zag _ _ _
  ·rw[zac _ _ (λe=>by injection e with e;omega)];exact q0
 ·have hk2:3<=k:=hk;rw[zac _ _ (λe=>by injection e with e;omega)]
  show (if k<2 then own (.e k) else .none) = .none
  rw[if_neg (by omega)]
 ·rw[List.mem_singleton.1 ht];exact⟨Nat.le_refl _,Nat.zero_le _⟩
set_option maxHeartbeats 1600000 in
theorem zzbkn(va vb:Value)(m m':List (List UInt8×List UInt8))(w:World)(ha:zbq w va m)(hb:zbq w vb m')(hm:m.length<=1000)(hd:m=m'\/m.length≠m'.length) :
  Calls Tryz.prog 32 #[va,vb] w λe w' => ∃ b,e = .returned (.bool b)/\(m=m'->b=true)/\Ext w w':=by
 by_cases h:m=m'
 ·subst h;exact(zzv va vb m w ha hb hm).mono (λe w' ⟨h1,h2⟩=>⟨true,h1,λ_=>rfl,h2⟩)
 ·have hl:m.length≠m'.length:=hd.resolve_left h;obtain⟨a,capa,rfl,ha1,ha2,-⟩:=ha;obtain⟨b,capb,rfl,hb1,hb2,-⟩:=hb;have HN:=hide h;generalize m.length=n at *;generalize m'.length=n' at *;clear h hd;have hl':¬ (n:Int)=(n':Int):=by omega
  go_enter Tryz.func32,Tryz.ntmps32
  go_wp2
  go_ret
  exact⟨false,rfl,λe=>absurd e HN.out,Ext.refl _⟩
def zob(c:Bool)(d:Ds):Ds:=if c then d.asked else d
def zoc(c:Bool)(d:Ds):Ds:=if c then d else d.asked
def zdj(c:Bool)(d e:Ds):Ds:=if c then d else e
theorem zzbaz(c:Bool)(d e:Ds):zdj c (zob c d) (zoc c e)=(zdj c d e).asked:=by cases c<;>rfl
def EvK(d:Ds)(ls:List Line)(ev:List (Nat×Nat×Nat)):Prop :=
 ev.length<=68719476736/\(∀ x∈ev,x.1≠6/\x.2.1<=65535/\(x.1=1->d.headers? (x.2.1:Int)=some (lh ls x.2.1))) /\ ∀ (n:Nat) (hd:zal),d.headers? (n:Int)=some hd->hd=lh ls n/\hd.length<=1000
theorem TD.evk{c:Bool}{d e:Ds}{u v:Bytes}{ls:List Line}{p m L:Nat}(H:TD c d e u v ls p m L):EvK d.asked ls d.ev:=by
 refine⟨?_,λx hx => ?_,λn hd hq => ?_⟩
 ·have:=H.od.fits.ev;omega
 ·exact⟨(H.asked.2 x hx).1,H.db x hx,(H.asked.2 x hx).2⟩
 ·refine⟨(H.lk.headersIs n hq).1,?_⟩;have hq':d.headers? (n:Int)=some hd:=hq;unfold Ds.headers? at hq';rw[if_pos (by omega),Int.toNat_natCast] at hq';cases hh:d.held false n with
  | none=>rw[hh] at hq';cases hq'
  | some s =>
   rw[hh,Option.bind_some] at hq';split at hq'
   ·cases hq'
   ·injection hq' with hq'
    rw[<-hq'];exact(H.od.fits.st n s (zzx hh)).headers
theorem TD.heard{dx dy:Ds}{up down:Bytes}{ls:List Line}{p m L:Nat}(H:TD true dx dy up down ls p m L)(c:Bool) :
  TD true (zob c dx) (zoc c dy) up down (ls.map (marks (zdj c dx dy).ev)) p m L/\EvK (zdj c dx dy).asked ls (zdj c dx dy).ev/\(zdj c dx dy).asked.Fits 0:=by
 cases c
 ·exact⟨TD.unswap (c:=true) H.swap.asked.1,H.swap.evk,H.swap.od.asked.fits.mono (Nat.zero_le _)⟩
 ·exact⟨H.asked.1,H.evk,H.od.asked.fits.mono (Nat.zero_le _)⟩
theorem zuy:∀ (l:List (Nat×Nat×Nat)) (i:Nat) (k n c:Nat),l[i]? = some (k,n,c)->(zcf l)[i*3]? = some (.int .i64 (k:Int))/\(zcf l)[i*3+1]? = some (.int .i64 (n:Int))
 | [],_,_,_,_,h=>by simp at h
 | (k',n',c')::l,0,k,n,c,h=>by simp only[List.getElem?_cons_zero,Option.some.injEq,Prod.mk.injEq] at h;obtain⟨rfl,rfl,rfl⟩:=h;exact⟨rfl,rfl⟩
 | (k',n',c')::l,i+1,k,n,c,h=>by
  rw[List.getElem?_cons_succ] at h;obtain⟨h1,h2⟩:=zuy l i k n c h;have e:(i+1)*3=i*3+1+1+1:=by omega
  constructor
  ·rw[e];exact h1
  ·rw[show (i+1)*3+1=(i*3+1)+1+1+1 by omega];exact h2
def cur(ls:List Line)(x:Nat×Nat×Nat)(k:Nat):List Line:=(ls.take k).map (marks [x])++ls.drop k
theorem zzbko(ls:List Line)(x:Nat×Nat×Nat):cur ls x 0=ls:=by simp[cur]
theorem zzbmd(ls:List Line)(x:Nat×Nat×Nat){k:Nat}(hk:k=ls.length):cur ls x k=ls.map (marks [x]):=by unfold cur;rw[hk,List.take_of_length_le (Nat.le_refl _),List.drop_of_length_le (Nat.le_refl _),List.append_nil]
theorem zzbir(ls:List Line)(x:Nat×Nat×Nat){k:Nat}(hk:k<ls.length):(cur ls x k)[k]? = ls[k]?:=by
 unfold cur;have hl:((ls.take k).map (marks [x])).length=k:=by rw[List.length_map,List.length_take];omega
 rw[List.getElem?_append_right (by omega),hl,Nat.sub_self,List.getElem?_drop,Nat.add_zero]
theorem zzbba(ls:List Line)(x:Nat×Nat×Nat){k:Nat}{t:Line}(hk:ls[k]? = some t):cur ls x (k+1)=(cur ls x k).modify k (λ_=>marks [x] t):=by
 have hkl:k<ls.length:=(List.getElem?_eq_some_iff.1 hk).1;have hd:ls.drop k=t::ls.drop (k+1):=by
  rw[List.drop_eq_getElem_cons hkl];rw[List.getElem?_eq_getElem hkl] at hk;injection hk with hk
  rw[hk]
 have ht:ls.take (k+1)=ls.take k++[t]:=by rw[List.take_add_one,hk];rfl
 have hl:((ls.take k).map (marks [x])).length=k:=by rw[List.length_map,List.length_take];omega
 unfold cur;rw[ht,hd,List.map_append,List.append_assoc];generalize (ls.take k).map (marks [x])=A at hl ⊢;generalize ls.drop (k+1)=R;rw[<-hl];clear hl
 induction A with
 | nil=>rfl
 | cons a A ih =>
  rw[List.cons_append,List.cons_append,List.length_cons,List.modify_succ_cons,ih]
theorem zzbcr(l:List Line){k:Nat}{t:Line}(hk:l[k]? = some t):l.modify k (λ_=>t)=l:=by
 induction l generalizing k with
 | nil=>simp at hk
 | cons a l ih =>
  cases k with
  | zero =>
   simp only[List.getElem?_cons_zero,Option.some.injEq] at hk;subst hk;rfl
  | succ k =>
   rw[List.getElem?_cons_succ] at hk;rw[List.modify_succ_cons,ih hk]
theorem zzbbb(ls:List Line)(x:Nat×Nat×Nat){k:Nat}{t:Line}(hk:ls[k]? = some t)(h:¬ (x.1=3/\x.2.1=t.id)):cur ls x (k+1)=cur ls x k:=by
 have e:marks [x] t=t:=by
  have:brk [x] t.id=false:=by
   unfold brk;simp only[List.any_cons,List.any_nil,Bool.or_false,Bool.and_eq_false_iff,beq_eq_false_iff_ne];by_cases h3:x.1=3
   ·exact .inr λq=>h ⟨h3,q⟩
   ·exact .inl h3
  unfold marks;rw[this,Bool.or_false]
 rw[zzbba ls x hk,e];exact zzbcr _ ((zzbir ls x (List.getElem?_eq_some_iff.1 hk).1).trans hk)
theorem zzbis(ls:List Line)(x:Nat×Nat×Nat){k:Nat}{t:Line}(hk:ls[k]? = some t)(h3:x.1=3)(h4:x.2.1=t.id):cur ls x (k+1)=(cur ls x k).modify k (λ_ => { t with reset:=true }):=by
 have e:marks [x] t = { t with reset:=true }:=by
  have:brk [x] t.id=true:=by unfold brk;simp[h3,h4]
  unfold marks;rw[this,Bool.or_true]
 rw[zzbba ls x hk,e]
theorem zzbfx(ev:List (Nat×Nat×Nat)){i:Nat}{x:Nat×Nat×Nat}(hx:ev[i]? = some x)(ls:List Line):(ls.map (marks (ev.take i))).map (marks [x])=ls.map (marks (ev.take (i+1))):=by
 rw[List.map_map];congr 1;funext t
 have ht:ev.take (i+1)=ev.take i++[x]:=by rw[List.take_add_one,hx];rfl
 show marks [x] (marks (ev.take i) t)=_
 unfold marks brk;rw[ht,List.any_append];simp only[Bool.or_assoc]
theorem zzbfy(ls:List Line):ls.map (marks [])=ls:=by
 have:marks []=id:=by
  funext t
  show ({ t with reset:=t.reset || false }:Line)=t
  rw[Bool.or_false]
 rw[this,List.map_id]
theorem zzbkp(ev:List (Nat×Nat×Nat)){ls:List Line}{k:Nat}{t:Line}(h:(ls.map (marks ev))[k]? = some t):∃ s,ls[k]? = some s/\t.id=s.id/\t.h=s.h:=by
 rw[List.getElem?_map] at h;cases hs:ls[k]? with
 | none=>rw[hs] at h;cases h
 | some s =>
  rw[hs,Option.map_some,Option.some.injEq] at h;exact⟨s,rfl,by rw[<-h];rfl,by rw[<-h];rfl⟩
def HS(wb:World)(gl gx gy:Nat)(dx dy:Ds)(vu vd:Value)(al ol cl:Nat)(up down:Bytes)(lv:Bool)(ve:Value)(ev:List (Nat×Nat×Nat))(n:Nat)(ls:List Line)(A:Option (Value×zal))(w:World):Prop :=
 ∃ own xs,ls.length=n/\Sep wb w own/\zak own gl gx gy dx dy vu vd (.slice (some ⟨al,ol,none⟩) n cl) up down n xs lv/\LS (upd own (.e (3*n)) .none) ls xs/\own .o = .row 109 3 ve ev.length (zcf ev)/\own (.e (3*n))=(match A with
  | none => .none
  | some (vo,hm) => .row 122 2 vo hm.length (zap hm))
section
variable {wb:World} {gl gx gy:Nat} {dx dy:Ds} {vu vd:Value} {al ol cl:Nat} {up down:Bytes} {lv:Bool} {ve:Value} {ev:List (Nat×Nat×Nat)} {n:Nat} {ls:List Line} {w:World}
theorem HS.ext{A:Option (Value×zal)}{w':World}(h:HS wb gl gx gy dx dy vu vd al ol cl up down lv ve ev n ls A w)(e:Ext w w'):HS wb gl gx gy dx dy vu vd al ol cl up down lv ve ev n ls A w':=by obtain⟨own,xs,h0,h1,h2⟩:=h;exact⟨own,xs,h0,h1.ext e,h2⟩
theorem HS.drop{A:Option (Value×zal)}(h:HS wb gl gx gy dx dy vu vd al ol cl up down lv ve ev n ls A w):HS wb gl gx gy dx dy vu vd al ol cl up down lv ve ev n ls none w:=by
 obtain⟨own,xs,h0,h1,h2,h3,h4,h5⟩:=h;refine⟨upd own (.e (3*n)) .none,xs,h0,h1.drop _,h2.alike (λn' hn _=>zac _ _ (hn _)),h3.alike (λi => ?_),(zac _ _ (λe=>by cases e)).trans h4,zag _ _ _⟩;by_cases e:i=3*n
 ·rw[e,zag,zag]
 ·have e':LN.e i≠LN.e (3*n):=λq=>e (by injection q)
  rw[zac _ _ e']
theorem HS.c4{A:Option (Value×zal)}(h:HS wb gl gx gy dx dy vu vd al ol cl up down lv ve ev n ls A w):w.cell? ⟨gl,4,none⟩=some (.slice (some ⟨al,ol,none⟩) n cl):=by obtain⟨own,xs,h0,h1,h2,-⟩:=h;exact h2.cc h1 4
theorem HS.evAt{A:Option (Value×zal)}{ae oe ce ne:Nat}(hne:ev.length=ne)(h:HS wb gl gx gy dx dy vu vd al ol cl up down lv (.slice (some ⟨ae,oe,none⟩) ne ce) ev n ls A w){i k id c:Nat}(hi:ev[i]? = some (k,id,c)):w.cell? ⟨ae,oe+i*3,none⟩=some (.int .i64 (k:Int))/\w.cell? ⟨ae,oe+i*3+1,none⟩=some (.int .i64 (id:Int)):=by subst hne;obtain⟨own,xs,h0,h1,h2,h3,h4,h5⟩:=h;have hil:i<ev.length:=(List.getElem?_eq_some_iff.1 hi).1;have hO:=(show OwnAt w 109 3 _ ev.length (zcf ev) from h1.get h4);obtain⟨e1,e2⟩:=zuy ev i k id c hi;exact⟨(hO.readL (i*3) (by omega)).trans e1,by rw[Nat.add_assoc];exact(hO.readL (i*3+1) (by omega)).trans e2⟩
theorem HS.lineAt{A:Option (Value×zal)}(h:HS wb gl gx gy dx dy vu vd al ol cl up down lv ve ev n ls A w){k:Nat}{t:Line}(hk:ls[k]? = some t):w.cell? ⟨al,ol+k*10,none⟩=some (.int .i64 (t.id:Int))/\(∃ a c,w.cell? ⟨al,ol+k*10+9,none⟩=some (.slice a t.h.length c)/\zbq w (.slice a t.h.length c) t.h)/\w.frozen? ⟨al,ol+k*10+8,none⟩=false /\ ∃ b,w.cell? ⟨al,ol+k*10+8,none⟩=some (.bool b):=by
 obtain⟨own,xs,h0,h1,h2,h3,h4,h5⟩:=h;have hkl:k<ls.length:=(List.getElem?_eq_some_iff.1 hk).1;obtain⟨vc,vs,vh,q1,q2,q3,q4⟩:=h3.at_ k t hk;have e3:LN.e (3*k)≠LN.e (3*n):=λq=>by injection q with q;omega
 rw[zac _ _ e3] at q4;have hO:=(show OwnAt w 122 2 vh t.h.length (zap t.h) from h1.get q4);obtain⟨a,c,rfl,-,-⟩:=hO.slice;have r:∀ j,j<10->w.cell? ⟨al,ol+k*10+j,none⟩=(zik t vc vs (.slice a t.h.length c))[j]?:=λj hj=>by rw[<-q1 j hj,Nat.add_assoc,show k*10+j=10*k+j by omega];exact(h2.line h1 (10*k+j) (by omega)).1
 refine⟨r 0 (by omega),⟨a,c,r 9 (by omega),hO.isPairs⟩,?_,t.reset,r 8 (by omega)⟩;rw[Nat.add_assoc];exact(h2.line h1 (k*10+8) (by omega)).2
theorem HS.answer{vo:Value}{hm:zal}(h:HS wb gl gx gy dx dy vu vd al ol cl up down lv ve ev n ls (some (vo,hm)) w):zbq w vo hm:=by obtain⟨own,xs,h0,h1,h2,h3,h4,h5⟩:=h;exact OwnAt.isPairs (h1.get h5)
theorem HS.reset{A:Option (Value×zal)}(h:HS wb gl gx gy dx dy vu vd al ol cl up down lv ve ev n ls A w){k:Nat}{t:Line}(hk:ls[k]? = some t):HS wb gl gx gy dx dy vu vd al ol cl up down lv ve ev n (ls.modify k (λ_ => { t with reset:=true })) A (w.setCell ⟨al,ol+k*10+8,none⟩ (.bool true)):=by
 obtain⟨own,xs,h0,h1,h2,h3,h4,h5⟩:=h;have s1:=h1.setRow h2.nl (10*k+8) (.bool true);have e8:ol+(10*k+8)=ol+k*10+8:=by omega
 rw[e8] at s1;have ne:∀ i,LN.e i≠LN.lines:=λi e=>by cases e
 have key:∀ i,upd (upd own .lines (.row 45 10 (.slice (some ⟨al,ol,none⟩) n cl) n (xs.set (10*k+8) (.bool true)))) (.e (3*n)) .none (.e i)=upd own (.e (3*n)) .none (.e i):=λi=>by
  by_cases e:i=3*n
  ·rw[e,zag,zag]
  ·have e':LN.e i≠LN.e (3*n):=λq=>e (by injection q)
   rw[zac _ _ e',zac _ _ e',zac _ _ (ne i)]
 refine⟨_,xs.set (10*k+8) (.bool true),by rw[List.length_modify];exact h0,s1,⟨h2.ex.updO (λ_ e=>by cases e) _,h2.ey.updO (λ_ e=>by cases e) _,(zac _ _ (λe=>by cases e)).trans h2.lk,(zac _ _ (λe=>by cases e)).trans h2.nu,(zac _ _ (λe=>by cases e)).trans h2.nd,zag _ _ _⟩,?_,(zac _ _ (λe=>by cases e)).trans h4,(zac _ _ (λe=>by cases e)).trans h5⟩;exact h3.setC hk 8 (by omega) (.bool true) (λ_ => { t with reset:=true }) key rfl rfl rfl (λ_ _ _=>rfl)
theorem zzbit(c:Bool)(h:HS wb gl gx gy dx dy vu vd al ol cl up down lv ve ev n ls none w)(hf:(zdj c dx dy).Fits 0)(id:Nat)(hid:id<=65535) :
  Calls Tryz.prog 31 #[.pointer (some ⟨if c then gx else gy,0,none⟩),.int .i64 (id:Int)] w λe w' => ∃ (a:Option Addr) (k:Nat) (er:Int) (hm:zal),e = .returned (.tuple #[.slice a hm.length k,.int .i64 er])/\HS wb gl gx gy dx dy vu vd al ol cl up down lv ve ev n ls (some (.slice a hm.length k,hm)) w'/\(((zdj c dx dy).headers? (id:Int)=none/\hm=[])\/((zdj c dx dy).headers? (id:Int)=some hm/\er=0)):=by
 obtain⟨own,xs,h0,h1,h2,h3,h4,h5⟩:=h;have main:∀ (e:Ending) (w':World) (own':LN->Res),Sep wb w' own'->zak own' gl gx gy dx dy vu vd (.slice (some ⟨al,ol,none⟩) n cl) up down n xs lv->(∀ n',n' = .o\/(∃ i,i≠3*n/\n' = .e i)->own' n'=own n') ->
   (((zdj c dx dy).headers? (id:Int)=none/\e = .returned (.tuple #[.slice none 0 0,.int .i64 6])/\own' (.e (3*n)) = .none)\/(∃ hd vo,(zdj c dx dy).headers? (id:Int)=some hd/\e = .returned (.tuple #[vo,.int .i64 0])/\own' (.e (3*n)) = .row 122 2 vo hd.length (zap hd))) ->
   ∃ (a:Option Addr) (k:Nat) (er:Int) (hm:zal),e = .returned (.tuple #[.slice a hm.length k,.int .i64 er])/\HS wb gl gx gy dx dy vu vd al ol cl up down lv ve ev n ls (some (.slice a hm.length k,hm)) w'/\(((zdj c dx dy).headers? (id:Int)=none/\hm=[])\/((zdj c dx dy).headers? (id:Int)=some hm/\er=0)):=by
  intro e w' own' S L E hc;have key:∀ i,upd own' (.e (3*n)) .none (.e i)=upd own (.e (3*n)) .none (.e i):=λi=>by
   by_cases e:i=3*n
   ·rw[e,zag,zag]
   ·have e':LN.e i≠LN.e (3*n):=λq=>e (by injection q)
    rw[zac _ _ e',zac _ _ e'];exact E _ (.inr ⟨i,e,rfl⟩)
  rcases hc with ⟨q1,rfl,q3⟩|⟨hd,vo,q1,rfl,q3⟩
  ·refine⟨none,0,6,[],rfl,⟨upd own' (.e (3*n)) (.row 122 2 (.slice none 0 0) 0 []),xs,h0,S.nilRow _ _ _,L.alike (λn' hn _=>zac _ _ (hn _)),h3.alike (λi => ?_),?_,zag _ _ _⟩,.inl ⟨q1,rfl⟩⟩
   ·rw[<-key i];by_cases e:i=3*n
    ·rw[e,zag,zag]
    ·have e':LN.e i≠LN.e (3*n):=λq=>e (by injection q)
     rw[zac _ _ e',zac _ _ e',zac _ _ e']
   ·rw[zac _ _ (λe=>by cases e)];exact(E _ (.inl rfl)).trans h4
  ·obtain⟨a,k,rfl,-,-⟩:=(show OwnAt w' 122 2 vo hd.length (zap hd) from S.get q3).slice;exact⟨a,k,0,hd,rfl,⟨own',xs,h0,S,L,h3.alike key,(E _ (.inl rfl)).trans h4,q3⟩,.inr ⟨q1,rfl⟩⟩
 cases c
 ·refine(zgf h2.ey h1 hf (id:Int) (by omega) (by omega) (.e (3*n)) (λ_ e=>by cases e) h5).mono ?_;rintro e w' ⟨own',S,X,E,hc⟩;refine main e w' own' S (h2.withY X (λn' a1 _ a3=>E n' (a1 _) a3)) (λn' hn=>E n' ?_ ?_) hc
  ·rcases hn with rfl|⟨i,hi,rfl⟩
   ·exact λe=>by cases e
   ·exact λe=>hi (by injection e)
  ·rcases hn with rfl|⟨i,hi,rfl⟩
   ·exact λ_ e=>by cases e
   ·exact λ_ e=>by cases e
 ·refine(zgf h2.ex h1 hf (id:Int) (by omega) (by omega) (.e (3*n)) (λ_ e=>by cases e) h5).mono ?_;rintro e w' ⟨own',S,X,E,hc⟩;refine main e w' own' S (h2.withX X (λn' a1 _ a3=>E n' (a1 _) a3)) (λn' hn=>E n' ?_ ?_) hc
  ·rcases hn with rfl|⟨i,hi,rfl⟩
   ·exact λe=>by cases e
   ·exact λe=>hi (by injection e)
  ·rcases hn with rfl|⟨i,hi,rfl⟩
   ·exact λ_ e=>by cases e
   ·exact λ_ e=>by cases e
end
theorem zzbkq{own:LN->Res}{gl gx gy:Nat}{dx dy:Ds}{vu vd vl:Value}{up down:Bytes}{ls:List Line}{xs:List Value}{lv:Bool}{wb w:World}(c:Bool)(h1:Sep wb w own)(h2:zak own gl gx gy dx dy vu vd vl up down ls.length xs lv)(h3:LS own ls xs)(h5:1<=ls.length)(h99:ls.length<=99) :
  Calls Tryz.prog 44 #[.pointer (some ⟨if c then gx else gy,0,none⟩)] w λe w' => ∃ (a:Option Addr) (k al ol cl:Nat),e = .returned (.slice a (zdj c dx dy).ev.length k)/\(0<(zdj c dx dy).ev.length -> ∃ b o,a=some ⟨b,o,none⟩)/\HS wb gl gx gy (zob c dx) (zoc c dy) vu vd al ol cl up down lv (.slice a (zdj c dx dy).ev.length k) (zdj c dx dy).ev ls.length ls none w':=by
 obtain⟨al,ol,cl,hv,-⟩:=h2.linesV h1 (by omega);subst hv;have main:∀ (ve:Value) (w':World) (own':LN->Res) (l:List (Nat×Nat×Nat)),Sep wb w' own'->zak own' gl gx gy (zob c dx) (zoc c dy) vu vd (.slice (some ⟨al,ol,none⟩) ls.length cl) up down ls.length xs lv->own' .o = .row 109 3 ve l.length (zcf l)->(∀ i,own' (.e i)=own (.e i)) ->
   ∃ (a:Option Addr) (k al ol cl:Nat),(Ending.returned ve = .returned (.slice a l.length k))/\(0<l.length -> ∃ b o,a=some ⟨b,o,none⟩)/\HS wb gl gx gy (zob c dx) (zoc c dy) vu vd al ol cl up down lv (.slice a l.length k) l ls.length ls none w':=by
  intro ve w' own' l S L n2 E;have hO:=(show OwnAt w' 109 3 ve l.length (zcf l) from S.get n2);obtain⟨a,k,rfl,-,-⟩:=hO.slice;have hfr:own' (.e (3*ls.length)) = .none:=(E _).trans (h3.free _ (Nat.le_refl _) (by omega));refine⟨a,k,al,ol,cl,rfl,λh0 => ?_,own',xs,rfl,S,L,h3.alike (λi => ?_),n2,hfr⟩
  ·obtain⟨b,o,k',e,-⟩:=zgp hO h0;simp only[Value.slice.injEq] at e;exact⟨b,o,e.1⟩
  ·by_cases e:i=3*ls.length
   ·rw[e,zag];exact(h3.free _ (Nat.le_refl _) (by omega)).symm
   ·have e':LN.e i≠LN.e (3*ls.length):=λq=>e (by injection q)
    rw[zac _ _ e'];exact E i
 cases c
 ·refine(zrl h2.ey h1 .o (λ_ e=>by cases e)).mono ?_;rintro e w' ⟨ve,own',rfl,S,X,n2,E⟩;exact main ve w' own' _ S (h2.withY X (λn' _ a2 a3=>E n' a2 a3)) n2 (λi=>E _ (λe=>by cases e) (λ_ e=>by cases e))
 ·refine(zrl h2.ex h1 .o (λ_ e=>by cases e)).mono ?_;rintro e w' ⟨ve,own',rfl,S,X,n2,E⟩;exact main ve w' own' _ S (h2.withX X (λn' _ a2 a3=>E n' a2 a3)) n2 (λi=>E _ (λe=>by cases e) (λ_ e=>by cases e))
theorem HS.hold{wb:World}{gl gx gy:Nat}{dx dy:Ds}{vu vd:Value}{al ol cl:Nat}{up down:Bytes}{lv:Bool}{ve:Value}{ev:List (Nat×Nat×Nat)}{n:Nat}{ls:List Line}{w:World}{p m L S:Nat}{Q:Ds->Ds->List Line->Res->Prop}(h:HS wb gl gx gy dx dy vu vd al ol cl up down lv ve ev n ls none w)(hb:SB ls S)(hn:1<=n)(H:TD true dx dy up down ls p m L)(hQ:∀ R,Q dx dy ls R):zbz wb gl lv p m L S Q w:=by
 obtain⟨own,xs,h0,h1,h2,h3,h4,h5⟩:=h;subst h0;refine⟨own,gx,gy,dx,dy,vu,vd,_,up,down,ls,xs,h1,h2,h3.alike (λi => ?_),hb,hn,H,hQ _⟩;by_cases e:i=3*ls.length
 ·rw[e,zag];exact h5
 ·have e':LN.e i≠LN.e (3*ls.length):=λq=>e (by injection q)
  rw[zac _ _ e']
theorem SB.marks{ls:List Line}{S:Nat}(h:SB ls S)(ev:List (Nat×Nat×Nat)):SB (ls.map (marks ev)) S:=λt ht=>by obtain⟨s,hs,rfl⟩:=List.mem_map.1 ht;exact h s hs
end Go.Proofs.YtoijpogadkogcaaGreat
