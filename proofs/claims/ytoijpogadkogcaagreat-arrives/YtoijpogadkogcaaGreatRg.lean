import Derived.Test.YtoijpogadkogcaaGreatRf
namespace Go.Proofs.YtoijpogadkogcaaGreat
variable {A B:Cs} {U D CA CB P:List Fr} {w wA wB:Nat->Way} {r:Nat->Bool} {h:Nat->zal} {f:Fr}
def zcu(w:Nat->Way)(s:Nat)(x:Way):Nat->Way:=λk=>if k=s then x else w k
theorem zfd(w:Nat->Way)(s:Nat)(x:Way):zcu w s x s=x:=by simp[zcu]
theorem zjo(w:Nat->Way)(s:Nat)(x:Way)(k:Nat)(hk:k≠s):zcu w s x k=w k:=by simp[zcu,hk]
theorem Sys.says(S:Sys A B U D CA CB wA wB r h){s i:Nat}(hi:al A.l s=some i)(hg:(vl A.l s).gone=false)(he:(vl A.l s).ending=false)(x:Bytes)(en:Bool)(wt:Bool)(hwt:(vl A.l s).head≠[]->wt=true) :
  Sys { A with l:=A.l.modify i (λt => { t with bytes:=t.bytes++x,ending:=en }),ring:=Cs.ringOf A.ring s wt } B U D CA CB (zcu wA s { (wA s) with sent:=(wA s).sent++x,ended:=(wA s).ended || en }) wB r h:=by
 have hrs:(vl A.l s).reset=false/\(vl A.l s).coming=false:=by unfold St.gone at hg;exact Bool.or_eq_false_iff.1 hg
 have hmine:(vl A.l s).mine=false:=by
  cases hm:(vl A.l s).mine with
  | false=>rfl
  | true =>
   rcases (S.ab.e2 s hm).2 with h1|h1
   ·rw[he] at h1;simp at h1
   ·rw[hrs.1] at h1;simp at h1
 generalize hFe:(λt:St => { t with bytes:=t.bytes++x,ending:=en })=F;have hF:∀ t,(F t).id=t.id:=λt=>by rw[<-hFe]
 have hv:∀ y,vl (A.l.modify i F) y=if y=s then F (vl A.l s) else vl A.l y:=zbo A.l s i F hF hi
 have hvs:vl (A.l.modify i F) s = { vl A.l s with bytes:=(vl A.l s).bytes++x,ending:=en }:=by rw[hv,if_pos rfl,<-hFe]
 have hvn:∀ y,y≠s->vl (A.l.modify i F) y=vl A.l y:=λy hy=>by rw[hv,if_neg hy]
 have hh:=zci A.l s i F hF hi;obtain⟨ru,rh⟩:=zvu A.l (A.l.modify i F) A.ring s wt (λy hy=>by rw[hvn y hy]) (.inr ⟨by rw[hvs],hwt⟩) S.ab.ringUp S.ab.ringHas;obtain⟨f1,f2⟩:=S.ab.e1 s hmine;refine⟨?_,?_⟩
 ·refine S.ab.writes1 s { A with l:=A.l.modify i F,ring:=Cs.ringOf A.ring s wt } D CA _ rfl rfl S.ab.ctl S.ab.ctlOk hh hvn rfl rfl (λy hy=>zjo _ _ _ y hy) ru rh (λy hy=>by
    rcases zlr _ _ _ y hy with h1|h1
    ·exact S.ab.ringIn y h1
    ·rw[h1];exact zem A.l s i hi) (λ_=>zem A.l s i hi) (λ_ => ?_) ?_ ?_ S.ab.i2 (λ_ _ _=>rfl) (λ_ => ?_) (λh1 => ?_) (λh1 => ?_) (λh1 => ?_) ?_ (λh1 => ?_) ?_ ?_
  ·show (vl (A.l.modify i F) s).head=_/\(vl (A.l.modify i F) s).reset=_;rw[hvs];exact⟨rfl,rfl⟩
  ·show (vl (A.l.modify i F) s).mine=_;rw[hvs]
  ·show _->(vl (A.l.modify i F) s).head=_->((vl (A.l.modify i F) s).reset=_\/_<(vl (A.l.modify i F) s).code)->_;rw[hvs];exact S.ab.introd s
  ·show (vl (A.l.modify i F) s).send+_<=_;rw[hvs];exact Nat.le_refl _
  ·have h1:(vl (A.l.modify i F) s).mine=true:=h1;rw[hvs] at h1;have h1:(vl A.l s).mine=true:=h1;rw[hmine] at h1;simp at h1
  ·have h1:(vl (A.l.modify i F) s).reset=true:=h1;rw[hvs] at h1;have h1:(vl A.l s).reset=true:=h1;rw[hrs.1] at h1;simp at h1
  ·obtain⟨rest,a1,a2,-⟩:=S.ab.q s h1;refine⟨rest++x,?_,λ_ => ?_,λh2 => ?_⟩
   ·rw[zfd]
    show ((wA s).sent++x).drop (wA s).read=_
    rw[List.drop_append_of_le_length (S.ab.q0 s),a1];simp only[List.append_assoc]
   ·show _=(vl (A.l.modify i F) s).bytes
    rw[hvs,a2 hrs.1]
   ·rw[f1,f2] at h2;simp at h2
  ·rw[zfd]
   show (wA s).read<=((wA s).sent++x).length
   have:=S.ab.q0 s
   rw[List.length_append];omega
  ·have h1:(vl (A.l.modify i F) s).ending=true:=h1;rw[hvs] at h1;have h1:en=true:=h1;rw[zfd]
   show ((wA s).ended || en)=true
   rw[h1,Bool.or_true]
  ·rw[zfd]
  ·show _->_->_->_->(vl (A.l.modify i F) s).head≠_\/_;rw[hvs];exact S.ab.z2 s
 ·refine S.ba.reader { A with l:=A.l.modify i F,ring:=Cs.ringOf A.ring s wt } U CA rfl hh (λy => ?_) rfl rfl rfl rfl rfl ?_ (λe he => .inl he) (λe he _=>he) λ_=>rfl
  ·show zhd _ (vl (A.l.modify i F) y)
   by_cases e:y=s
   ·subst e;rw[hvs];exact⟨rfl,rfl,rfl,rfl,rfl,rfl,λhc=>by rw[hrs.2] at hc;simp at hc⟩
   ·rw[hvn y e];exact zhd.rfl' _
  ·have:=zfl A.l i F (zcs A.l s i hi).1
   rw[<-zdg A.l s i hi,<-hFe] at this
   show tot (A.l.modify i F)=tot A.l
   rw[<-hFe];dsimp only at this;omega
theorem zuo(t:St)(x:Bytes)(en:Bool)(ht:t.head≠[]):({ t with bytes:=t.bytes++x,ending:=en }:St).waits=true:=by
 unfold St.waits
 have:=List.length_pos_iff.2 ht
 simp[this]
theorem zky(c:Cs)(s i:Nat)(F:St->St)(hF:∀ t,(F t).id=t.id)(hi:al c.l s=some i):(c.mod i F).rings i = { c with l:=c.l.modify i F,ring:=Cs.ringOf c.ring s (F (vl c.l s)).waits }:=by
 have:(c.mod i F).st i=F (vl c.l s):=by have h1:(c.mod i F).st i=vl (c.l.modify i F) s:=(zdg (c.l.modify i F) s i (by rw[zen _ _ _ hF];exact hi)).symm;rw[h1,zbo c.l s i F hF hi,if_pos rfl]
 unfold Cs.rings;rw[this,hF,zgt];rfl
theorem zzbaf(l:List St)(i:Nat)(f g:St->St)(hl:i<l.length)(hfg:f (l.getD i { id:=0 })=g (l.getD i { id:=0 })):l.modify i f=l.modify i g:=by
 induction l generalizing i with
 | nil=>simp at hl
 | cons t l ih =>
  cases i with
  | zero=>rw[List.modify_zero_cons,List.modify_zero_cons];simp only[List.getD_cons_zero] at hfg;rw[hfg]
  | succ i=>rw[List.modify_succ_cons,List.modify_succ_cons,ih i (by simpa using hl) (by simpa using hfg)]
theorem Sys.write(S:Sys A B U D CA CB wA wB r h){s i:Nat}(hi:al A.l s=some i)(hg:(vl A.l s).gone=false)(he:(vl A.l s).ending=false)(data:Bytes) :
  Sys (A.write i data) B U D CA CB (zcu wA s { (wA s) with sent:=(wA s).sent++data.take (256-(vl A.l s).bytes.length) }) wB r h:=by
 have T:=S.says hi hg he (data.take (256-(vl A.l s).bytes.length)) false _ (zuo (vl A.l s) (data.take (256-(vl A.l s).bytes.length)) false);rw[Bool.or_false] at T;have e2:({ vl A.l s with bytes:=(vl A.l s).bytes++data.take (256-(vl A.l s).bytes.length) }:St) = { vl A.l s with bytes:=(vl A.l s).bytes++data.take (256-(vl A.l s).bytes.length),ending:=false }:=by rw[<-he]
 have e:A.l.modify i (λt => { t with bytes:=t.bytes++data.take (256-t.bytes.length) })=A.l.modify i (λt => { t with bytes:=t.bytes++data.take (256-(vl A.l s).bytes.length),ending:=false }):=by refine zzbaf _ _ _ _ (zcs A.l s i hi).1 ?_;rw[<-zdg A.l s i hi];exact e2
 have e3:A.write i data = { A with l:=A.l.modify i (λt => { t with bytes:=t.bytes++data.take (256-(vl A.l s).bytes.length),ending:=false }),ring:=Cs.ringOf A.ring s ({ vl A.l s with bytes:=(vl A.l s).bytes++data.take (256-(vl A.l s).bytes.length),ending:=false }:St).waits }:=by unfold Cs.write;rw[zky A s i (λt => { t with bytes:=t.bytes++data.take (256-t.bytes.length) }) (λ_=>rfl) hi,e];dsimp only;rw[e2]
 rw[e3];exact T
theorem Sys.ended(S:Sys A B U D CA CB wA wB r h){s i:Nat}(hi:al A.l s=some i)(hg:(vl A.l s).gone=false)(he:(vl A.l s).ending=false) :
  Sys (A.ended i) B U D CA CB (zcu wA s { (wA s) with ended:=true }) wB r h:=by
 have T:=S.says hi hg he [] true _ (zuo (vl A.l s) [] true);rw[Bool.or_true,List.append_nil] at T;unfold Cs.ended;rw[zky A s i (λt => { t with ending:=true }) (λ_=>rfl) hi];simp only[List.append_nil] at T;exact T
theorem Sys.knows(S:Sys A B U D CA CB wA wB r h){r':Nat->Bool}(hr:∀ s,r s=true->r' s=true):Sys A B U D CA CB wA wB r' h:=⟨S.ab.knows hr,S.ba.knows hr⟩
theorem Sys.asked(S:Sys A B U D CA CB wA wB r h)(hr:∀ s c,(3,s,c)∈A.events->r s=true):Sys A.asked B U D CA CB wA wB r h:=by
 refine⟨S.ab.writer A.asked D CA rfl rfl S.ab.ctl S.ab.ctlOk (λ_=>Iff.rfl) (λ_=>zez.rfl' _) rfl rfl rfl rfl (λ_=>rfl),?_⟩;exact { S.ba with
  evs:=λe he=>by simp[Cs.asked] at he
  z:=λs hs=>by
   rcases S.ba.z s hs with h1|⟨c,h1⟩|h1
   ·exact .inl h1
   ·exact .inl (hr s c h1)
   ·exact .inr (.inr h1) }
variable {A B:Cs} {U D CA CB P:List Fr} {w wA wB:Nat->Way} {r:Nat->Bool} {h:Nat->zal} {f:Fr}
theorem Sys.unreadHas(S:Sys A B U D CA CB wA wB r h)(s:Nat)(hr:(vl A.l s).reset=false)(hu:(vl A.l s).unread≠[]):hl B.l s:=by
 refine S.ba.sentHas s λe => ?_;obtain⟨rest,a1,-⟩:=S.ba.q s hr;rw[e,List.drop_nil] at a1
 have:=(List.append_eq_nil_iff.1 a1.symm).1
 exact hu (List.append_eq_nil_iff.1 this).1
theorem Sys.reads(S:Sys A B U D CA CB wA wB r h){s i:Nat}(hi:al A.l s=some i)(hg:(vl A.l s).gone=false)(n:Nat)(hn:n<=(vl A.l s).unread.length) :
  (wB s).read+n<=(wB s).sent.length/\(vl A.l s).unread.take n=((wB s).sent.drop (wB s).read).take n /\
  Sys { A with l:=A.l.modify i (λt => { t with unread:=t.unread.drop n,recv:=if (vl A.l s).theirs then t.recv else t.recv+n }),control:=A.control++((if (vl A.l s).theirs then [] else wfs s n)++wfs 0 n).map Fr.enc,recv:=A.recv+n } B U D (CA++((if (vl A.l s).theirs then [] else wfs s n)++wfs 0 n)) CB wA (zcu wB s { (wB s) with read:=(wB s).read+n }) r h:=by
 have hrs:(vl A.l s).reset=false/\(vl A.l s).coming=false:=by unfold St.gone at hg;exact Bool.or_eq_false_iff.1 hg
 obtain⟨rest,q1,q2,q3⟩:=S.ba.q s hrs.1;have hlen:=congrArg List.length q1;simp only[List.length_append,List.length_drop] at hlen;have q0:=S.ba.q0 s;have hhas:=zem A.l s i hi;obtain⟨hs1,hs2,-⟩:=S.ab.ids s hhas;have hun:=zzbhr A.l s;have i1:=S.ba.i1;refine⟨by omega,?_,?_⟩
 ·rw[q1,List.append_assoc,List.take_append_of_le_length hn]
 generalize hFe:(λt:St => { t with unread:=t.unread.drop n,recv:=if (vl A.l s).theirs then t.recv else t.recv+n })=F;have hF:∀ t,(F t).id=t.id:=λt=>by rw[<-hFe]
 have hv:∀ y,vl (A.l.modify i F) y=if y=s then F (vl A.l s) else vl A.l y:=zbo A.l s i F hF hi
 have hvs:vl (A.l.modify i F) s = { vl A.l s with unread:=(vl A.l s).unread.drop n,recv:=if (vl A.l s).theirs then (vl A.l s).recv else (vl A.l s).recv+n }:=by rw[hv,if_pos rfl,<-hFe]
 have hvn:∀ y,y≠s->vl (A.l.modify i F) y=vl A.l y:=λy hy=>by rw[hv,if_neg hy]
 have hh:=zci A.l s i F hF hi;have htot:tot (A.l.modify i F)+n=tot A.l:=by
  have:=zfl A.l i F (zcs A.l s i hi).1
  rw[<-zdg A.l s i hi,<-hFe] at this;dsimp only at this;rw[List.length_drop,hFe] at this;omega
 have hws:win s ((if (vl A.l s).theirs then [] else wfs s n)++wfs 0 n)=(if (vl A.l s).theirs then 0 else n)/\win 0 ((if (vl A.l s).theirs then [] else wfs s n)++wfs 0 n)=n /\ ∀ x,x≠0->x≠s->win x ((if (vl A.l s).theirs then [] else wfs s n)++wfs 0 n)=0:=by
  refine⟨?_,?_,λx h1 h2 => ?_⟩
  ·rw[zbm,zdu 0 n s (by omega)];split
   ·rfl
   ·exact zmu s n (by omega)
  ·rw[zbm,zmu 0 n (by omega)];split
   ·simp[win]
   ·rw[zdu s n 0 (by omega)];omega
  ·rw[zbm,zdu 0 n x h1];split
   ·rfl
   ·exact zdu s n x h2
 have hwok:∀ g∈(if (vl A.l s).theirs then [] else wfs s n)++wfs 0 n,g.Ok/\zeo (hl B.l) g:=by
  intro g hg;rcases List.mem_append.1 hg with hg | hg
  ·split at hg
   ·simp at hg
   ·by_cases hn0:n=0
    ·subst hn0;simp[wfs] at hg
    ·exact zpx s n _ hs2 (by omega) (.inr (S.unreadHas s hrs.1 λe=>by rw[e] at hn;simp at hn;omega)) g hg
  ·exact zpx 0 n _ (by omega) (by omega) (.inl rfl) g hg
 generalize hW:(if (vl A.l s).theirs then [] else wfs s n)++wfs 0 n=W at hws hwok;obtain⟨hw1,hw2,hw3⟩:=hws;refine⟨?_,?_⟩
 ·refine S.ab.writer { A with l:=A.l.modify i F,control:=A.control++W.map Fr.enc,recv:=A.recv+n } D (CA++W) rfl rfl ?_ (λg hg => ?_) hh (λy => ?_) rfl rfl rfl rfl λ_=>rfl
  ·show A.control++_=_;rw[S.ab.ctl,List.map_append]
  ·rcases List.mem_append.1 hg with hg|hg
   ·exact S.ab.ctlOk g hg
   ·exact hwok g hg
  ·show zez _ (vl (A.l.modify i F) y)
   by_cases e:y=s
   ·subst e;rw[hvs];exact⟨rfl,rfl,rfl,rfl,rfl,rfl,rfl⟩
   ·rw[hvn y e];exact zez.rfl' _
 ·refine S.ba.reads1 s { A with l:=A.l.modify i F,control:=A.control++W.map Fr.enc,recv:=A.recv+n } D U (CA++W) (zcu wB s { (wB s) with read:=(wB s).read+n }) rfl hh hvn rfl (λy hy=>zjo _ _ _ y hy) (by rw[zfd]) (zhe.rfl' s D) S.ba.fit (λh0 => ?_) (λx hx => ?_) (λh1 h2 => ?_) (λ_ => ?_) (λe he => .inl he) (λe he=>he) ?_ ?_ (λx h1 h2 => ?_) (λh1 => ?_) (λh1 h2 => ?_) ?_ (λh1 => ?_) (λh1 => ?_) ?_ (by rw[zfd]) (λ_ => ?_) (λh1 => ?_)
  ·obtain⟨a1,a2,a3⟩:=S.ba.now h0;have hne:A.now≠s:=λe=>by rw[e,hrs.2] at a2;simp at a2
   show hl (A.l.modify i F) A.now/\(vl (A.l.modify i F) A.now).coming=true/\_
   rw[hh,hvn _ hne];exact⟨a1,a2,a3⟩
  ·have hx:(vl (A.l.modify i F) x).coming=true:=hx
   show vl (A.l.modify i F) x=_/\_
   by_cases e:x=s
   ·subst e;rw[hvs] at hx;exact absurd hx (by show ¬ (vl A.l x).coming=true;rw[hrs.2];simp)
   ·rw[hvn x e] at hx ⊢;exact S.ba.coming x hx
  ·show (vl (A.l.modify i F) s).headers=_\/(vl (A.l.modify i F) s).headers=_/\((vl (A.l.modify i F) s).coming=_\/(vl (A.l.modify i F) s).reset=_)
   rw[hvs];exact S.ba.hdr s h1 h2
  ·show (vl (A.l.modify i F) s).headers=_;rw[hvs]
  ·show A.recv+n+tot (A.l.modify i F)=150;omega
  ·show B.send+zbp D+win 0 (U++(CA++W))=A.recv+n
   have:=S.ba.i2
   rw[<-List.append_assoc,zbm,hw2];omega
  ·rw[<-List.append_assoc,zbm,hw3 x h1 h2];rfl
  ·have:=S.ba.j s h1
   show _+_+win s (U++(CA++W))+(vl (A.l.modify i F) s).unread.length<=100
   rw[hvs,<-List.append_assoc,zbm,hw1]
   show _+_+_+((vl A.l s).unread.drop n).length<=100
   rw[List.length_drop];split<;>omega
  ·have h1:(vl (A.l.modify i F) s).theirs=false:=h1
   show (vl (A.l.modify i F) s).recv+(vl (A.l.modify i F) s).unread.length=100
   rw[hvs] at h1 ⊢;have h1:(vl A.l s).theirs=false:=h1
   have:=S.ba.jr s h1 hrs.1
   show (if (vl A.l s).theirs then _ else _)+((vl A.l s).unread.drop n).length=100
   rw[h1,List.length_drop,if_neg (by simp)];omega
  ·show Ord s (vl (A.l.modify i F) s).theirs D;rw[hvs];exact S.ba.ord s
  ·show _/\(vl (A.l.modify i F) s).theirs=false;rw[hvs];exact S.ba.e1 s h1
  ·show ∃ rest,_=(vl (A.l.modify i F) s).unread++dat s D++rest/\_/\(_\/(vl (A.l.modify i F) s).theirs=true->_)
   rw[hvs,zfd];refine⟨rest,?_,q2,q3⟩
   show (wB s).sent.drop ((wB s).read+n)=(vl A.l s).unread.drop n++dat s D++rest
   rw[<-List.drop_drop,q1,List.append_assoc,List.drop_append_of_le_length hn,List.append_assoc]
  ·rw[zfd];show (wB s).read+n<=(wB s).sent.length;omega
  ·show hl A.l s/\(_->(vl (A.l.modify i F) s).headers≠[])
   rw[hvs];refine⟨hhas,λho => ?_⟩
   show (vl A.l s).headers≠[]
   rcases S.ba.hdr s hhas ho with h2|h2
   ·rw[h2];exact(zxc _ (S.ab.hp s)).2.1
   ·rcases h2.2 with h3|h3
    ·rw[hrs.2] at h3;simp at h3
    ·rw[hrs.1] at h3;simp at h3
  ·have h1:(vl (A.l.modify i F) s).reset=true:=h1;rw[hvs] at h1;have h1:(vl A.l s).reset=true:=h1;rw[hrs.1] at h1;simp at h1
theorem Sys.read(S:Sys A B U D CA CB wA wB r h){s i:Nat}(hi:al A.l s=some i)(hg:(vl A.l s).gone=false)(most:Nat) :
  ∃ CA',Sys (A.read i most) B U D CA' CB wA (zcu wB s { (wB s) with read:=(wB s).read+min most (vl A.l s).unread.length }) r h:=by
 obtain⟨-,-,T⟩:=S.reads hi hg (min most (vl A.l s).unread.length) (Nat.min_le_right _ _);refine⟨CA++((if (vl A.l s).theirs then [] else wfs s (min most (vl A.l s).unread.length))++wfs 0 (min most (vl A.l s).unread.length)),?_⟩
 ·have e:A.read i most = { A with l:=A.l.modify i (λt => { t with unread:=t.unread.drop (min most (vl A.l s).unread.length),recv:=if (vl A.l s).theirs then t.recv else t.recv+min most (vl A.l s).unread.length }),control:=A.control++((if (vl A.l s).theirs then [] else wfs s (min most (vl A.l s).unread.length))++wfs 0 (min most (vl A.l s).unread.length)).map Fr.enc,recv:=A.recv+min most (vl A.l s).unread.length }:=by
   unfold Cs.read Cs.readN;dsimp only;rw[zca A s i hi,if_neg (by rw[S.ab.fl];simp)];cases ht:(vl A.l s).theirs with
   | true =>
    rw[if_pos rfl,zdh];rfl
   | false =>
    rw[if_neg (by simp),zdh,zdh];have ei:(vl A.l s).id=s:=zgt _ _;rw[ei]
    show Cs.mk _ _ _ _ _ ((A.l.modify i _).modify i _) _ _ _ ((A.control++_)++_) _ _ _ _ _ _ _ _ _ _=_
    rw[List.modify_modify_eq,List.append_assoc,<-List.map_append];rfl
  rw[e];exact T
variable {A B:Cs} {U D CA CB P:List Fr} {w wA wB:Nat->Way} {r:Nat->Bool} {h:Nat->zal} {f:Fr}
theorem zjy(H:Half A B U D CA CB w r h):A.own<A.next/\ownB A.client A.next=true/\(∀ s,ownB A.client s=true->1<=s->s<=A.next->s<=A.own\/s=A.next):=by
 unfold Cs.next;rcases H.ownPar with h0 | h0
 ·rw[if_pos h0];cases hc:A.client with
  | true =>
   rw[if_pos rfl];exact⟨by omega,by simp[ownB],λs _ h2 h3=>by omega⟩
  | false =>
   rw[if_neg (by simp)];refine⟨by omega,by simp[ownB],λs h1 h2 h3 => ?_⟩;by_cases e:s=1
   ·subst e;simp[ownB] at h1
   ·omega
 ·by_cases hz:A.own=0
  ·rw[if_pos hz];cases hc:A.client with
   | true =>
    rw[if_pos rfl];exact⟨by omega,by simp[ownB],λs _ h2 h3=>by omega⟩
   | false =>
    rw[if_neg (by simp)];refine⟨by omega,by simp[ownB],λs h1 h2 h3 => ?_⟩;by_cases e:s=1
    ·subst e;simp[ownB] at h1
    ·omega
  ·rw[if_neg hz];have e2:∀ n,ownB A.client (n+2)=ownB A.client n:=λn=>by
    unfold ownB;rw[Nat.add_mod_right]
   refine⟨by omega,by rw[e2];exact h0,λs h1 _ h3 => ?_⟩;by_cases e:s=A.own+1
   ·exfalso;subst e;unfold ownB at h0 h1
    have:(A.own+1)%2≠A.own%2:=by omega
    cases hc:A.client<;>rw[hc] at h0 h1<;>simp at h0 h1<;>omega
   ·omega
theorem zzbch(l:List St)(t:St)(F:St->St):(l++[t]).modify l.length F=l++[F t]:=by
 induction l with
 | nil=>rfl
 | cons a l ih=>simp only[List.cons_append,List.length_cons,List.modify_succ_cons,ih]
theorem zsr(s:Nat)(b:Bytes)(hb:b≠[]):Cs.heads s b≠[]:=by
 rw[<-zun];obtain⟨fl,r,e,-,-⟩:=zkw s b hb;rw[e,zfg];intro h1
 have:=congrArg List.length h1
 rw[List.length_append,zir] at this;simp at this
theorem zls(c:Cs)(h0:zal)(hp:zbi h0=true):c.opened h0 = { c with own:=c.next,l:=c.l++[{ id:=c.next,head:=Cs.heads c.next (zah h0) }],ring:=Cs.ringOf c.ring c.next true }:=by
 have hw:({ id:=c.next,head:=Cs.heads c.next (zah h0) }:St).waits=true:=by
  unfold St.waits
  have:=List.length_pos_iff.2 (zsr c.next _ (znr h0 hp))
  simp[this]
 have e:(c.l++[({ id:=c.next }:St)]).modify c.l.length (λs => { s with head:=Cs.heads c.next (zah h0) })=c.l++[{ id:=c.next,head:=Cs.heads c.next (zah h0) }]:=zzbch _ _ _;unfold Cs.opened;dsimp only;have e1:Cs.mod (Cs.opens { c with own:=c.next } c.next) c.l.length (λs => { s with head:=Cs.heads c.next (zah h0) }) = { c with own:=c.next,l:=c.l++[{ id:=c.next,head:=Cs.heads c.next (zah h0) }] }:=by
  show Cs.mk _ _ _ _ _ ((c.l++[({ id:=c.next }:St)]).modify c.l.length _) _ _ _ _ _ _ _ _ _ _ _ _ _ _=_
  rw[e];rfl
 rw[e1];have e2:Cs.st { c with own:=c.next,l:=c.l++[{ id:=c.next,head:=Cs.heads c.next (zah h0) }] } c.l.length = { id:=c.next,head:=Cs.heads c.next (zah h0) }:=by unfold Cs.st;simp[List.getD_eq_getElem?_getD]
 unfold Cs.rings;rw[e2,hw]
theorem Sys.opened(S:Sys A B U D CA CB wA wB r h)(h0:zal)(hp:zbi h0=true)(hm:A.next<=99)(r':Nat->Bool)(hr:∀ s,s≠A.next->r' s=r s) :
  Sys (A.opened h0) B U D CA CB wA wB r' (λs=>if s=A.next then h0 else h s):=by
 rw[zls A h0 hp];obtain⟨n1,n2,n3⟩:=zjy S.ab;generalize hN:A.next=N at *;have hE:=zsr N _ (znr h0 hp);generalize hT:({ id:=N,head:=Cs.heads N (zah h0) }:St)=T;have hTid:T.id=N:=by rw[<-hT]
 have hnoA:¬ hl A.l N:=λh1=>by obtain⟨-,-,h3⟩:=S.ab.ids N h1;rw[if_pos n2] at h3;omega
 have hBown:ownB B.client N=false:=by
  have:=zqk S.ab.cl N
  rw[n2] at this;simpa using this
 have hnoB:¬ hl B.l N:=λh1=>hnoA (S.ab.peers N h1 hBown);have hv:∀ x,vl (A.l++[T]) x=if x=N then T else vl A.l x:=λx=>by rw[zjn A.l T (by rw[hTid];exact hnoA),hTid]
 have hvs:vl (A.l++[T]) N = { id:=N,head:=Cs.heads N (zah h0) }:=by rw[hv,if_pos rfl,<-hT]
 have hvn:∀ x,x≠N->vl (A.l++[T]) x=vl A.l x:=λx hx=>by rw[hv,if_neg hx]
 have hvd:=zhc A.l N hnoA;have hh:∀ x,hl (A.l++[T]) x↔hl A.l x\/x=N:=λx=>by rw[zlq A.l T (by rw[hTid];exact hnoA),hTid]
 have hsame:∀ x,∃ b,vl (A.l++[T]) x = { vl A.l x with head:=b }/\(x≠N->b=(vl A.l x).head):=by
  intro x;by_cases e:x=N
  ·subst e;rw[hvs,hvd];exact⟨_,rfl,λh1=>absurd rfl h1⟩
  ·rw[hvn x e];exact⟨_,rfl,λ_=>rfl⟩
 have hvalid:∀ x,hl A.l x\/hl B.l x->x≠N:=λx hx e=>by
  subst e;rcases hx with hx | hx
  ·exact hnoA hx
  ·exact hnoB hx
 have hheadHas:∀ (l:List St) x,(vl l x).head≠[]->hl l x:=λl x hx=>by apply Classical.byContradiction;intro h1;rw[zhc l x h1] at hx;exact hx rfl
 have hNring:N ∉ A.ring:=λh1=>hnoA (S.ab.ringIn N h1);have hring:∀ x,x∈Cs.ringOf A.ring N true↔x∈A.ring\/x=N:=λx=>by unfold Cs.ringOf;simp[hNring]
 have htop:top B.peer U<N:=by
  have hle:∀ (P:List Fr) (p:Nat),p<N->(∀ f∈P,f.kind=1->f.id<N)->top p P<N:=by
   intro P
   induction P with
   | nil=>exact λp hp _=>hp
   | cons g P ih =>
    intro p hp hP;rw[top];refine ih _ ?_ λf hf=>hP f (by simp[hf])
    split
    ·rename_i hk;exact hP g (by simp) hk
    ·exact hp
  refine hle U B.peer (by have:=S.ab.peerLe;omega) λg hg hk => ?_
  obtain⟨a1,a2⟩:=S.ab.opens g hg (by omega);obtain⟨-,-,a3⟩:=S.ab.ids g.id a1;rw[if_pos (a2 (.inl hk))] at a3;omega
 have hp':∀ s,zbi (if s=N then h0 else h s)=true:=λs=>by
  split
  ·exact hp
  ·exact S.ab.hp s
 refine⟨?_,?_⟩
 ·exact {
   fl:=S.ab.fl
   cl:=S.ab.cl
   hp:=hp'
   ctl:=S.ab.ctl
   ctlOk:=S.ab.ctlOk
   fit:=S.ab.fit.hdrs λg hg hk=>by
    show (if g.id=N then h0 else h g.id)=h g.id
    rw[if_neg (hvalid g.id (.inl (S.ab.opens g hg (by omega)).1))]
   now:=S.ab.now
   coming:=S.ab.coming
   ringUp:=by
    show (Cs.ringOf A.ring N true).Pairwise _
    unfold Cs.ringOf;rw[List.pairwise_append];refine⟨?_,by split<;>simp,?_⟩
    ·refine(S.ab.ringUp.sublist List.filter_sublist).imp_of_mem λ{x y} hx hy h1 => ?_;have hx:=S.ab.ringIn x (List.mem_filter.1 hx).1;have hy:=S.ab.ringIn y (List.mem_filter.1 hy).1
     show (vl (A.l++[T]) x).head≠[]->(vl (A.l++[T]) y).head≠[]->_
     rw[hvn x (hvalid x (.inl hx)),hvn y (hvalid y (.inl hy))];exact h1
    ·intro x hx y hy h1 _;have hx:=S.ab.ringIn x (List.mem_filter.1 hx).1;have hy:y=N:=by
      split at hy
      ·exact List.mem_singleton.1 hy
      ·simp at hy
     have h1:(vl (A.l++[T]) x).head≠[]:=h1;rw[hvn x (hvalid x (.inl hx))] at h1;obtain⟨-,-,a3⟩:=S.ab.ids x hx;rw[if_pos (S.ab.headed x h1).1] at a3;omega
   ringHas:=λx hx=>by
    have hx:(vl (A.l++[T]) x).head≠[]:=hx
    show x∈Cs.ringOf A.ring N true
    rw[hring];by_cases e:x=N
    ·exact .inr e
    ·rw[hvn x e] at hx;exact .inl (S.ab.ringHas x hx)
   headed:=λx hx=>by
    have hx:(vl (A.l++[T]) x).head≠[]:=hx
    show _/\_/\(vl (A.l++[T]) x).head=Cs.heads x (zah (if x=N then h0 else h x))/\(vl (A.l++[T]) x).reset=false/\(vl (A.l++[T]) x).mine=false
    by_cases e:x=N
    ·subst e;rw[hvs,if_pos rfl];exact⟨n2,htop,rfl,rfl,rfl⟩
    ·rw[hvn x e] at hx ⊢;rw[if_neg e];exact S.ab.headed x hx
   ids:=λx hx=>by
    show _/\_/\(if ownB A.client x then x<=N else x<=A.peer)
    rcases (hh x).1 hx with h1|h1
    ·obtain⟨a1,a2,a3⟩:=S.ab.ids x h1;refine⟨a1,a2,?_⟩;split
     ·rename_i ho;rw[if_pos ho] at a3;omega
     ·rename_i ho;rw[if_neg ho] at a3;exact a3
    ·rw[h1,if_pos n2];exact⟨by omega,by omega,Nat.le_refl _⟩
   ownAll:=λx h1 h2 h3=>(hh x).2 ((n3 x h2 h1 h3).imp (S.ab.ownAll x h1 h2) id)
   ownMax:=hm
   ownPar:=.inr n2
   ringIn:=λx hx=>(hh x).2 (((hring x).1 hx).imp (S.ab.ringIn x) id)
   peerLe:=by show B.peer<=N;have:=S.ab.peerLe;omega
   introd:=λx hx=>by
    show (vl (A.l++[T]) x).head=_->((vl (A.l++[T]) x).reset=_\/_<(vl (A.l++[T]) x).code)->_
    by_cases e:x=N
    ·subst e;rw[hvs];intro h1;exact absurd h1 hE
    ·rw[hvn x e];exact S.ab.introd x (((hh x).1 hx).resolve_right e)
   opens:=λg hg hk=>⟨(hh _).2 (.inl (S.ab.opens g hg hk).1),(S.ab.opens g hg hk).2⟩
   peers:=λx h1 h2=>(hh x).2 (.inl (S.ab.peers x h1 h2))
   hdr:=λx h1 h2=>by
    show (vl B.l x).headers=(if x=N then h0 else h x)\/_
    rw[if_neg (hvalid x (.inr h1))];exact S.ab.hdr x h1 h2
   evs:=λe he=>by
    obtain⟨a1,a2⟩:=S.ab.evs e he;refine⟨a1,λh1 => ?_⟩;obtain⟨b1,b2⟩:=a2 h1
    show _/\_=(if e.2.1=N then h0 else h e.2.1)
    rw[if_neg (hvalid _ (.inr b1))];exact⟨b1,b2⟩
   i1:=S.ab.i1
   i2:=S.ab.i2
   j:=λx hx=>by
    obtain⟨b,hb,-⟩:=hsame x
    show (vl (A.l++[T]) x).send+_+_+_<=100
    rw[hb];exact S.ab.j x hx
   jr:=S.ab.jr
   ord:=S.ab.ord
   e1:=λx=>by
    obtain⟨b,hb,-⟩:=hsame x
    show (vl (A.l++[T]) x).mine=_->_
    rw[hb];exact S.ab.e1 x
   e2:=λx=>by
    obtain⟨b,hb,-⟩:=hsame x
    show (vl (A.l++[T]) x).mine=_->(vl (A.l++[T]) x).bytes=_/\((vl (A.l++[T]) x).ending=_\/(vl (A.l++[T]) x).reset=_)
    rw[hb];exact S.ab.e2 x
   rst:=λx=>by
    show (vl (A.l++[T]) x).reset=_->(vl (A.l++[T]) x).head=_/\(vl (A.l++[T]) x).bytes=_/\(vl (A.l++[T]) x).ending=_
    by_cases e:x=N
    ·subst e;rw[hvs];intro h1;simp at h1
    ·rw[hvn x e];exact S.ab.rst x
   q:=λx=>by
    obtain⟨b,hb,-⟩:=hsame x
    show _ -> ∃ rest,_/\((vl (A.l++[T]) x).reset=_->rest=(vl (A.l++[T]) x).bytes)/\_
    rw[hb];exact S.ab.q x
   q0:=S.ab.q0
   sentHas:=λx hx=>(hh x).2 (.inl (S.ab.sentHas x hx))
   q2:=λx=>by
    obtain⟨b,hb,-⟩:=hsame x
    show (vl (A.l++[T]) x).ending=_->_
    rw[hb];exact S.ab.q2 x
   q3:=S.ab.q3
   z:=λx hx=>by
    have hxN:x≠N:=λe=>by subst e;rw[zhc B.l x hnoB] at hx;simp at hx
    rw[hr x hxN];exact S.ab.z x hx
   z2:=λx hx ho h1 h2=>by
    show (vl (A.l++[T]) x).head≠_\/_
    by_cases e:x=N
    ·subst e;rw[hvs];exact .inl hE
    ·rw[hvn x e,hr x e];exact S.ab.z2 x (((hh x).1 hx).resolve_right e) ho h1 h2 }
 ·exact {
   fl:=S.ba.fl
   cl:=S.ba.cl
   hp:=hp'
   ctl:=S.ba.ctl
   ctlOk:=λg hg=>⟨(S.ba.ctlOk g hg).1,(S.ba.ctlOk g hg).2.mono λx hx=>(hh x).2 (.inl hx)⟩
   fit:=by
    refine(S.ba.fit.mono λx hx=>(hh x).2 (.inl hx)).hdrs λg hg hk => ?_
    show (if g.id=N then h0 else h g.id)=h g.id
    rw[if_neg (hvalid g.id (.inr (S.ba.opens g hg (by omega)).1))]
   now:=λh1=>by
    obtain⟨a1,a2,a3⟩:=S.ba.now h1
    show hl (A.l++[T]) A.now/\(vl (A.l++[T]) A.now).coming=_/\_
    rw[hvn _ (hvalid _ (.inl a1))];exact⟨(hh _).2 (.inl a1),a2,a3⟩
   coming:=λx hx=>by
    have hx:(vl (A.l++[T]) x).coming=true:=hx
    show vl (A.l++[T]) x=_/\_
    by_cases e:x=N
    ·subst e;rw[hvs] at hx;simp at hx
    ·rw[hvn x e] at hx ⊢;exact S.ba.coming x hx
   ringUp:=S.ba.ringUp
   ringHas:=S.ba.ringHas
   headed:=λx hx=>by
    show _/\_/\_=Cs.heads x (zah (if x=N then h0 else h x))/\_
    rw[if_neg (hvalid x (.inr (hheadHas B.l x hx)))];exact S.ba.headed x hx
   ids:=S.ba.ids
   ownAll:=S.ba.ownAll
   ownMax:=S.ba.ownMax
   ownPar:=S.ba.ownPar
   ringIn:=S.ba.ringIn
   peerLe:=S.ba.peerLe
   introd:=λx h1 h2 h3=>(S.ba.introd x h1 h2 h3).imp (λh4=>(hh x).2 (.inl h4)) id
   opens:=S.ba.opens
   peers:=λx h1 h2=>by
    rcases (hh x).1 h1 with h3|h3
    ·exact S.ba.peers x h3 h2
    ·have h2:ownB A.client x=false:=h2;rw[h3,n2] at h2;simp at h2
   hdr:=λx h1 h2=>by
    have h2:ownB A.client x=false:=h2;have e:x≠N:=λe=>by rw[e,n2] at h2;simp at h2
    show (vl (A.l++[T]) x).headers=(if x=N then h0 else h x)\/(vl (A.l++[T]) x).headers=_/\((vl (A.l++[T]) x).coming=_\/(vl (A.l++[T]) x).reset=_)
    rw[hvn x e,if_neg e];exact S.ba.hdr x (((hh x).1 h1).resolve_right e) h2
   evs:=λe he=>by
    obtain⟨a1,a2⟩:=S.ba.evs e he;refine⟨a1,λh1 => ?_⟩;obtain⟨b1,b2⟩:=a2 h1
    show hl (A.l++[T]) e.2.1/\(vl (A.l++[T]) e.2.1).headers=(if e.2.1=N then h0 else h e.2.1)
    rw[if_neg (hvalid _ (.inl b1)),hvn _ (hvalid _ (.inl b1))];exact⟨(hh _).2 (.inl b1),b2⟩
   i1:=by
    show A.recv+tot (A.l++[T])=150
    rw[zul,<-hT];exact S.ba.i1
   i2:=S.ba.i2
   j:=λx hx=>by
    obtain⟨b,hb,-⟩:=hsame x
    show _+_+_+(vl (A.l++[T]) x).unread.length<=100
    rw[hb];exact S.ba.j x hx
   jr:=λx=>by
    obtain⟨b,hb,-⟩:=hsame x
    show (vl (A.l++[T]) x).theirs=_->(vl (A.l++[T]) x).reset=_->(vl (A.l++[T]) x).recv+(vl (A.l++[T]) x).unread.length=100
    rw[hb];exact S.ba.jr x
   ord:=λx=>by
    obtain⟨b,hb,-⟩:=hsame x
    show Ord x (vl (A.l++[T]) x).theirs _
    rw[hb];exact S.ba.ord x
   e1:=λx=>by
    obtain⟨b,hb,-⟩:=hsame x
    show _->_/\(vl (A.l++[T]) x).theirs=_
    rw[hb];exact S.ba.e1 x
   e2:=S.ba.e2
   rst:=S.ba.rst
   q:=λx=>by
    obtain⟨b,hb,-⟩:=hsame x
    show (vl (A.l++[T]) x).reset=_ -> ∃ rest,_=(vl (A.l++[T]) x).unread++_++rest/\_/\(_\/(vl (A.l++[T]) x).theirs=_->_)
    rw[hb];exact S.ba.q x
   q0:=S.ba.q0
   sentHas:=S.ba.sentHas
   q2:=S.ba.q2
   q3:=λx hx=>by
    obtain⟨b,hb,-⟩:=hsame x
    show hl (A.l++[T]) x/\(_->(vl (A.l++[T]) x).headers≠_)
    rw[hb];exact⟨(hh x).2 (.inl (S.ba.q3 x hx).1),(S.ba.q3 x hx).2⟩
   z:=λx hx=>by
    have hx:(vl (A.l++[T]) x).reset=true:=hx
    show _\/_\/(_/\(vl (A.l++[T]) x).headers=_)
    by_cases e:x=N
    ·subst e;rw[hvs] at hx;simp at hx
    ·rw[hvn x e] at hx ⊢;rw[hr x e];exact S.ba.z x hx
   z2:=λx hx ho h1 h2=>by have h1:¬ hl (A.l++[T]) x:=h1;rw[hh] at h1;rw[hr x (hvalid x (.inr hx))];exact S.ba.z2 x hx ho (λh3=>h1 (.inl h3)) h2 }
theorem Sys.new(n m:Nat)(hn:n<=6)(hm:m<=6)(r:Nat->Bool)(h:Nat->zal)(hp:∀ s,zbi (h s)=true):Sys (Cs.new true n) (Cs.new false m) [] [] [⟨4,0,0,[UInt8.ofNat n]⟩] [⟨4,0,0,[UInt8.ofNat m]⟩] (λ_ => {}) (λ_ => {}) r h:=by
 have hv:∀ x,vl ([]:List St) x = { id:=x }:=λx=>rfl;have hh:∀ x,¬ hl ([]:List St) x:=λx hx=>by simp[hl,gl] at hx
 have half:∀ (c:Bool) (n m:Nat),n<=6->Half (Cs.new c n) (Cs.new (!c) m) [] [] [⟨4,0,0,[UInt8.ofNat n]⟩] [⟨4,0,0,[UInt8.ofNat m]⟩] (λ_ => {}) r h:=by
  intro c n m hn;exact {
   fl:=rfl
   cl:=by show c = !!c;simp
   hp:=hp
   ctl:=rfl
   ctlOk:=λf hf=>by rw[List.mem_singleton.1 hf];exact⟨⟨by simp,by simp,by simp,by simp⟩,.inl ⟨rfl,rfl,.inr ⟨rfl,_,by rw[zel n (by omega)];exact hn,rfl⟩⟩⟩
   fit:=rfl
   now:=λh1=>absurd rfl h1
   coming:=λs hs=>by have hs:(vl ([]:List St) s).coming=true:=hs;rw[hv] at hs;simp at hs
   ringUp:=List.Pairwise.nil
   ringHas:=λs hs=>by have hs:(vl ([]:List St) s).head≠[]:=hs;rw[hv] at hs;exact absurd rfl hs
   headed:=λs hs=>by have hs:(vl ([]:List St) s).head≠[]:=hs;rw[hv] at hs;exact absurd rfl hs
   ids:=λs hs=>absurd hs (hh s)
   ownAll:=λs h1 _ h3=>by have h3:s<=0:=h3;omega
   ownMax:=by show 0<=99;omega
   ownPar:=.inl rfl
   ringIn:=λx hx=>by have hx:x∈([]:List Nat):=hx;simp at hx
   peerLe:=Nat.le_refl _
   introd:=λs hs=>absurd hs (hh s)
   opens:=λf hf=>by simp at hf
   peers:=λs hs=>absurd hs (hh s)
   hdr:=λs hs=>absurd hs (hh s)
   evs:=λe he=>by have he:e∈([]:List (Nat×Nat×Nat)):=he;simp at he
   i1:=rfl
   i2:=rfl
   j:=λs hs=>by
    show (vl ([]:List St) s).send+0+win s [⟨4,0,0,[UInt8.ofNat m]⟩]+(vl ([]:List St) s).unread.length<=100
    rw[hv];simp[win]
   jr:=λs _ _=>by
    show (vl ([]:List St) s).recv+(vl ([]:List St) s).unread.length=100
    rw[hv];rfl
   ord:=λ_=>trivial
   e1:=λs _=>⟨rfl,by show (vl ([]:List St) s).theirs=false;rw[hv]⟩
   e2:=λs hs=>by have hs:(vl ([]:List St) s).mine=true:=hs;rw[hv] at hs;simp at hs
   rst:=λs hs=>by have hs:(vl ([]:List St) s).reset=true:=hs;rw[hv] at hs;simp at hs
   q:=λs _=>⟨[],rfl,λ_=>rfl,λhx=>by
    rcases hx with hx|hx
    ·simp[fin] at hx
    ·have hx:(vl ([]:List St) s).theirs=true:=hx;rw[hv] at hx;simp at hx⟩
   q0:=λ_=>Nat.le_refl _
   sentHas:=λs hs=>absurd rfl hs
   q2:=λs hs=>by have hs:(vl ([]:List St) s).ending=true:=hs;rw[hv] at hs;simp at hs
   q3:=λs hs=>by simp at hs
   z:=λs hs=>by have hs:(vl ([]:List St) s).reset=true:=hs;rw[hv] at hs;simp at hs
   z2:=λs hs=>absurd hs (hh s) }
 exact⟨half true n m hn,half false m n hm⟩
def Kp(c d:Cs):Prop:=d.own=c.own/\d.client=c.client
theorem Kp.rfl'(c:Cs):Kp c c:=⟨rfl,rfl⟩
theorem zfr{c:Cs}{p:Prop}[Decidable p]{a b:Cs×Nat}(ha:Kp c a.1)(hb:Kp c b.1):Kp c (if p then a else b).1:=by
 split
 ·exact ha
 ·exact hb
theorem zss(c:Cs)(i n:Nat):Kp c (c.gives i n):=by unfold Cs.gives;split<;>exact⟨rfl,rfl⟩
theorem zzbag(c:Cs)(i code:Nat):Kp c (c.drops i code):=by unfold Cs.drops;exact zss _ _ _
theorem zzbka(c:Cs)(fin:Bool)(id:Nat)(body:Bytes):Kp c (c.comes fin id body).1:=by
 unfold Cs.comes;dsimp only;split
 ·exact⟨rfl,rfl⟩
 ·split
  ·exact zss _ _ _
  ·split
   ·exact zss _ _ _
   ·split
    ·exact⟨rfl,rfl⟩
    ·split
     ·exact⟨rfl,rfl⟩
     ·split<;>exact⟨rfl,rfl⟩
theorem zxd(c:Cs)(whole:Bool)(id:Nat)(body:Bytes):Kp c (c.joined whole id body).1:=by
 unfold Cs.joined;dsimp only;split
 ·exact⟨rfl,rfl⟩
 ·split
  ·exact⟨rfl,rfl⟩
  ·split
   ·exact⟨rfl,rfl⟩
   ·split
    ·exact zzbag _ _ _
    ·split<;>exact⟨rfl,rfl⟩
theorem zzbhs(c:Cs)(kind:Nat)(fin whole:Bool)(id:Nat)(body:Bytes):Kp c (c.blocks kind fin whole id body).1:=by
 unfold Cs.blocks;split
 ·split
  ·exact⟨rfl,rfl⟩
  ·exact zxd _ _ _ _
 ·split
  ·exact⟨rfl,rfl⟩
  ·exact zxd (c.begins fin id) _ _ _
theorem zzbht(c:Cs)(id code:Nat):Kp c (c.broken id code):=by
 unfold Cs.broken;split
 ·exact⟨rfl,rfl⟩
 ·split
  ·exact⟨rfl,rfl⟩
  ·exact zzbag (c.ev 3 id code) _ _
theorem zzbhu(c:Cs)(id n:Nat):Kp c (c.window id n).1:=by
 unfold Cs.window;split
 ·exact⟨rfl,rfl⟩
 ·split
  ·split<;>exact⟨rfl,rfl⟩
  ·split
   ·exact⟨rfl,rfl⟩
   ·split
    ·exact⟨rfl,rfl⟩
    ·split<;>exact⟨rfl,rfl⟩
theorem zzbci(c:Cs)(ack:Bool)(b:Nat):Kp c (c.settings ack b).1:=by
 unfold Cs.settings;split
 ·exact⟨rfl,rfl⟩
 ·split<;>exact⟨rfl,rfl⟩
theorem zzblt(c:Cs)(kind flags id:Nat)(body:Bytes):Kp c (c.done kind flags id body).1:=by
 unfold Cs.done;dsimp only;refine zfr (Kp.rfl' c) (zfr (Kp.rfl' c) (zfr (Kp.rfl' c) (zfr (Kp.rfl' c) (zfr (Kp.rfl' c) (zfr (Kp.rfl' c) (zfr (zzbka _ _ _ _) (zfr (zzbhs _ _ _ _ _ _) (zfr (zzbht _ _ _) (zfr (zzbci _ _ _) (zfr ?_ (zfr ⟨rfl,rfl⟩ (zzbhu _ _ _))))))))))))
 show Kp c (if _ then c.ev 4 0 _ else c.ctl 5 1 0 body)
 split<;>exact⟨rfl,rfl⟩
theorem zzblu(c:Cs)(i:Nat)(room:Int):Kp c (c.turn i room).2:=by
 unfold Cs.turn;dsimp only;split
 ·split<;>exact⟨rfl,rfl⟩
 ·split
  ·split<;>exact⟨rfl,rfl⟩
  ·split
   ·split<;>exact⟨rfl,rfl⟩
   ·split<;>exact⟨rfl,rfl⟩
theorem zzbhv(c:Cs)(room:Int)(b:Bytes)(d:Cs)(h:c.turned room=some (b,d)):Kp c d:=by
 unfold Cs.turned at h;obtain⟨k,-,h⟩:=Option.bind_eq_some_iff.1 h;obtain⟨i,-,h⟩:=Option.bind_eq_some_iff.1 h;dsimp only at h;split at h
 ·simp at h
 ·have h:Cs.rings { (c.turn i room).2 with ring:=c.ring.eraseIdx k } i=d:=congrArg Prod.snd (Option.some.inj h);rw[<-h];exact zzblu c i room
end Go.Proofs.YtoijpogadkogcaaGreat
