import Derived.Test.YtoijpogadkogcaaGreatRe
namespace Go.Proofs.YtoijpogadkogcaaGreat
variable {A B:Cs} {U D CA CB P:List Fr} {w wA wB:Nat->Way} {r:Nat->Bool} {h:Nat->zal} {f:Fr}
theorem zvu(l l':List St)(ring:List Nat)(s:Nat)(wt:Bool)(hv:∀ x,x≠s->(vl l' x).head=(vl l x).head)(hs:(vl l' s).head=[]\/((vl l' s).head=(vl l s).head/\((vl l s).head≠[]->wt=true)))
  (ru:ring.Pairwise λx y=>(vl l x).head≠[]->(vl l y).head≠[]->x<y) (rh:∀ x,(vl l x).head≠[]->x∈ring) :
  ((Cs.ringOf ring s wt).Pairwise λx y=>(vl l' x).head≠[]->(vl l' y).head≠[]->x<y) /\ ∀ x,(vl l' x).head≠[]->x∈Cs.ringOf ring s wt:=by
 have hle:∀ x,(vl l' x).head≠[]->(vl l x).head≠[]/\(x=s->wt=true):=by
  intro x hx;by_cases e:x=s
  ·subst e;rcases hs with hs | hs
   ·exact absurd hs hx
   ·rw[hs.1] at hx;exact⟨hx,λ_=>hs.2 hx⟩
  ·rw[hv x e] at hx;exact⟨hx,λe'=>absurd e' e⟩
 unfold Cs.ringOf;constructor
 ·rw[List.pairwise_append];refine⟨?_,?_,?_⟩
  ·exact(ru.sublist List.filter_sublist).imp λ{x y} h1 hx hy=>h1 (hle x hx).1 (hle y hy).1
  ·split<;>simp
  ·intro x _ y hy _ hy';split at hy
   ·rename_i hc
    have e:y=s:=List.mem_singleton.1 hy;have hin:=rh y (hle y hy').1;rw[e] at hin;simp[hin] at hc
   ·simp at hy
 ·intro x hx;obtain⟨h1,h2⟩:=hle x hx;refine List.mem_append.2 (.inl (List.mem_filter.2 ⟨rh x h1,?_⟩));by_cases e:x=s
  ·rw[h2 e];simp
  ·simp[e]
theorem Sys.drops(S:Sys A B U D CA CB wA wB r h){s i:Nat}(hi:al A.l s=some i)(code:Nat)(hcom:(vl A.l s).coming=false)(hcode:0<code->hl B.l s\/opn s U)(es:List (Nat×Nat×Nat))
  (hes:∀ e∈es,e∈A.events\/e.1=3) (hes':∀ e∈A.events,e∈es) (hz:r s=true \/ ∃ c,(3,s,c)∈es) (hz2:ownB A.client s=true -> ¬ hl B.l s -> ¬ opn s U->r s=true) :
  ∃ CA',Sys (Cs.drops { A with events:=es } i code) B U D CA' CB wA wB r h:=by
 have hvi:=zdg A.l s i hi;have hst:Cs.st { A with events:=es } i=vl A.l s:=hvi.symm
 let F:St->St:=λs => { s with unread:=[],reset:=true,head:=[],bytes:=[],ending:=false,code:=code }
 have hF:∀ t,(F t).id=t.id:=λ_=>rfl;have hv:∀ x,vl (A.l.modify i F) x=if x=s then F (vl A.l s) else vl A.l x:=zbo A.l s i F hF hi
 have hvs:vl (A.l.modify i F) s=F (vl A.l s):=by rw[hv,if_pos rfl]
 have hvn:∀ x,x≠s->vl (A.l.modify i F) x=vl A.l x:=λx hx=>by rw[hv,if_neg hx]
 have hh:∀ x,hl (A.l.modify i F) x↔hl A.l x:=zci A.l s i F hF hi;obtain⟨wt,hA'⟩:∃ wt,Cs.drops { A with events:=es } i code = { A with events:=es,l:=A.l.modify i F,ring:=Cs.ringOf A.ring s wt,control:=A.control++(wfs 0 (vl A.l s).unread.length).map Fr.enc,recv:=A.recv+(vl A.l s).unread.length }:=by
  refine⟨(Cs.st (Cs.mod { A with events:=es } i F) i).waits,?_⟩;unfold Cs.drops;dsimp only;rw[zdh,hst];have e2:(Cs.st (Cs.mod { A with events:=es } i F) i).id=s:=by
   have:Cs.st (Cs.mod { A with events:=es } i F) i=vl (A.l.modify i F) s:=(zdg (A.l.modify i F) s i (by rw[zen _ _ _ hF];exact hi)).symm
   rw[this,zgt]
  show Cs.mk _ _ _ _ _ _ (Cs.ringOf A.ring (Cs.st (Cs.mod { A with events:=es } i F) i).id _) _ _ _ _ _ _ _ _ _ _ _ _ _=_
  rw[e2];rfl
 rw[hA'];obtain⟨ru,rh⟩:=zvu A.l (A.l.modify i F) A.ring s wt (λx hx=>by rw[hvn x hx]) (.inl (by rw[hvs])) S.ab.ringUp S.ab.ringHas;have htot:tot (A.l.modify i F)+(vl A.l s).unread.length=tot A.l:=by
  have:=zfl A.l i F (zcs A.l s i hi).1
  rw[<-hvi] at this;simpa[F] using this
 have hn:(vl A.l s).unread.length<=150:=by
  have:=S.ba.i1
  have:=zzbhr A.l s
  omega
 obtain⟨hs1,hs2,-⟩:=S.ab.ids s (zem A.l s i hi);generalize hAA:({ A with events:=es,l:=A.l.modify i F,ring:=Cs.ringOf A.ring s wt,control:=A.control++(wfs 0 (vl A.l s).unread.length).map Fr.enc,recv:=A.recv+(vl A.l s).unread.length }:Cs)=A';have eL:A'.l=A.l.modify i F:=by rw[<-hAA]
 have eR:A'.ring=Cs.ringOf A.ring s wt:=by rw[<-hAA]
 refine⟨CA++wfs 0 (vl A.l s).unread.length,?_,?_⟩
 ·refine S.ab.writes1 s A' D (CA++wfs 0 (vl A.l s).unread.length) wA (by rw[<-hAA]) (by rw[<-hAA]) (by rw[<-hAA,List.map_append,<-S.ab.ctl]) (λg hg => ?_) (λx=>by rw[eL];exact hh x) (λx hx=>by rw[eL];exact hvn x hx) (by rw[<-hAA]) (by rw[<-hAA]) (λ_ _=>rfl) (by rw[eR,eL];exact ru) (by rw[eR,eL];exact rh) (λx hx=>by
    rw[eR] at hx;rcases zlr _ _ _ x hx with h1 | h1
    ·exact S.ab.ringIn x h1
    ·rw[h1];exact zem A.l s i hi) (λ_=>zem A.l s i hi)
   (λhx => ?_) (by rw[eL,hvs]) (λ_ _ hx => ?_) (by rw[<-hAA];exact S.ab.i2) (λ_ _ _=>rfl) (λ_ => ?_) (λhx => ?_) (λ_ => ?_) (λhx => ?_) (S.ab.q0 s) (λhx => ?_) rfl (λ_ h1 h2 h3 => .inr (hz2 h1 h2 h3))
  ·rcases List.mem_append.1 hg with hg|hg
   ·exact S.ab.ctlOk g hg
   ·exact zpx 0 _ _ (by omega) (by omega) (.inl rfl) g hg
  ·rw[eL,hvs] at hx;exact absurd rfl hx
  ·rw[eL,hvs] at hx;rcases hx with hx | hx
   ·simp[F] at hx
   ·exact hcode hx
  ·rw[eL,hvs];exact Nat.le_refl _
  ·rw[eL,hvs];exact⟨rfl,.inr rfl⟩
  ·rw[eL,hvs];exact⟨rfl,rfl,rfl⟩
  ·obtain⟨rest,a1,a2,a3⟩:=S.ab.q s hx;exact⟨rest,a1,λh1=>by rw[eL,hvs] at h1;simp[F] at h1,a3⟩
  ·rw[eL,hvs] at hx;simp[F] at hx
 ·refine S.ba.reads1 s A' D U (CA++wfs 0 (vl A.l s).unread.length) wB (by rw[<-hAA]) (λx=>by rw[eL];exact hh x) (λx hx=>by rw[eL];exact hvn x hx) (by rw[<-hAA]) (λ_ _=>rfl) rfl (zhe.rfl' s D) (by rw[<-hAA];exact S.ba.fit) (λhx => ?_) (λx hx => ?_) (λh1 h2 => ?_) (λ_ => ?_) (λe he => ?_) (λe he => ?_) ?_ ?_ (λx h1 h2 => ?_) (λh1 => ?_) (λ_ h2 => ?_) ?_ (λh1 => ?_) (λh1 => ?_) (S.ba.q0 s) rfl (λh1 => ?_) (λ_ => ?_)
  ·have e1:A'.now=A.now:=by rw[<-hAA]
   have e2:A'.ends=A.ends:=by rw[<-hAA]
   have e3:A'.client=A.client:=by rw[<-hAA]
   rw[e1] at hx;obtain⟨a1,a2,a3⟩:=S.ba.now hx;have hne:A.now≠s:=λe=>by rw[e,hcom] at a2;simp at a2
   rw[e1,e2,e3,eL,hh,hvn _ hne];exact⟨a1,a2,a3⟩
  ·have e1:A'.now=A.now:=by rw[<-hAA]
   rw[eL] at hx ⊢;rw[e1];by_cases e:x=s
   ·subst e;rw[hvs] at hx;exact absurd hx (by show ¬ (vl A.l x).coming=true;rw[hcom];simp)
   ·rw[hvn x e] at hx ⊢;exact S.ba.coming x hx
  ·rw[eL,hvs];rcases S.ba.hdr s h1 h2 with h3 | h3
   ·exact .inl h3
   ·exact .inr ⟨h3.1,.inr rfl⟩
  ·rw[eL,hvs]
  ·have e1:A'.events=es:=by rw[<-hAA]
   rw[e1] at he;rcases hes e he with h1 | h1
   ·exact .inl h1
   ·exact .inr ⟨by omega,λh2=>by omega⟩
  ·have e1:A'.events=es:=by rw[<-hAA]
   rw[e1];exact hes' e he
  ·have e1:A'.recv=A.recv+(vl A.l s).unread.length:=by rw[<-hAA]
   have:=S.ba.i1
   rw[e1,eL];omega
  ·have e1:A'.recv=A.recv+(vl A.l s).unread.length:=by rw[<-hAA]
   have:=S.ba.i2
   rw[e1,<-List.append_assoc,zbm,zmu _ _ (by omega)];omega
  ·rw[<-List.append_assoc,zbm,zdu _ _ _ h1];rfl
  ·have:=S.ba.j s h1
   rw[<-List.append_assoc,zbm,zdu _ _ _ h1,eL,hvs]
   show _+(([]:Bytes)).length<=100
   simp only[List.length_nil];omega
  ·rw[eL,hvs] at h2;simp[F] at h2
  ·rw[eL,hvs];exact S.ba.ord s
  ·rw[eL,hvs];exact S.ba.e1 s h1
  ·rw[eL,hvs] at h1;simp[F] at h1
  ·rw[eL,hvs];exact S.ba.q3 s h1
  ·have e1:A'.events=es:=by rw[<-hAA]
   rw[e1];rcases hz with h1 | h1
   ·exact .inl h1
   ·exact .inr (.inl h1)
theorem Half.pop(H:Half A B (f::P) D CA CB w r h)(hk:3<=f.kind):Half A B P D CA CB w r h:=by
 have hnd:∀ s,¬ isD s f:=λs hd=>by have:=hd.1;omega
 have hL:=zhe.pop f P (by omega) 0 λh0=>by omega
 have hd:∀ s,dat s (f::P)=dat s P/\fin s (f::P)=fin s P:=λs=>by simp[dat,fin,hnd s]
 have ho:∀ s e,Ord s e (f::P)->Ord s e P:=λs e hs=>by unfold Ord at hs;rw[if_neg (hnd s)] at hs;exact hs
 exact { H with
  fit:=(H.fit.head (by omega) (by omega)).2.2.2
  headed:=by rw[hL.topE];exact H.headed
  introd:=λs=>by rw[hL.opnE];exact H.introd s
  opens:=λg hg=>H.opens g (hL.mem g hg)
  i2:=by have:=H.i2;rw[zbp,if_neg (by omega)] at this;omega
  j:=λs=>by rw[<- (hd s).1];exact H.j s
  ord:=λs=>ho s _ (H.ord s)
  e1:=λs=>by rw[<- (hd s).2];exact H.e1 s
  q:=λs=>by rw[<- (hd s).1,<- (hd s).2];exact H.q s
  z2:=λs=>by rw[hL.opnE];exact H.z2 s }
theorem Sys.pop(S:Sys A B (f::P) D CA CB wA wB r h)(hk:3<=f.kind)(h7:f.kind≠7):Sys A B P D CA CB wA wB r h:=by refine⟨S.ab.pop hk,S.ba.writer B P CB rfl rfl S.ba.ctl S.ba.ctlOk (λ_=>Iff.rfl) (λ_=>zez.rfl' _) rfl rfl rfl rfl λx => ?_⟩;rw[List.cons_append,win,if_neg (by omega),Nat.zero_add]
theorem Sys.getsReset(S:Sys A B (f::P) D CA CB wA wB r h)(hk:f.kind=3):(B.doneF f).2=0 /\ ∃ CB',Sys A (B.doneF f).1 P D CA CB' wA wB r h:=by
 obtain⟨hok,hnow,hkk,hfit⟩:=S.ab.fit.head (by omega) (by omega);have hs:hl B.l f.id/\f.body.length=1:=by
  rcases hkk with h1|h1|h1
  ·omega
  ·exact h1.2
  ·have:=h1.kind;omega
 obtain⟨i,hi⟩:=zdq B.l f.id hs.1;have hkn:=S.ba.knownOf f.id hs.1;have hdone:B.doneF f=(B.broken f.id (f.body.getD 0 0).toNat,0):=by unfold Cs.doneF Cs.done;dsimp only;rw[if_neg (by omega),if_neg (by omega),if_neg (by rw[hkn];simp),if_neg (by omega),if_neg (by omega),if_neg (by simp[Cs.offSize,Cs.wants,hk,hs.2]),if_neg (by omega),if_neg (by omega),if_pos hk]
 rw[hdone];refine⟨rfl,?_⟩;have S':=S.pop (by omega) (by omega);unfold Cs.broken;rw[zcw,hi];dsimp only;rw[zca B f.id i hi];by_cases c1:((vl B.l f.id).reset || (vl B.l f.id).over)=true
 ·rw[if_pos c1];exact⟨CB,S'⟩
 ·rw[if_neg c1];have hcom:(vl B.l f.id).coming=false:=by
   cases hc:(vl B.l f.id).coming with
   | false=>rfl
   | true=>have:=(S.ab.coming f.id hc).2;obtain⟨h1,-⟩:=S.ba.ids f.id hs.1;omega
  have hA:ownB B.client f.id=true -> ¬ hl A.l f.id -> ¬ opn f.id D->r f.id=true:=λ_ h2 _=>absurd (S.ab.opens f (by simp) (by omega)).1 h2
  obtain⟨CB',T⟩:=S'.swap.drops hi 0 hcom (λh0=>by omega) (B.events++[(3,f.id,(f.body.getD 0 0).toNat)]) (λe he=>by
   rcases List.mem_append.1 he with h1|h1
   ·exact .inl h1
   ·rw[List.mem_singleton.1 h1];exact .inr rfl) (λe he=>List.mem_append.2 (.inl he)) (.inr ⟨_,List.mem_append.2 (.inr (List.mem_singleton.2 rfl))⟩) hA
  exact⟨CB',T.swap⟩
theorem Sys.getsCtl(S:Sys A B (f::P) D CA CB wA wB r h)(hk:f.kind=4\/f.kind=5\/f.kind=6):(B.doneF f).2=0 /\ ∃ CB',Sys A (B.doneF f).1 P D CA CB' wA wB r h:=by
 obtain⟨hok,hnow,hkk,hfit⟩:=S.ab.fit.head (by omega) (by omega);have hc:zeo (hl B.l) f:=by
  rcases hkk with h1|h1|h1
  ·omega
  ·omega
  ·exact h1
 have S':=S.pop (by omega) (by omega);have same:∀ (c:Cs) (CB':List Fr),c.client=B.client->c.failed=B.failed->c.l=B.l->c.ring=B.ring->c.own=B.own->c.peer=B.peer->c.send=B.send->c.recv=B.recv->c.now=B.now->c.block=B.block->c.ends=B.ends->c.control=CB'.map Fr.enc->(∀ f∈CB',f.Ok/\zeo (hl A.l) f)->(∀ x,win x CB'=win x CB)->(∀ e∈c.events,e∈B.events\/(e.1≠6/\e.1≠1))->(∀ e∈B.events,e∈c.events)->Sys A c P D CA CB' wA wB r h:=by intro c CB' a1 a2 a3 a4 a5 a6 a7 a8 a9 a10 a11 a12 a13 a14 a15 a16;refine⟨S'.ab.reader c D CB' a1 (λx=>by rw[a3]) (λx=>by rw[a3];exact zhd.rfl' _) a6 a9 a10 a11 a8 (by rw[a3]) a15 (λe he _=>a16 e he) (λx=>by rw[zbm,zbm,a14]),S'.ba.writer c P CB' a2 a1 a12 a13 (λx=>by rw[a3]) (λx=>by rw[a3];exact zez.rfl' _) a4 a5 a6 a7 λ_=>rfl⟩
 have hctl:∀ g:Fr,g.Ok->zeo (hl A.l) g->g.kind≠7 -> ∀ lim,Sys A { B with limit:=lim,control:=B.control++[g.enc] } P D CA (CB++[g]) wA wB r h:=by
  intro g h1 h2 h3 lim;refine same _ _ rfl rfl rfl rfl rfl rfl rfl rfl rfl rfl rfl (by rw[List.map_append,<-S.ba.ctl];rfl) (λx hx => ?_) (λx=>by rw[zbm,zum x [g] λy hy=>by rw[List.mem_singleton.1 hy];exact .inl h3];rfl) (λe he => .inl he) (λe he=>he);rcases List.mem_append.1 hx with hx | hx
  ·exact S.ba.ctlOk x hx
  ·rw[List.mem_singleton.1 hx];exact⟨h1,h2⟩
 rcases hc with h1|h1|h1|h1
 ·obtain⟨k4,i0,hb⟩:=h1;have hdone:B.doneF f=B.settings (f.flags%2 == 1) (f.body.getD 0 0).toNat:=by
   unfold Cs.doneF Cs.done;dsimp only;rw[if_neg (by omega),if_neg (by omega),if_neg (by omega),if_neg (by omega),if_neg (by omega),if_neg (by
    rcases hb with ⟨h2,h3⟩|⟨h2,x,h3,h4⟩
    ·simp[Cs.offSize,Cs.wants,k4,h2,h3]
    ·simp[Cs.offSize,Cs.wants,k4,h2,h4]),if_neg (by omega),if_neg (by omega),if_neg (by omega),if_pos k4]
  rw[hdone];unfold Cs.settings;rcases hb with ⟨h2,h3⟩ | ⟨h2,x,h3,h4⟩
  ·rw[if_pos (by rw[h2];rfl)];exact⟨rfl,CB,S'⟩
  ·rw[if_neg (by rw[h2];simp),if_neg (by rw[h4];simp;omega)];exact⟨rfl,_,hctl ⟨4,1,0,[]⟩ ⟨by simp,by simp,by simp,by simp⟩ (.inl ⟨rfl,rfl,.inl ⟨rfl,rfl⟩⟩) (by simp) _⟩
 ·obtain⟨k4,i0,hb⟩:=h1;have hdone:B.doneF f=(if (f.flags%2 == 1)=true then B.ev 4 0 (Cs.num f.body 0) else B.ctl 5 1 0 f.body,0):=by
   unfold Cs.doneF Cs.done;dsimp only;rw[if_neg (by omega),if_neg (by omega),if_neg (by omega),if_neg (by omega),if_neg (by omega),if_neg (by simp[Cs.offSize,Cs.wants,k4,hb]),if_neg (by omega),if_neg (by omega),if_neg (by omega),if_neg (by omega),if_pos k4]
  rw[hdone];refine⟨rfl,?_⟩;dsimp only;split
  ·refine⟨CB,same _ _ rfl rfl rfl rfl rfl rfl rfl rfl rfl rfl rfl S.ba.ctl S.ba.ctlOk (λ_=>rfl) (λe he => ?_) (λe he=>List.mem_append.2 (.inl he))⟩;rcases List.mem_append.1 he with h2 | h2
   ·exact .inl h2
   ·rw[List.mem_singleton.1 h2];exact .inr ⟨by simp,by simp⟩
  ·exact⟨_,hctl ⟨5,1,0,f.body⟩ ⟨by simp,by simp,by simp,hok.2.2.2⟩ (.inr (.inl ⟨rfl,rfl,hb⟩)) (by simp) B.limit⟩
 ·obtain⟨k4,i0,hb⟩:=h1;have hdone:B.doneF f=({ B with left:=true }.ev 5 (Cs.num f.body 0) (f.body.getD 2 0).toNat,0):=by
   unfold Cs.doneF Cs.done;dsimp only;rw[if_neg (by omega),if_neg (by omega),if_neg (by omega),if_neg (by omega),if_neg (by omega),if_neg (by simp[Cs.offSize,Cs.wants,k4,hb]),if_neg (by omega),if_neg (by omega),if_neg (by omega),if_neg (by omega),if_neg (by omega),if_pos k4]
  rw[hdone];refine⟨rfl,CB,same _ _ rfl rfl rfl rfl rfl rfl rfl rfl rfl rfl rfl S.ba.ctl S.ba.ctlOk (λ_=>rfl) (λe he => ?_) (λe he=>List.mem_append.2 (.inl he))⟩;rcases List.mem_append.1 he with h2 | h2
  ·exact .inl h2
  ·rw[List.mem_singleton.1 h2];exact .inr ⟨by simp,by simp⟩
 ·omega
theorem Sys.getsWindow(S:Sys A B (f::P) D CA CB wA wB r h)(hk:f.kind=7):(B.doneF f).2=0 /\ ∃ CB',Sys A (B.doneF f).1 P D CA CB' wA wB r h:=by
 obtain⟨hok,hnow,hkk,hfit⟩:=S.ab.fit.head (by omega) (by omega);have hc:(f.id=0\/hl B.l f.id)/\f.body.length=2/\Cs.num f.body 0≠0:=by
  rcases hkk with h1|h1|h1
  ·omega
  ·omega
  ·rcases h1 with h1|h1|h1|h1
   ·omega
   ·omega
   ·omega
   ·exact h1.2
 obtain⟨hid,hb,hn⟩:=hc;have Hab:=S.ab.pop (by omega);have hdone:B.doneF f=B.window f.id (Cs.num f.body 0):=by
  unfold Cs.doneF Cs.done;dsimp only;rw[if_neg (by omega),if_neg (by omega),if_neg (by omega),if_neg (by omega),if_neg (by
   rintro ⟨-,h1,h2⟩;rcases hid with h3 | h3
   ·exact h1 h3
   ·rw[S.ba.knownOf f.id h3] at h2;simp at h2),if_neg (by simp[Cs.offSize,Cs.wants,hk,hb]),if_neg (by omega),if_neg (by omega),if_neg (by omega),if_neg (by omega),if_neg (by omega),if_neg (by omega)]
 have hwin:∀ x,win x ((f::P)++CA)=(if x=f.id then Cs.num f.body 0 else 0)+win x (P++CA):=λx=>by
  rw[List.cons_append,win];by_cases e:x=f.id
  ·rw[if_pos ⟨hk,e.symm⟩,if_pos e]
  ·rw[if_neg (λh1=>e h1.2.symm),if_neg e]
 rw[hdone];generalize Cs.num f.body 0=n at *;unfold Cs.window;rw[if_neg hn];have i2:=S.ba.i2;have i1:=S.ba.i1;by_cases h0:f.id=0
 ·rw[if_pos h0];rw[hwin,if_pos h0.symm] at i2;rw[if_neg (by omega)];refine⟨rfl,CB,Hab.reader _ D CB rfl (λ_=>Iff.rfl) (λ_=>zhd.rfl' _) rfl rfl rfl rfl rfl rfl (λe he => .inl he) (λe he _=>he) (λ_=>rfl),?_⟩;exact { S.ba with
   i2:=by show B.send+n+zbp D+win 0 (P++CA)=A.recv;omega
   j:=λx hx=>by have:=S.ba.j x hx;rw[hwin,if_neg (by omega)] at this;show (vl B.l x).send+_+_+_<=100;omega }
 ·rw[if_neg h0];rw[hwin,if_neg (λe=>h0 e.symm)] at i2;have hs:=hid.resolve_left h0;obtain⟨i,hi⟩:=zdq B.l f.id hs;rw[zcw,hi];dsimp only;rw[zca B f.id i hi];have hj:=S.ba.j f.id h0;rw[hwin,if_pos rfl] at hj;by_cases c1:((vl B.l f.id).reset || (vl B.l f.id).mine)=true
  ·rw[if_pos c1];refine⟨rfl,CB,Hab,?_⟩;exact { S.ba with
    i2:=by show B.send+_+_=_;omega
    j:=λx hx=>by have:=S.ba.j x hx;rw[hwin] at this;show (vl B.l x).send+_+_+_<=100;omega }
  ·rw[if_neg c1,if_neg (by omega)]
   let F:St->St:=λs => { s with send:=s.send+n }
   have hF:∀ t,(F t).id=t.id:=λ_=>rfl;have hv:∀ x,vl (B.l.modify i F) x=if x=f.id then F (vl B.l f.id) else vl B.l x:=zbo B.l f.id i F hF hi
   have hvs:vl (B.l.modify i F) f.id=F (vl B.l f.id):=by rw[hv,if_pos rfl]
   have hvn:∀ x,x≠f.id->vl (B.l.modify i F) x=vl B.l x:=λx hx=>by rw[hv,if_neg hx]
   have hh:∀ x,hl (B.l.modify i F) x↔hl B.l x:=zci B.l f.id i F hF hi;have hd:∀ x,(vl (B.l.modify i F) x).head=(vl B.l x).head:=λx=>by rw[hv];split<;>simp_all [F]
   have hcom:(vl B.l f.id).coming=false:=by
    cases hc:(vl B.l f.id).coming with
    | false=>rfl
    | true=>have:=(S.ab.coming f.id hc).2;omega
   have hRS:∀ x,zhd (vl B.l x) (vl (B.l.modify i F) x):=λx=>by
    rw[hv];split
    ·rename_i e;subst e;exact⟨rfl,rfl,rfl,rfl,rfl,rfl,λhc=>by rw[hcom] at hc;simp at hc⟩
    ·exact zhd.rfl' _
   refine⟨rfl,CB,Hab.reader (B.mod i F) D CB rfl hh hRS rfl rfl rfl rfl rfl ?_ (λe he => .inl he) (λe he _=>he) (λ_=>rfl),?_⟩
   ·have:=zfl B.l i F (zcs B.l f.id i hi).1
    rw[<-zdg B.l f.id i hi] at this
    show tot (B.l.modify i F)=tot B.l
    simp only[F] at this ⊢;omega
   ·refine S.ba.writes1 f.id (B.mod i F) P CB wB rfl rfl S.ba.ctl S.ba.ctlOk hh hvn rfl rfl (λ_ _=>rfl) (S.ba.ringUp.imp λ{x y} h1=>by show (vl (B.l.modify i F) x).head≠[]->(vl (B.l.modify i F) y).head≠[]->_;rw[hd,hd];exact h1) (λx=>by show (vl (B.l.modify i F) x).head≠[]->_;rw[hd];exact S.ba.ringHas x) S.ba.ringIn (λ_=>hs)
     (λ_ => ?_) ?_ ?_ ?_ (λx h1 h2 => ?_) (λ_ => ?_) ?_ ?_ ?_ (S.ba.q0 f.id) ?_ rfl ?_
    ·show (vl (B.l.modify i F) f.id).head=_/\(vl (B.l.modify i F) f.id).reset=_;rw[hvs];exact⟨rfl,rfl⟩
    ·show (vl (B.l.modify i F) f.id).mine=_;rw[hvs]
    ·show _->(vl (B.l.modify i F) f.id).head=[]->((vl (B.l.modify i F) f.id).reset=false\/0<(vl (B.l.modify i F) f.id).code)->_;rw[hvs];exact S.ba.introd f.id
    ·show B.send+_+win 0 (P++CA)=_;omega
    ·rw[hwin,if_neg h2];omega
    ·show (vl (B.l.modify i F) f.id).send+_<=_
     rw[hvs,hwin,if_pos rfl]
     show (vl B.l f.id).send+n+_<=_
     omega
    ·show (vl (B.l.modify i F) f.id).mine=_->(vl (B.l.modify i F) f.id).bytes=_/\((vl (B.l.modify i F) f.id).ending=_\/(vl (B.l.modify i F) f.id).reset=_);rw[hvs];exact S.ba.e2 f.id
    ·show (vl (B.l.modify i F) f.id).reset=_->(vl (B.l.modify i F) f.id).head=_/\(vl (B.l.modify i F) f.id).bytes=_/\(vl (B.l.modify i F) f.id).ending=_;rw[hvs];exact S.ba.rst f.id
    ·show _ -> ∃ rest,_/\((vl (B.l.modify i F) f.id).reset=false->rest=(vl (B.l.modify i F) f.id).bytes)/\_;rw[hvs];exact S.ba.q f.id
    ·show (vl (B.l.modify i F) f.id).ending=_->_;rw[hvs];exact S.ba.q2 f.id
    ·show _->_->_->_->(vl (B.l.modify i F) f.id).head≠[]\/_;rw[hvs];exact S.ba.z2 f.id
variable {A B:Cs} {U D CA CB P:List Fr} {w wA wB:Nat->Way} {r:Nat->Bool} {h:Nat->zal} {f:Fr}
theorem zxc(m:zal)(hm:zbi m=true):(zah m).length<=1000/\m≠[]/\unpacks (zah m)=some m:=by
 have h1:1<=m.length/\m.length<=8 /\ ∀ p∈m,zbs p=true:=by unfold zbi ziv at hm;simp only[Bool.and_eq_true,decide_eq_true_eq,List.all_eq_true] at hm;exact⟨hm.1.1,hm.1.2,hm.2⟩
 have h2:=zlf m h1.2.2;refine⟨by omega,λe=>by rw[e] at h1;simp at h1,?_⟩;unfold unpacks;rw[if_neg (by omega)];exact zyk 8 m h1.2.1 h1.2.2
theorem Sys.begins(S:Sys A B (f::P) D CA CB wA wB r h)(hk:f.kind=1):Sys A (B.begins false f.id) (⟨2,f.flags,f.id,f.body⟩::P) D CA CB wA wB r h/\B.now=0/\f.flags%2=0/\f.id≠0/\ownB B.client f.id=false/\B.peer<f.id:=by
 have hF:=S.ab.fit;unfold Fit at hF;rw[if_pos hk] at hF;obtain⟨hok,hnow,hown,hpeer,hfl,hpre,hrest⟩:=hF;have hno:¬ hl B.l f.id:=by intro h1;obtain⟨-,-,h3⟩:=S.ba.ids f.id h1;rw[if_neg (by rw[hown];simp)] at h3;omega
 have hAhas:=S.ab.opens f (by simp) (by omega);have hv:∀ x,vl (B.l++[{ id:=f.id,coming:=true }]) x=if x=f.id then { id:=f.id,coming:=true } else vl B.l x:=zjn B.l { id:=f.id,coming:=true } hno
 have hh:∀ x,hl (B.l++[{ id:=f.id,coming:=true }]) x↔hl B.l x\/x=f.id:=zlq B.l { id:=f.id,coming:=true } hno;have hvd:=zhc B.l f.id hno;have hsame:∀ x,∃ b,vl (B.l++[{ id:=f.id,coming:=true }]) x = { vl B.l x with coming:=b }:=by
  intro x;rw[hv];split
  ·rename_i e;subst e;exact⟨true,by rw[hvd]⟩
  ·exact⟨(vl B.l x).coming,rfl⟩
 have hnd:∀ s,¬ isD s f:=λs hd=>by have:=hd.1;omega
 have hnd2:∀ s,¬ isD s ⟨2,f.flags,f.id,f.body⟩:=λs hd=>by have:=hd.1;simp at this
 have hd1:∀ s,dat s (⟨2,f.flags,f.id,f.body⟩::P)=dat s (f::P):=λs=>by simp[dat,hnd s,hnd2 s]
 have hf1:∀ s,fin s (⟨2,f.flags,f.id,f.body⟩::P)=fin s (f::P):=λs=>by simp[fin,hnd s,hnd2 s]
 have ho1:∀ s e,Ord s e (f::P)->Ord s e (⟨2,f.flags,f.id,f.body⟩::P):=λs e hs=>by unfold Ord at hs ⊢;rw[if_neg (hnd s)] at hs;rw[if_neg (hnd2 s)];exact hs
 have ht:top f.id (⟨2,f.flags,f.id,f.body⟩::P)=top B.peer (f::P):=by rw[top,top,if_pos hk,if_neg (by simp)]
 have hids:=S.ab.ids f.id hAhas.1;refine⟨⟨?_,?_⟩,hnow,hfl,by omega,hown,hpeer⟩
 ·exact {
   fl:=S.ab.fl
   cl:=S.ab.cl
   hp:=S.ab.hp
   ctl:=S.ab.ctl
   ctlOk:=λg hg=>⟨(S.ab.ctlOk g hg).1,(S.ab.ctlOk g hg).2.mono λx hx=>(hh x).2 (.inl hx)⟩
   fit:=by
    show Fit B.client h (hl (B.l++[{ id:=f.id,coming:=true }])) f.id f.id [] (⟨2,f.flags,f.id,f.body⟩::P)
    unfold Fit;refine⟨⟨by simp,hok.2⟩,?_⟩;rw[if_neg (by simp),if_pos rfl];refine⟨by omega,rfl,hpre,?_⟩;dsimp only;split
    ·rename_i h2;rw[if_pos h2] at hrest;exact⟨hrest.1,hrest.2.mono λx hx=>(hh x).2 hx⟩
    ·rename_i h2;rw[if_neg h2] at hrest;exact hrest.mono λx hx=>(hh x).2 hx
   now:=λ_=>by
    show hl (B.l++[{ id:=f.id,coming:=true }]) f.id/\(vl (B.l++[{ id:=f.id,coming:=true }]) f.id).coming=true/\false=false/\ownB B.client f.id=false
    refine⟨(hh _).2 (.inr rfl),?_,rfl,hown⟩;rw[hv,if_pos rfl]
   coming:=λx hx=>by
    have hx:(vl (B.l++[{ id:=f.id,coming:=true }]) x).coming=true:=hx
    show vl (B.l++[{ id:=f.id,coming:=true }]) x=_/\f.id=x
    rw[hv] at hx ⊢;by_cases e:x=f.id
    ·rw[if_pos e,e];exact⟨rfl,rfl⟩
    ·rw[if_neg e] at hx;have h1:=(S.ab.coming x hx).2;have h2:hl B.l x:=by
      apply Classical.byContradiction;intro h3;rw[zhc B.l x h3] at hx;simp at hx
     obtain⟨h3,-⟩:=S.ba.ids x h2;omega
   ringUp:=S.ab.ringUp
   ringHas:=S.ab.ringHas
   headed:=by
    show ∀ s,_->_/\top f.id (⟨2,f.flags,f.id,f.body⟩::P)<s/\_
    rw[ht];exact S.ab.headed
   ids:=S.ab.ids
   ownAll:=S.ab.ownAll
   ownMax:=S.ab.ownMax
   ownPar:=S.ab.ownPar
   ringIn:=S.ab.ringIn
   peerLe:=by
    show f.id<=A.own
    have:=hids.2.2
    rw[if_pos (hAhas.2 (.inl hk))] at this;exact this
   introd:=λs h1 h2 h3=>by
    show hl (B.l++[{ id:=f.id,coming:=true }]) s\/_
    rw[hh,zhj];rcases S.ab.introd s h1 h2 h3 with h4 | h4
    ·exact .inl (.inl h4)
    ·rcases (zhj s f P).1 h4 with h5|h5
     ·exact .inl (.inr h5.2.symm)
     ·exact .inr (.inr h5)
   opens:=λg hg hg3=>by
    rcases List.mem_cons.1 hg with rfl|hg
    ·exact⟨hAhas.1,λ_=>hAhas.2 (.inl hk)⟩
    ·exact S.ab.opens g (by simp[hg]) hg3
   peers:=λs h1 h2=>by
    have h1:hl (B.l++[{ id:=f.id,coming:=true }]) s:=h1;rcases (hh s).1 h1 with h3 | h3
    ·exact S.ab.peers s h3 h2
    ·rw[h3];exact hAhas.1
   hdr:=λs h1 h2=>by
    have h1:hl (B.l++[{ id:=f.id,coming:=true }]) s:=h1
    show (vl (B.l++[{ id:=f.id,coming:=true }]) s).headers=_\/(vl (B.l++[{ id:=f.id,coming:=true }]) s).headers=_/\((vl (B.l++[{ id:=f.id,coming:=true }]) s).coming=_\/(vl (B.l++[{ id:=f.id,coming:=true }]) s).reset=_)
    rw[hv];by_cases e:s=f.id
    ·rw[if_pos e];exact .inr ⟨rfl,.inl rfl⟩
    ·rw[if_neg e];exact S.ab.hdr s (((hh s).1 h1).resolve_right e) h2
   evs:=λe he=>by
    obtain⟨a1,a2⟩:=S.ab.evs e he;refine⟨a1,λh1 => ?_⟩
    show hl (B.l++[{ id:=f.id,coming:=true }]) e.2.1/\(vl (B.l++[{ id:=f.id,coming:=true }]) e.2.1).headers=_
    obtain⟨b1,b2⟩:=a2 h1;rw[hh,hv,if_neg (λh2=>hno (by rw[<-h2];exact b1))];exact⟨.inl b1,b2⟩
   i1:=by show B.recv+tot (B.l++[{ id:=f.id,coming:=true }])=150;rw[zul];exact S.ab.i1
   i2:=by
    have:=S.ab.i2
    rw[zbp,if_neg (by omega)] at this;rw[zbp,if_neg (by simp)];exact this
   j:=λs hs=>by
    obtain⟨b,hb⟩:=hsame s
    show _+_+_+(vl (B.l++[{ id:=f.id,coming:=true }]) s).unread.length<=100
    rw[hb,hd1];exact S.ab.j s hs
   jr:=λs=>by
    obtain⟨b,hb⟩:=hsame s
    show (vl (B.l++[{ id:=f.id,coming:=true }]) s).theirs=_->(vl (B.l++[{ id:=f.id,coming:=true }]) s).reset=_->(vl (B.l++[{ id:=f.id,coming:=true }]) s).recv+(vl (B.l++[{ id:=f.id,coming:=true }]) s).unread.length=100
    rw[hb];exact S.ab.jr s
   ord:=λs=>by
    obtain⟨b,hb⟩:=hsame s
    show Ord s (vl (B.l++[{ id:=f.id,coming:=true }]) s).theirs _
    rw[hb];exact ho1 s _ (S.ab.ord s)
   e1:=λs=>by
    obtain⟨b,hb⟩:=hsame s
    show _->_/\(vl (B.l++[{ id:=f.id,coming:=true }]) s).theirs=_
    rw[hb,hf1];exact S.ab.e1 s
   e2:=S.ab.e2
   rst:=S.ab.rst
   q:=λs=>by
    obtain⟨b,hb⟩:=hsame s
    show (vl (B.l++[{ id:=f.id,coming:=true }]) s).reset=_ -> ∃ rest,_=(vl (B.l++[{ id:=f.id,coming:=true }]) s).unread++_++rest/\_/\(_\/(vl (B.l++[{ id:=f.id,coming:=true }]) s).theirs=_->_)
    rw[hb,hd1,hf1];exact S.ab.q s
   q0:=S.ab.q0
   sentHas:=S.ab.sentHas
   q2:=S.ab.q2
   q3:=λs hs=>by
    obtain⟨b,hb⟩:=hsame s
    show hl (B.l++[{ id:=f.id,coming:=true }]) s/\(_->(vl (B.l++[{ id:=f.id,coming:=true }]) s).headers≠_)
    rw[hb,hh];exact⟨.inl (S.ab.q3 s hs).1,(S.ab.q3 s hs).2⟩
   z:=λs=>by
    obtain⟨b,hb⟩:=hsame s
    show (vl (B.l++[{ id:=f.id,coming:=true }]) s).reset=_->_\/_\/(_/\(vl (B.l++[{ id:=f.id,coming:=true }]) s).headers=_)
    rw[hb];exact S.ab.z s
   z2:=λs h1 h2 h3 h4=>by
    have h3:¬ hl (B.l++[{ id:=f.id,coming:=true }]) s:=h3;rw[hh] at h3;refine S.ab.z2 s h1 h2 (λh5=>h3 (.inl h5)) λh5 => ?_;rcases (zhj s f P).1 h5 with h6 | h6
    ·exact h3 (.inr h6.2.symm)
    ·exact h4 ((zhj _ _ _).2 (.inr h6)) }
 ·have hhd:∀ s,(vl (B.l++[{ id:=f.id,coming:=true }]) s).head=(vl B.l s).head:=λs=>by obtain⟨b,hb⟩:=hsame s;rw[hb]
  exact { S.ba with
   ringUp:=S.ba.ringUp.imp λ{x y} h1=>by
    show (vl (B.l++[{ id:=f.id,coming:=true }]) x).head≠[]->(vl (B.l++[{ id:=f.id,coming:=true }]) y).head≠[]->_
    rw[hhd,hhd];exact h1
   ringHas:=λs=>by
    show (vl (B.l++[{ id:=f.id,coming:=true }]) s).head≠[]->_
    rw[hhd];exact S.ba.ringHas s
   headed:=λs=>by
    obtain⟨b,hb⟩:=hsame s
    show (vl (B.l++[{ id:=f.id,coming:=true }]) s).head≠[]->_/\_/\(vl (B.l++[{ id:=f.id,coming:=true }]) s).head=_/\(vl (B.l++[{ id:=f.id,coming:=true }]) s).reset=_/\(vl (B.l++[{ id:=f.id,coming:=true }]) s).mine=_
    rw[hb];exact S.ba.headed s
   ids:=λs h1=>by
    have h1:hl (B.l++[{ id:=f.id,coming:=true }]) s:=h1
    show _/\_/\(if ownB B.client s then s<=B.own else s<=f.id)
    rcases (hh s).1 h1 with h3|h3
    ·obtain⟨a1,a2,a3⟩:=S.ba.ids s h3;refine⟨a1,a2,?_⟩;split at a3
     ·rename_i h4;rw[if_pos h4];exact a3
     ·rename_i h4;rw[if_neg h4];omega
    ·rw[h3,if_neg (by rw[hown];simp)];exact⟨by omega,hok.2.2.1,Nat.le_refl _⟩
   ownAll:=λs h1 h2 h3=>(hh s).2 (.inl (S.ba.ownAll s h1 h2 h3))
   ringIn:=λx hx=>(hh x).2 (.inl (S.ba.ringIn x hx))
   sentHas:=λx hx=>(hh x).2 (.inl (S.ba.sentHas x hx))
   introd:=λs h1=>by
    obtain⟨b,hb⟩:=hsame s;have h1:hl (B.l++[{ id:=f.id,coming:=true }]) s:=h1
    show (vl (B.l++[{ id:=f.id,coming:=true }]) s).head=_->((vl (B.l++[{ id:=f.id,coming:=true }]) s).reset=_\/_<(vl (B.l++[{ id:=f.id,coming:=true }]) s).code)->_
    rw[hb];rcases (hh s).1 h1 with h3 | h3
    ·exact S.ba.introd s h3
    ·intro _ _;rw[h3];exact .inl hAhas.1
   opens:=λg hg hg3=>⟨(hh _).2 (.inl (S.ba.opens g hg hg3).1),(S.ba.opens g hg hg3).2⟩
   peers:=λs h1 h2=>(hh s).2 (.inl (S.ba.peers s h1 h2))
   i2:=by
    have:=S.ba.i2
    rw[List.cons_append,win,if_neg (by omega)] at this
    show B.send+_+win 0 ((⟨2,f.flags,f.id,f.body⟩::P)++CA)=_
    rw[List.cons_append,win,if_neg (by simp)];exact this
   j:=λs hs=>by
    obtain⟨b,hb⟩:=hsame s
    have:=S.ba.j s hs
    rw[List.cons_append,win,if_neg (by omega)] at this
    show (vl (B.l++[{ id:=f.id,coming:=true }]) s).send+_+win s ((⟨2,f.flags,f.id,f.body⟩::P)++CA)+_<=100
    rw[List.cons_append,win,if_neg (by simp),hb];exact this
   e1:=λs=>by
    obtain⟨b,hb⟩:=hsame s
    show (vl (B.l++[{ id:=f.id,coming:=true }]) s).mine=_->_
    rw[hb];exact S.ba.e1 s
   e2:=λs=>by
    obtain⟨b,hb⟩:=hsame s
    show (vl (B.l++[{ id:=f.id,coming:=true }]) s).mine=_->(vl (B.l++[{ id:=f.id,coming:=true }]) s).bytes=_/\((vl (B.l++[{ id:=f.id,coming:=true }]) s).ending=_\/(vl (B.l++[{ id:=f.id,coming:=true }]) s).reset=_)
    rw[hb];exact S.ba.e2 s
   rst:=λs=>by
    obtain⟨b,hb⟩:=hsame s
    show (vl (B.l++[{ id:=f.id,coming:=true }]) s).reset=_->(vl (B.l++[{ id:=f.id,coming:=true }]) s).head=_/\(vl (B.l++[{ id:=f.id,coming:=true }]) s).bytes=_/\(vl (B.l++[{ id:=f.id,coming:=true }]) s).ending=_
    rw[hb];exact S.ba.rst s
   q:=λs=>by
    obtain⟨b,hb⟩:=hsame s
    show _ -> ∃ rest,_/\((vl (B.l++[{ id:=f.id,coming:=true }]) s).reset=_->rest=(vl (B.l++[{ id:=f.id,coming:=true }]) s).bytes)/\_
    rw[hb];exact S.ba.q s
   q2:=λs=>by
    obtain⟨b,hb⟩:=hsame s
    show (vl (B.l++[{ id:=f.id,coming:=true }]) s).ending=_->_
    rw[hb];exact S.ba.q2 s
   z2:=λs h1 h2 h3 h4=>by
    have h1:hl (B.l++[{ id:=f.id,coming:=true }]) s:=h1;have h2:ownB B.client s=true:=h2
    show (vl (B.l++[{ id:=f.id,coming:=true }]) s).head≠_\/_
    rw[hhd];rcases (hh s).1 h1 with h5 | h5
    ·exact S.ba.z2 s h5 h2 h3 h4
    ·rw[h5,hown] at h2;simp at h2 }
variable {A B:Cs} {U D CA CB P:List Fr} {w wA wB:Nat->Way} {r:Nat->Bool} {h:Nat->zal} {f:Fr}
theorem zmv(c:Cs)(i:Nat)(g1 g2:St->St):(c.mod i g1).mod i g2=c.mod i λs=>g2 (g1 s):=by unfold Cs.mod;dsimp only;rw[List.modify_modify_eq];rfl
theorem Sys.joins(S:Sys A B (f::P) D CA CB wA wB r h)(hk:f.kind=2):B.now≠0/\B.now=f.id/\(B.joined (f.flags/2%2 == 1) f.id f.body).2=0 /\ ∃ CB',Sys A (B.joined (f.flags/2%2 == 1) f.id f.body).1 P D CA CB' wA wB r h:=by
 have hF:=S.ab.fit;unfold Fit at hF;rw[if_neg (by omega),if_pos hk] at hF;obtain⟨hok,hn0,hn,hpre,hrest⟩:=hF;obtain⟨hp1,hp2,hp3⟩:=zxc (h f.id) (S.ab.hp f.id);have hlen:(B.block++f.body).length<=1000:=by
  have:=hpre.length_le
  omega
 have hnow:=S.ab.now hn0;rw[hn] at hnow;obtain⟨hhas,hcom,hends,hown⟩:=hnow;have hval:=(S.ab.coming f.id hcom).1;obtain⟨i,hi⟩:=zdq B.l f.id hhas;have hL:zhe f.id (f::P) P:=zhe.pop f P (by omega) f.id λh0=>by omega
 have hnd:∀ s,¬ isD s f:=λs hd=>by have:=hd.1;omega
 have hd1:∀ s,dat s P=dat s (f::P):=λs=>by simp[dat,hnd s]
 have hf1:∀ s,fin s P=fin s (f::P):=λs=>by simp[fin,hnd s]
 have ho1:∀ s e,Ord s e (f::P)->Ord s e P:=λs e hs=>by unfold Ord at hs;rw[if_neg (hnd s)] at hs;exact hs
 have hall:zbp (f::P)=zbp P:=by rw[zbp,if_neg (by omega)];omega
 have i2:=S.ab.i2;rw[hall] at i2;have hw7:∀ x,win x (P++CA)=win x ((f::P)++CA):=λx=>by rw[List.cons_append,win,if_neg (by omega),Nat.zero_add]
 have hj:=S.ab.j f.id (by omega);rw[<-hd1] at hj;have hread0:¬ 0<(wA f.id).read:=λh1=>by
  have:=(S.ab.q3 f.id h1).2 hown
  rw[hval] at this;exact this rfl
 refine⟨hn0,hn,?_⟩;unfold Cs.joined;dsimp only;rw[if_neg (by omega)];by_cases c1:(f.flags/2%2 == 1)=false
 ·rw[if_pos c1];have c1':¬ f.flags/2%2=1:=by simpa using c1
  rw[if_neg c1'] at hrest;refine⟨rfl,CB,?_,?_⟩
  ·exact S.ab.reads1 f.id { B with block:=B.block++f.body } P D CB wA rfl (λ_=>Iff.rfl) (λ_ _=>rfl) rfl (λ_ _=>rfl) rfl hL hrest S.ab.now S.ab.coming (S.ab.hdr f.id) (λ_=>rfl) (λe he => .inl he) (λe he=>he) S.ab.i1 i2 (λ_ _ _=>rfl) (λ_=>hj) (S.ab.jr f.id) (ho1 _ _ (S.ab.ord f.id)) (by rw[hf1];exact S.ab.e1 f.id) (by rw[hd1,hf1];exact S.ab.q f.id) (S.ab.q0 f.id) rfl (S.ab.q3 f.id) (S.ab.z f.id)
  ·exact S.ba.writer { B with block:=B.block++f.body } P CB rfl rfl S.ba.ctl S.ba.ctlOk (λ_=>Iff.rfl) (λ_=>zez.rfl' _) rfl rfl rfl rfl hw7
 ·rw[if_neg c1];have c1':f.flags/2%2=1:=by simpa using c1
  rw[if_pos c1'] at hrest;rw[hrest.1,hp3];dsimp only;have hat:(Cs.at? { B with block:=zah (h f.id) } (f.id:Int)).getD 0=i:=by
   have:Cs.at? { B with block:=zah (h f.id) } (f.id:Int)=some i:=by rw[zcw];exact hi
   rw[this];rfl
  rw[hat];have hcoming:∀ (t:St->St),(∀ u,(t u).id=u.id)->(t (vl B.l f.id)).coming=false -> ∀ x,(vl (B.l.modify i t) x).coming=true->vl (B.l.modify i t) x = { id:=x,coming:=true }/\(0:Nat)=x:=by
   intro t ht h1 x hx;rw[zbo B.l f.id i t ht hi] at hx;by_cases e:x=f.id
   ·rw[if_pos e,h1] at hx;simp at hx
   ·rw[if_neg e] at hx
    have:=(S.ab.coming x hx).2
    omega
  have htot:∀ (t:St->St),(t (vl B.l f.id)).unread=[]->tot (B.l.modify i t)=tot B.l:=λt ht=>by
   have:=zfl B.l i t (zcs B.l f.id i hi).1
   rw[<-zdg B.l f.id i hi,ht,hval] at this;simpa using this
  have hvs:∀ (t:St->St),(∀ u,(t u).id=u.id)->vl (B.l.modify i t) f.id=t (vl B.l f.id):=λt ht=>by rw[zbo B.l f.id i t ht hi,if_pos rfl]
  have hvn:∀ (t:St->St),(∀ u,(t u).id=u.id) -> ∀ x,x≠f.id->vl (B.l.modify i t) x=vl B.l x:=λt ht x hx=>by rw[zbo B.l f.id i t ht hi,if_neg hx]
  by_cases c2:(B.told:Int)<=Cs.count { B with block:=zah (h f.id) } false\/B.leaving=true
  ·rw[if_pos c2];refine⟨rfl,?_⟩
   let F:St->St:=λs => { s with coming:=false,unread:=[],reset:=true,head:=[],bytes:=[],ending:=false,code:=6 }
   have hF:∀ t,(F t).id=t.id:=λ_=>rfl;obtain⟨wt,hB'⟩:∃ wt,Cs.drops (Cs.mod { B with block:=[],now:=0 } i λs => { s with coming:=false }) i 6 = { B with block:=[],now:=0,l:=B.l.modify i F,ring:=Cs.ringOf B.ring f.id wt }:=by
    refine⟨(Cs.st (Cs.mod { B with block:=[],now:=0 } i F) i).waits,?_⟩;unfold Cs.drops;dsimp only;rw[zmv,zdh];have hG:∀ t:St,({ t with coming:=false }:St).id=t.id:=λ_=>rfl;have e1:(Cs.st (Cs.mod { B with block:=[],now:=0 } i λs => { s with coming:=false }) i).unread.length=0:=by
     have:Cs.st (Cs.mod { B with block:=[],now:=0 } i λs => { s with coming:=false }) i=vl (B.l.modify i λs => { s with coming:=false }) f.id:=(zdg (B.l.modify i λs => { s with coming:=false }) f.id i (by rw[zen B.l i (λs => { s with coming:=false }) hG];exact hi)).symm
     rw[this,hvs (λs => { s with coming:=false }) hG,hval];rfl
    have e2:(Cs.st (Cs.mod { B with block:=[],now:=0 } i F) i).id=f.id:=by
     have:Cs.st (Cs.mod { B with block:=[],now:=0 } i F) i=vl (B.l.modify i F) f.id:=(zdg (B.l.modify i F) f.id i (by rw[zen _ _ _ hF];exact hi)).symm
     rw[this,zgt]
    rw[e1]
    show Cs.mk _ _ _ _ _ _ (Cs.ringOf B.ring (Cs.st (Cs.mod { B with block:=[],now:=0 } i F) i).id _) _ _ (B.control++[]) _ _ _ _ _ _ _ _ _ _=_
    rw[e2,List.append_nil];rfl
   have hgoal:∃ CB',Sys A { B with block:=[],now:=0,l:=B.l.modify i F,ring:=Cs.ringOf B.ring f.id wt } P D CA CB' wA wB r h:=by
    obtain⟨ru,rh⟩:=zvu B.l (B.l.modify i F) B.ring f.id wt (λx hx=>by rw[hvn F hF x hx]) (.inl (by rw[hvs F hF])) S.ba.ringUp S.ba.ringHas;refine⟨CB,?_,?_⟩
    ·refine S.ab.reads1 f.id { B with block:=[],now:=0,l:=B.l.modify i F,ring:=Cs.ringOf B.ring f.id wt } P D CB wA rfl (zci B.l f.id i F hF hi) (hvn F hF) rfl (λ_ _=>rfl) rfl hL hrest.2 (λh0=>absurd rfl h0) (hcoming F hF rfl) (λ_ _ => ?_) (λh1 => ?_) (λe he => .inl he) (λe he=>he) ?_ i2 (λ_ _ _=>rfl) (λ_ => ?_) (λ_ h2 => ?_) ?_ (λh1 => ?_) (λh1 => ?_) (S.ab.q0 f.id) rfl (λh1=>absurd h1 hread0) (λ_ => ?_)
     ·show (vl (B.l.modify i F) f.id).headers=_\/(vl (B.l.modify i F) f.id).headers=_/\(_\/(vl (B.l.modify i F) f.id).reset=true)
      rw[hvs F hF,hval];exact .inr ⟨rfl,.inr rfl⟩
     ·rw[hval] at h1;exact absurd rfl h1
     ·show B.recv+tot (B.l.modify i F)=150
      rw[htot F rfl];exact S.ab.i1
     ·show _+_+_+(vl (B.l.modify i F) f.id).unread.length<=100
      rw[hvs F hF];show _+_+_+0<=100;omega
     ·have h2:(vl (B.l.modify i F) f.id).reset=false:=h2;rw[hvs F hF] at h2;simp[F] at h2
     ·show Ord f.id (vl (B.l.modify i F) f.id).theirs P
      rw[hvs F hF];exact ho1 _ _ (S.ab.ord f.id)
     ·show _/\(vl (B.l.modify i F) f.id).theirs=false
      rw[hvs F hF,hf1];exact S.ab.e1 f.id h1
     ·have h1:(vl (B.l.modify i F) f.id).reset=false:=h1;rw[hvs F hF] at h1;simp[F] at h1
     ·show _\/_\/(ownB B.client f.id=false/\(vl (B.l.modify i F) f.id).headers=[])
      rw[hvs F hF,hval];exact .inr (.inr ⟨hown,rfl⟩)
    ·refine S.ba.writes1 f.id { B with block:=[],now:=0,l:=B.l.modify i F,ring:=Cs.ringOf B.ring f.id wt } P CB wB rfl rfl S.ba.ctl S.ba.ctlOk (zci B.l f.id i F hF hi) (hvn F hF) rfl rfl (λ_ _=>rfl) ru rh (λx hx=>by
      rcases zlr _ _ _ x hx with h1|h1
      ·exact S.ba.ringIn x h1
      ·rw[h1];exact hhas) (λ_=>hhas) (λh1 => ?_) ?_ (λ_ _ _ => .inl (S.ab.opens f (by simp) (by omega)).1) ?_ (λx _ _=>hw7 x) (λ_ => ?_) (λh1 => ?_) (λ_ => ?_) (λh1 => ?_) (S.ba.q0 f.id) (λh1 => ?_) rfl (λ_ h1 => ?_)
     ·have h1:(vl (B.l.modify i F) f.id).head≠[]:=h1;rw[hvs F hF] at h1;exact absurd rfl h1
     ·show (vl (B.l.modify i F) f.id).mine=_;rw[hvs F hF]
     ·show B.send+zbp D+win 0 (P++CA)=_;rw[hw7];exact S.ba.i2
     ·show (vl (B.l.modify i F) f.id).send+_<=_;rw[hvs F hF,hw7];exact Nat.le_refl _
     ·show (vl (B.l.modify i F) f.id).bytes=_/\(_\/(vl (B.l.modify i F) f.id).reset=true)
      rw[hvs F hF];exact⟨rfl,.inr rfl⟩
     ·show (vl (B.l.modify i F) f.id).head=[]/\(vl (B.l.modify i F) f.id).bytes=[]/\(vl (B.l.modify i F) f.id).ending=false
      rw[hvs F hF];exact⟨rfl,rfl,rfl⟩
     ·obtain⟨rest,a1,a2,a3⟩:=S.ba.q f.id h1;refine⟨rest,a1,λh2 => ?_,a3⟩;have h2:(vl (B.l.modify i F) f.id).reset=false:=h2;rw[hvs F hF] at h2;simp[F] at h2
     ·have h1:(vl (B.l.modify i F) f.id).ending=true:=h1;rw[hvs F hF] at h1;simp[F] at h1
     ·rw[hown] at h1;simp at h1
   exact(congrArg (λc => ∃ CB',Sys A c P D CA CB' wA wB r h) hB').mpr hgoal
  ·rw[if_neg c2,if_neg (by show ¬ B.ends=true;rw[hends];simp)];refine⟨rfl,CB,?_⟩
   let F:St->St:=λs => { s with coming:=false,headers:=h f.id }
   have hF:∀ t,(F t).id=t.id:=λ_=>rfl;have hgoal:Sys A { B with block:=[],now:=0,l:=B.l.modify i F,events:=B.events++[(1,f.id,0)] } P D CA CB wA wB r h:=by
    refine⟨?_,?_⟩
    ·refine S.ab.reads1 f.id { B with block:=[],now:=0,l:=B.l.modify i F,events:=B.events++[(1,f.id,0)] } P D CB wA rfl (zci B.l f.id i F hF hi) (hvn F hF) rfl (λ_ _=>rfl) rfl hL hrest.2 (λh0=>absurd rfl h0) (hcoming F hF rfl) (λ_ _ => ?_) (λh1 => ?_) (λe he => ?_) (λe he=>List.mem_append.2 (.inl he)) ?_ i2 (λ_ _ _=>rfl) (λ_ => ?_) (λ_ _ => ?_) ?_ (λh1 => ?_) (λ_ => ?_) (S.ab.q0 f.id) rfl (λh1=>absurd h1 hread0) (λh1 => ?_)
     ·show (vl (B.l.modify i F) f.id).headers=_\/_
      rw[hvs F hF];exact .inl rfl
     ·rw[hval] at h1;exact absurd rfl h1
     ·rcases List.mem_append.1 he with h1|h1
      ·exact .inl h1
      ·rw[List.mem_singleton.1 h1];refine .inr ⟨by simp,λ_=>⟨rfl,hhas,?_⟩⟩
       show (vl (B.l.modify i F) f.id).headers=_
       rw[hvs F hF]
     ·show B.recv+tot (B.l.modify i F)=150
      rw[htot F (by rw[hval])];exact S.ab.i1
     ·show _+_+_+(vl (B.l.modify i F) f.id).unread.length<=100
      rw[hvs F hF];exact hj
     ·show (vl (B.l.modify i F) f.id).recv+(vl (B.l.modify i F) f.id).unread.length=100
      rw[hvs F hF,hval];rfl
     ·show Ord f.id (vl (B.l.modify i F) f.id).theirs P
      rw[hvs F hF];exact ho1 _ _ (S.ab.ord f.id)
     ·show _/\(vl (B.l.modify i F) f.id).theirs=false
      rw[hvs F hF,hf1];exact S.ab.e1 f.id h1
     ·show ∃ rest,_=(vl (B.l.modify i F) f.id).unread++dat f.id P++rest/\_/\(_\/(vl (B.l.modify i F) f.id).theirs=true->_)
      rw[hvs F hF,hd1,hf1];exact S.ab.q f.id (by rw[hval])
     ·have h1:(vl (B.l.modify i F) f.id).reset=true:=h1;rw[hvs F hF,hval] at h1;simp[F] at h1
    ·refine S.ba.writer { B with block:=[],now:=0,l:=B.l.modify i F,events:=B.events++[(1,f.id,0)] } P CB rfl rfl S.ba.ctl S.ba.ctlOk (zci B.l f.id i F hF hi) (λx => ?_) rfl rfl rfl rfl hw7
     show zez _ (vl (B.l.modify i F) x)
     rw[zbo B.l f.id i F hF hi];split
     ·rename_i e;subst e;exact⟨rfl,rfl,rfl,rfl,rfl,rfl,rfl⟩
     ·exact zez.rfl' _
   have e:Cs.ev (Cs.mod (Cs.mod { B with block:=[],now:=0 } i λs => { s with coming:=false }) i λs => { s with headers:=h f.id }) 1 f.id 0 = { B with block:=[],now:=0,l:=B.l.modify i F,events:=B.events++[(1,f.id,0)] }:=by rw[zmv];rfl
   exact(congrArg (λc=>Sys A c P D CA CB wA wB r h) e).mpr hgoal
theorem Sys.gets(S:Sys A B (f::P) D CA CB wA wB r h):(B.doneF f).2=0 /\ ∃ CB',Sys A (B.doneF f).1 P D CA CB' wA wB r h:=by
 by_cases h0:f.kind=0
 ·exact S.getsData h0
 by_cases h1:f.kind=1
 ·obtain⟨T,a1,a2,a3,a4,a5⟩:=S.begins h1;have e:B.doneF f=(B.begins false f.id).joined (f.flags/2%2 == 1) f.id f.body:=by
   unfold Cs.doneF Cs.done;dsimp only;rw[if_neg (by omega),if_neg (by omega),if_neg (by omega),if_neg (by omega),if_neg (by omega),if_neg (by simp[Cs.offSize,Cs.wants,h1]),if_neg (by omega),if_pos (.inl h1)];unfold Cs.blocks;rw[if_neg (by omega),if_neg (by
    rintro (h2|h2|h2)
    ·exact a3 h2
    ·have:ownB B.client f.id=true:=h2
     rw[a4] at this;simp at this
    ·omega)]
   have:(f.flags%2 == 1)=false:=by simp;omega
   rw[this]
  rw[e];exact(T.joins rfl).2.2
 by_cases h2:f.kind=2
 ·obtain⟨a1,a2,a3⟩:=S.joins h2;have e:B.doneF f=B.joined (f.flags/2%2 == 1) f.id f.body:=by
   unfold Cs.doneF Cs.done;dsimp only;rw[if_neg (by omega),if_neg (by omega),if_neg (by omega),if_neg (by omega),if_neg (by omega),if_neg (by simp[Cs.offSize,Cs.wants,h2]),if_neg (by omega),if_pos (.inr h2)];unfold Cs.blocks;rw[if_pos h2,if_neg a1]
  rw[e];exact a3
 by_cases h3:f.kind=3
 ·exact S.getsReset h3
 by_cases h7:f.kind=7
 ·exact S.getsWindow h7
 have hk:=(S.ab.fit.head h1 h2).1.1;exact S.getsCtl (by omega)
theorem Half.wp1(H:Half A B U D CA CB w r h)(p:Bytes):Half (A.wp p) B U D CA CB w r h:={ H with }
theorem Half.wp2(H:Half A B U D CA CB w r h)(p:Bytes):Half A (B.wp p) U D CA CB w r h:={ H with }
theorem Fit.ok{client:Bool}{k:Nat->Prop}{p n:Nat}{b:Bytes}(hF:Fit client h k p n b (f::P)):f.Ok:=by unfold Fit at hF;exact hF.1
end Go.Proofs.YtoijpogadkogcaaGreat
