import Derived.Test.YtoijpogadkogcaaGreatRd
namespace Go.Proofs.YtoijpogadkogcaaGreat
variable {A B:Cs} {U D CA CB:List Fr} {w wA wB:Nat->Way} {r:Nat->Bool} {h:Nat->zal}
structure zez (t t':St):Prop where
 head:t'.head=t.head
 reset:t'.reset=t.reset
 mine:t'.mine=t.mine
 send:t'.send=t.send
 bytes:t'.bytes=t.bytes
 ending:t'.ending=t.ending
 code:t'.code=t.code
structure zhd (t t':St):Prop where
 headers:t'.headers=t.headers
 theirs:t'.theirs=t.theirs
 reset:t'.reset=t.reset
 recv:t'.recv=t.recv
 unread:t'.unread=t.unread
 coming:t'.coming=t.coming
 com:t.coming=true->t'=t
theorem zez.rfl'(t:St):zez t t:=⟨rfl,rfl,rfl,rfl,rfl,rfl,rfl⟩
theorem zhd.rfl'(t:St):zhd t t:=⟨rfl,rfl,rfl,rfl,rfl,rfl,λ_=>rfl⟩
theorem Half.writer(H:Half A B U D CA CB w r h)(A':Cs)(D' CA':List Fr)(hfl:A'.failed=A.failed)(hcl:A'.client=A.client)(hctl:A'.control=CA'.map Fr.enc)(hok:∀ f∈CA',f.Ok/\zeo (hl B.l) f)
  (hh:∀ s,hl A'.l s↔hl A.l s) (hv:∀ s,zez (vl A.l s) (vl A'.l s)) (hring:A'.ring=A.ring) (hown:A'.own=A.own) (hpeer:A'.peer=A.peer) (hsend:A'.send=A.send) (hwin:∀ s,win s (D'++CB)=win s (D++CB)):Half A' B U D' CA' CB w r h where
 fl:=by rw[hfl];exact H.fl
 cl:=by rw[hcl];exact H.cl
 hp:=H.hp
 ctl:=hctl
 ctlOk:=hok
 fit:=H.fit
 now:=H.now
 coming:=H.coming
 ringUp:=by rw[hring];exact H.ringUp.imp λ{x y} k=>by rw[(hv x).head,(hv y).head];exact k
 ringHas:=λs=>by rw[(hv s).head,hring];exact H.ringHas s
 headed:=λs=>by rw[(hv s).head,(hv s).reset,(hv s).mine,hcl];exact H.headed s
 ids:=λs=>by rw[hh,hcl,hown,hpeer];exact H.ids s
 ownAll:=λs=>by rw[hh,hcl,hown];exact H.ownAll s
 ownMax:=by rw[hown];exact H.ownMax
 ownPar:=by rw[hown,hcl];exact H.ownPar
 ringIn:=λx hx=>(hh x).2 (H.ringIn x (by rw[<-hring];exact hx))
 peerLe:=by rw[hown];exact H.peerLe
 introd:=λs=>by rw[hh,(hv s).head,(hv s).reset,(hv s).code];exact H.introd s
 opens:=λf=>by rw[hh,hcl];exact H.opens f
 peers:=λs=>by rw[hh];exact H.peers s
 hdr:=H.hdr
 evs:=H.evs
 i1:=H.i1
 i2:=by rw[hsend,hwin];exact H.i2
 j:=λs=>by rw[(hv s).send,hwin];exact H.j s
 jr:=H.jr
 ord:=H.ord
 e1:=λs=>by rw[(hv s).mine];exact H.e1 s
 e2:=λs=>by rw[(hv s).mine,(hv s).bytes,(hv s).ending,(hv s).reset];exact H.e2 s
 rst:=λs=>by rw[(hv s).reset,(hv s).head,(hv s).bytes,(hv s).ending];exact H.rst s
 q:=λs=>by rw[(hv s).reset,(hv s).bytes];exact H.q s
 q0:=H.q0
 sentHas:=λs hs=>(hh s).2 (H.sentHas s hs)
 q2:=λs=>by rw[(hv s).ending];exact H.q2 s
 q3:=H.q3
 z:=H.z
 z2:=λs=>by rw[hh,hcl,(hv s).head];exact H.z2 s
theorem Half.reader(H:Half A B U D CA CB w r h)(B':Cs)(D' CB':List Fr)(hcl:B'.client=B.client)(hh:∀ s,hl B'.l s↔hl B.l s)(hv:∀ s,zhd (vl B.l s) (vl B'.l s))(hpeer:B'.peer=B.peer)(hnow:B'.now=B.now)(hblock:B'.block=B.block)(hends:B'.ends=B.ends)
  (hrecv:B'.recv=B.recv) (htot:tot B'.l=tot B.l) (hevs:∀ e∈B'.events,e∈B.events\/(e.1≠6/\e.1≠1)) (hev3:∀ e∈B.events,e.1=3->e∈B'.events) (hwin:∀ s,win s (D'++CB')=win s (D++CB)):Half A B' U D' CA CB' w r h where
 fl:=H.fl
 cl:=by rw[hcl];exact H.cl
 hp:=H.hp
 ctl:=H.ctl
 ctlOk:=λf hf=>⟨(H.ctlOk f hf).1,(H.ctlOk f hf).2.mono λs=>(hh s).2⟩
 fit:=by rw[hcl,hpeer,hnow,hblock];exact H.fit.mono λs=>(hh s).2
 now:=by rw[hnow,hh,(hv _).coming,hends,hcl];exact H.now
 coming:=λs hs=>by
  have hs':(vl B.l s).coming=true:=by rw[<- (hv s).coming];exact hs
  rw[(hv s).com hs',hnow];exact H.coming s hs'
 ringUp:=H.ringUp
 ringHas:=H.ringHas
 headed:=by rw[hpeer];exact H.headed
 ids:=H.ids
 ownAll:=H.ownAll
 ownMax:=H.ownMax
 ownPar:=H.ownPar
 ringIn:=H.ringIn
 peerLe:=by rw[hpeer];exact H.peerLe
 introd:=λs=>by rw[hh];exact H.introd s
 opens:=H.opens
 peers:=λs=>by rw[hh,hcl];exact H.peers s
 hdr:=λs=>by rw[hh,hcl,(hv s).headers,(hv s).coming,(hv s).reset];exact H.hdr s
 evs:=λe he=>by
  rw[hh,(hv _).headers];rcases hevs e he with he | he
  ·exact H.evs e he
  ·exact⟨he.1,λh1=>absurd h1 he.2⟩
 i1:=by rw[hrecv,htot];exact H.i1
 i2:=by rw[hrecv,hwin];exact H.i2
 j:=λs=>by rw[(hv s).unread,hwin];exact H.j s
 jr:=λs=>by rw[(hv s).theirs,(hv s).reset,(hv s).recv,(hv s).unread];exact H.jr s
 ord:=λs=>by rw[(hv s).theirs];exact H.ord s
 e1:=λs=>by rw[(hv s).theirs];exact H.e1 s
 e2:=H.e2
 rst:=H.rst
 q:=λs=>by rw[(hv s).reset,(hv s).unread,(hv s).theirs];exact H.q s
 q0:=H.q0
 sentHas:=H.sentHas
 q2:=H.q2
 q3:=λs=>by rw[hh,hcl,(hv s).headers];exact H.q3 s
 z:=λs=>by
  rw[(hv s).reset,hcl,(hv s).headers];intro hs;rcases H.z s hs with h1 | ⟨c,h1⟩ | h1
  ·exact .inl h1
  ·exact .inr (.inl ⟨c,hev3 _ h1 rfl⟩)
  ·exact .inr (.inr h1)
 z2:=λs=>by rw[hh];exact H.z2 s
theorem Half.sent(H:Half A B U D CA CB w r h)(Q:List Fr)(hQ:∀ f∈Q,4<=f.kind)(hfit:∀ b',Fit B.client h (λs=>hl B.l s\/opn s U) (top B.peer U) 0 b' Q):Half A B (U++Q) D CA CB w r h:=by
 have hd:∀ s,dat s (U++Q)=dat s U/\fin s (U++Q)=fin s U:=by
  intro s;obtain⟨h1,h2,-⟩:=zpv s Q λf hf hd=>by have:=hQ f hf;have:=hd.1;omega
  rw[zif,zig,h1,h2,List.append_nil,Bool.or_false];exact⟨rfl,rfl⟩
 have ht:top B.peer (U++Q)=top B.peer U:=by
  rw[znq];clear hfit hd
  induction Q with
  | nil=>rfl
  | cons f Q ih=>rw[top,if_neg (by have:=hQ f (by simp);omega)];exact ih λg hg=>hQ g (by simp[hg])
 have ho:∀ s,opn s (U++Q)↔opn s U:=by
  intro s;rw[zgu];refine⟨λx=>x.elim id λ⟨f,hf,h1,_⟩ => ?_,.inl⟩
  have:=hQ f hf
  omega
 exact { H with
  fit:=H.fit.append hfit
  headed:=by rw[ht];exact H.headed
  introd:=λs=>by rw[ho];exact H.introd s
  opens:=λf hf hk=>by
   rcases List.mem_append.1 hf with hf|hf
   ·exact H.opens f hf hk
   ·have:=hQ f hf;omega
  i2:=by rw[zoo,zwz Q (λf hf=>by have:=hQ f hf;omega)];exact H.i2
  j:=λs=>by rw[(hd s).1];exact H.j s
  ord:=λs=>(H.ord s).append ((zpv s Q λf hf hd=>by have:=hQ f hf;have:=hd.1;omega).2.2 _)
  e1:=λs=>by rw[(hd s).2];exact H.e1 s
  q:=λs=>by rw[(hd s).1,(hd s).2];exact H.q s
  z2:=λs=>by rw[ho];exact H.z2 s }
theorem Sys.control{f:Fr}(S:Sys A B U D (f::CA) CB wA wB r h):Sys { A with control:=CA.map Fr.enc } B (U++[f]) D CA CB wA wB r h:=by
 have hf:=S.ab.ctlOk f (by simp);refine⟨?_,?_⟩
 ·have H:=S.ab.writer { A with control:=CA.map Fr.enc } D CA rfl rfl rfl (λg hg=>S.ab.ctlOk g (by simp[hg])) (λs=>Iff.rfl) (λs=>zez.rfl' _) rfl rfl rfl rfl (λs=>rfl);refine H.sent [f] (λg hg => ?_) λb' => ?_
  ·rw[List.mem_singleton.1 hg];have:=hf.2.kind;omega
  ·have hk:=hf.2.kind;unfold Fit;refine⟨hf.1,?_⟩;rw[if_neg (by omega),if_neg (by omega)];exact⟨rfl,.inr (.inr (hf.2.mono λs hs => .inl hs)),rfl⟩
 ·refine S.ba.reader { A with control:=CA.map Fr.enc } _ _ rfl (λs=>Iff.rfl) (λs=>zhd.rfl' _) rfl rfl rfl rfl rfl rfl (λe he => .inl he) (λe he _=>he) λs => ?_;rw[List.append_assoc,List.singleton_append]
variable {A B:Cs} {U D CA CB:List Fr} {w wA wB:Nat->Way} {r:Nat->Bool} {h:Nat->zal}
theorem zzbcf(c:Cs)(room:Int)(b:Bytes)(c':Cs)(e:c.turned room=some (b,c')):∃ k s i,c.ring[k]? = some s/\al c.l s=some i/\c.can i=true/\(∀ m x i',m<k->c.ring[m]? = some x->al c.l x=some i'->c.can i'=false)/\(c.turn i room).1=b/\b≠[]/\c'=Cs.rings { (c.turn i room).2 with ring:=c.ring.eraseIdx k } i:=by
 unfold Cs.turned at e;obtain⟨k,hk,e⟩:=Option.bind_eq_some_iff.1 e;obtain⟨i,hi,e⟩:=Option.bind_eq_some_iff.1 e;unfold Cs.ready at hk;obtain⟨hlt,hp,hno⟩:=List.findIdx?_eq_some_iff_getElem.1 hk;have hg:c.ring.getD k 0=c.ring[k]:=by simp[List.getD_eq_getElem?_getD,hlt]
 rw[hg,zcw] at hi;rw[zcw,hi] at hp;dsimp only at e hp;split at e
 ·simp at e
 ·rename_i hne
  have e:=Option.some.inj e;refine⟨k,c.ring[k],i,by simp[hlt],hi,hp,λm x i' hm hx hi' => ?_,congrArg Prod.fst e,?_,(congrArg Prod.snd e).symm⟩
  ·have hml:m<c.ring.length:=by omega
   have:=hno m hm
   have ex:c.ring[m]=x:=by rw[List.getElem?_eq_getElem hml] at hx;exact Option.some.inj hx
   rw[ex,zcw,hi'] at this;simpa using this
  ·have e1:(c.turn i room).1=b:=congrArg Prod.fst e;intro h0;rw[e1,h0] at hne;exact hne rfl
theorem zca(c:Cs)(s i:Nat)(hi:al c.l s=some i):c.st i=vl c.l s:=(zdg c.l s i hi).symm
theorem zzbjz(p:Nat)(Q:List Fr)(hQ:∀ f∈Q,f.kind≠1):top p Q=p:=by
 induction Q with
 | nil=>rfl
 | cons f Q ih=>rw[top,if_neg (hQ f (by simp))];exact ih λg hg=>hQ g (by simp[hg])
theorem Half.sends(H:Half A B U D CA CB w r h){s i:Nat}(hi:al A.l s=some i)(F:St->St)(hF:∀ t,(F t).id=t.id)(A':Cs)(hl':A'.l=A.l.modify i F)(hfl:A'.failed=A.failed)(hcl:A'.client=A.client)(hctl:A'.control=A.control)(hown:A'.own=A.own)(hpeer:A'.peer=A.peer)(Q:List Fr)
  (k1:(F (vl A.l s)).head=[]) (k2:(F (vl A.l s)).reset=(vl A.l s).reset) (k3:(F (vl A.l s)).ending=(vl A.l s).ending)
  (ru:A'.ring.Pairwise λx y=>(vl A'.l x).head≠[]->(vl A'.l y).head≠[]->x<y) (rh:∀ x,(vl A'.l x).head≠[]->x∈A'.ring) (rin:∀ x∈A'.ring,x∈A.ring\/x=s)
  (ht:∀ x,x≠s->(vl A.l x).head≠[]->top B.peer (U++Q)<x)
  (hfit:∀ b',Fit B.client h (λx=>hl B.l x\/opn x U) (top B.peer U) 0 b' Q) (hin:hl B.l s\/opn s (U++Q)) (hid:∀ f∈Q,f.id=s) (hop:∀ f∈Q,f.kind=1\/f.kind=2->ownB A.client s=true)
  (hs:A'.send+zbp Q=A.send) (hj:(F (vl A.l s)).send+(dat s Q).length<=(vl A.l s).send)
  (hord:Ord s ((vl B.l s).theirs || fin s U) Q) (hm:(F (vl A.l s)).mine=((vl A.l s).mine || fin s Q)) (hb:(vl A.l s).bytes=dat s Q++(F (vl A.l s)).bytes)
  (hfin:fin s Q=true->(F (vl A.l s)).bytes=[]/\(vl A.l s).ending=true/\(vl A.l s).reset=false):Half A' B (U++Q) D CA CB w r h:=by
 have hv:∀ x,vl A'.l x=if x=s then F (vl A.l s) else vl A.l x:=λx=>by rw[hl'];exact zbo A.l s i F hF hi x
 have hvs:vl A'.l s=F (vl A.l s):=by rw[hv,if_pos rfl]
 have hvn:∀ x,x≠s->vl A'.l x=vl A.l x:=λx hx=>by rw[hv,if_neg hx]
 have hh:∀ x,hl A'.l x↔hl A.l x:=λx=>by rw[hl'];exact zci A.l s i F hF hi x
 have hnd:∀ x,x≠s->dat x (U++Q)=dat x U/\fin x (U++Q)=fin x U /\ ∀ e,Ord x e Q:=by
  intro x hx;obtain⟨h1,h2,h3⟩:=zpv x Q λf hf hd=>hx (by rw[<-hid f hf];exact hd.2.symm)
  exact⟨by rw[zif,h1,List.append_nil],by rw[zig,h2,Bool.or_false],h3⟩
 have hopn:∀ x,opn x U->opn x (U++Q):=λx hx=>(zgu x U Q).2 (.inl hx);exact {
  fl:=by rw[hfl];exact H.fl
  cl:=by rw[hcl];exact H.cl
  hp:=H.hp
  ctl:=by rw[hctl];exact H.ctl
  ctlOk:=H.ctlOk
  fit:=H.fit.append hfit
  now:=H.now
  coming:=H.coming
  ringUp:=ru
  ringHas:=rh
  headed:=λx hx=>by
   by_cases e:x=s
   ·rw[e,hvs] at hx;exact absurd k1 hx
   ·rw[hvn x e] at hx ⊢;obtain⟨a1,a2,a3⟩:=H.headed x hx;rw[hcl];exact⟨a1,ht x e hx,a3⟩
  ids:=λx=>by rw[hh,hcl,hown,hpeer];exact H.ids x
  ownAll:=λx=>by rw[hh,hcl,hown];exact H.ownAll x
  ownMax:=by rw[hown];exact H.ownMax
  ownPar:=by rw[hown,hcl];exact H.ownPar
  ringIn:=λx hx=>(hh x).2 (by
   rcases rin x hx with h1|h1
   ·exact H.ringIn x h1
   ·rw[h1];exact zem A.l s i hi)
  peerLe:=by rw[hown];exact H.peerLe
  introd:=λx hx h1 h2=>by
   by_cases e:x=s
   ·rw[e];exact hin
   ·rw[hvn x e] at h1 h2;exact(H.introd x ((hh x).1 hx) h1 h2).imp id (hopn x)
  opens:=λf hf hk=>by
   rw[hh,hcl];rcases List.mem_append.1 hf with hf | hf
   ·exact H.opens f hf hk
   ·rw[hid f hf];exact⟨zem A.l s i hi,hop f hf⟩
  peers:=λx=>by rw[hh];exact H.peers x
  hdr:=H.hdr
  evs:=H.evs
  i1:=H.i1
  i2:=by rw[zoo];have:=H.i2;omega
  j:=λx hx=>by
   have:=H.j x hx
   by_cases e:x=s
   ·subst e;rw[hvs,zif,List.length_append];omega
   ·rw[hvn x e,(hnd x e).1];exact this
  jr:=H.jr
  ord:=λx=>by
   by_cases e:x=s
   ·subst e;exact(H.ord x).append hord
   ·exact(H.ord x).append ((hnd x e).2.2 _)
  e1:=λx hx=>by
   by_cases e:x=s
   ·subst e;rw[hvs,hm,Bool.or_eq_false_iff] at hx;rw[zig,hx.2,Bool.or_false];exact H.e1 x hx.1
   ·rw[hvn x e] at hx;rw[(hnd x e).2.1];exact H.e1 x hx
  e2:=λx hx=>by
   by_cases e:x=s
   ·subst e;rw[hvs] at hx ⊢;rw[hm,Bool.or_eq_true] at hx;rw[k2,k3];rcases hx with hx | hx
    ·obtain⟨a1,a2⟩:=H.e2 x hx;rw[a1] at hb;exact⟨(List.append_eq_nil_iff.1 hb.symm).2,a2⟩
    ·exact⟨(hfin hx).1,.inl (hfin hx).2.1⟩
   ·rw[hvn x e] at hx ⊢;exact H.e2 x hx
  rst:=λx hx=>by
   by_cases e:x=s
   ·subst e;rw[hvs] at hx ⊢;rw[k2] at hx;obtain⟨a1,a2,a3⟩:=H.rst x hx;rw[a2] at hb;exact⟨k1,(List.append_eq_nil_iff.1 hb.symm).2,by rw[k3];exact a3⟩
   ·rw[hvn x e] at hx ⊢;exact H.rst x hx
  q:=λx hx=>by
   by_cases e:x=s
   ·subst e;obtain⟨rest,a1,a2,a3⟩:=H.q x hx;rw[hvs,k2,zif,zig];cases hr:(vl A.l x).reset with
    | false =>
     refine⟨(F (vl A.l x)).bytes,?_,λ_=>rfl,λhf => ?_⟩
     ·rw[a1,a2 hr,hb];simp only[List.append_assoc]
     ·by_cases hq:fin x Q=true
      ·exact⟨(hfin hq).1,H.q2 x (hfin hq).2.1⟩
      ·have hf':fin x U=true\/(vl B.l x).theirs=true:=by
        rcases hf with hf|hf
        ·rw[Bool.or_eq_true] at hf;exact .inl (hf.resolve_right hq)
        ·exact .inr hf
       obtain⟨b1,b2⟩:=a3 hf'
       have:dat x Q++(F (vl A.l x)).bytes=[]:=by rw[<-hb,<-a2 hr];exact b1
       exact⟨(List.append_eq_nil_iff.1 this).2,b2⟩
    | true =>
     have hbs:=(H.rst x hr).2.1;rw[hb] at hbs;have hd:dat x Q=[]:=(List.append_eq_nil_iff.1 hbs).1;refine⟨rest,by rw[a1,hd,List.append_nil],λhx=>absurd hx (by simp),λhf=>a3 ?_⟩;rcases hf with hf | hf
     ·rw[Bool.or_eq_true] at hf;rcases hf with hf | hf
      ·exact .inl hf
      ·have:=(hfin hf).2.2;rw[hr] at this;exact absurd this (by simp)
     ·exact .inr hf
   ·rw[hvn x e,(hnd x e).1,(hnd x e).2.1];exact H.q x hx
  q0:=H.q0
  sentHas:=λx hx=>(hh x).2 (H.sentHas x hx)
  q2:=λx hx=>by
   by_cases e:x=s
   ·subst e;rw[hvs,k3] at hx;exact H.q2 x hx
   ·rw[hvn x e] at hx;exact H.q2 x hx
  q3:=H.q3
  z:=H.z
  z2:=λx hx ho hb' hno=>by
   by_cases e:x=s
   ·subst e;exact absurd hin (by rintro (h1 | h1)<;>contradiction)
   ·rw[hvn x e];exact H.z2 x ((hh x).1 hx) (by rw[<-hcl];exact ho) hb' λh1=>hno (hopn x h1) }
def zct(s:Nat):List Bytes->Nat
 | []=>0
 | x::l=>(if (x.getD 2 0).toNat=7/\Cs.num x 4=s then Cs.num x 6 else 0)+zct s l
theorem zfw(s:Nat)(a b:List Bytes):zct s (a++b)=zct s a+zct s b:=by
 induction a with
 | nil=>simp[zct]
 | cons x a ih=>simp only[List.cons_append,zct,ih,Nat.add_assoc]
theorem zkx(f:Fr)(h:f.kind<=255):(f.enc.getD 2 0).toNat=f.kind:=by rw[zdd];simp only[List.getD_cons_succ,List.getD_cons_zero];exact zel _ (by omega)
theorem zxa(f:Fr)(h:f.flags<=255):(f.enc.getD 3 0).toNat=f.flags:=by rw[zdd];simp only[List.getD_cons_succ,List.getD_cons_zero];exact zel _ (by omega)
theorem zzbmt(f:Fr)(h:f.id<65536):Cs.num f.enc 4=f.id:=by rw[zdd];simp only[Cs.num,List.getD_cons_succ,List.getD_cons_zero,Nat.reduceAdd];rw[zel _ (by omega),zel _ (by omega)];omega
theorem zzbls(f:Fr):Cs.num f.enc 6=Cs.num f.body 0:=by rw[zdd];simp only[Cs.num,List.getD_cons_succ,Nat.reduceAdd,Nat.zero_add]
theorem zsq(s:Nat)(Q:List Fr)(h:∀ f∈Q,f.Ok):zct s (Q.map Fr.enc)=win s Q:=by
 induction Q with
 | nil=>rfl
 | cons f Q ih =>
  obtain⟨h1,h2,h3,h4⟩:=h f (by simp);rw[List.map_cons,zct,win,ih λg hg=>h g (by simp[hg]),zkx f (by omega),zzbmt f h3,zzbls]
theorem zzbae(s:Nat)(f:Fr)(h:f.kind<=255)(h7:f.kind≠7):zct s [f.enc]=0:=by rw[zct,zkx f h,if_neg (by omega)];rfl
def setB(t:Nat)(x:Bytes):Prop:=(x.getD 2 0).toNat=4->(x.getD 3 0).toNat%2=0->(x.getD 6 0).toNat<=t
theorem zxb(t:Nat)(f:Fr)(h:f.kind<=255)(h4:f.kind≠4):setB t f.enc:=λh0 _=>by rw[zkx f h] at h0;exact absurd h0 h4
theorem zpw(l:List St)(i:Nat)(F:St->St)(hF:∀ t,(F t).id=t.id):(l.modify i F).map St.id=l.map St.id:=by
 induction l generalizing i with
 | nil=>simp
 | cons t l ih =>
  cases i with
  | zero=>rw[List.modify_zero_cons,List.map_cons,List.map_cons,hF]
  | succ i=>rw[List.modify_succ_cons,List.map_cons,List.map_cons,ih]
structure Mv (A A':Cs) (Q:List Fr):Prop where
 client:A'.client=A.client
 own:A'.own=A.own
 limit:A'.limit=A.limit
 told:A'.told=A.told
 leaving:A'.leaving=A.leaving
 peer:A'.peer=A.peer
 ids:A'.l.map St.id=A.l.map St.id
 has:∀ s,hl A'.l s↔hl A.l s
 reset:∀ s,(vl A'.l s).reset=(vl A.l s).reset
 theirs:∀ s,(vl A'.l s).theirs=(vl A.l s).theirs
 coming:∀ s,(vl A'.l s).coming=(vl A.l s).coming
 mono:∀ s,(vl A.l s).mine=true->(vl A'.l s).mine=true
 mine:∀ s,(vl A'.l s).mine=true->(vl A.l s).mine=true\/fin s Q=true
 ending:∀ s,(vl A.l s).ending=true->(vl A'.l s).ending=true
 sd:∀ s,(vl A'.l s).mine=false->(vl A'.l s).send+(dat s Q).length=(vl A.l s).send
 wu:∀ s,s≠0->(vl A.l s).theirs=false->win s Q+zct s A'.control+(vl A'.l s).unread.length=zct s A.control+(vl A.l s).unread.length
 ctl:∀ t,(∀ x∈A.control,setB t x)->(∀ x∈A'.control,setB t x) /\ ∀ f∈Q,setB t f.enc
theorem Mv.one{A A':Cs}{s i:Nat}(hi:al A.l s=some i)(F:St->St)(hF:∀ t,(F t).id=t.id)(hl':A'.l=A.l.modify i F)(h1:A'.client=A.client)(h2:A'.own=A.own)(h3:A'.limit=A.limit)(h4:A'.told=A.told)(h5:A'.leaving=A.leaving)(h6:A'.peer=A.peer)
  (k1:(F (vl A.l s)).reset=(vl A.l s).reset) (k2:(F (vl A.l s)).theirs=(vl A.l s).theirs) (k3:(F (vl A.l s)).coming=(vl A.l s).coming) (k4:(F (vl A.l s)).mine=(vl A.l s).mine) (k5:(vl A.l s).ending=true->(F (vl A.l s)).ending=true) (k6:(F (vl A.l s)).send=(vl A.l s).send)
  (k7:s≠0->(vl A.l s).theirs=false->zct s A'.control+(F (vl A.l s)).unread.length=zct s A.control+(vl A.l s).unread.length) (k8:∀ x,x≠0->x≠s->zct x A'.control=zct x A.control)
  (k9:∀ t,(∀ x∈A.control,setB t x) -> ∀ x∈A'.control,setB t x):Mv A A' []:=by
 have ex:∀ (x:Nat) (R:St->Prop),(x=s->R (F (vl A.l s)))->(x≠s->R (vl A.l x))->R (vl A'.l x):=λx R q1 q2=>by
  rw[hl',zbo A.l s i F hF hi x];by_cases e:x=s
  ·rw[if_pos e];exact q1 e
  ·rw[if_neg e];exact q2 e
 refine⟨h1,h2,h3,h4,h5,h6,by rw[hl',zpw _ _ _ hF],λx=>by rw[hl'];exact zci A.l s i F hF hi x,λx => ?_,λx => ?_,λx => ?_,λx hx => ?_,λx => ?_,λx hx => ?_,λx _ => ?_,λx h0 hx => ?_,λt ht=>⟨k9 t ht,λf hf=>by cases hf⟩⟩
 ·exact ex x (λt=>t.reset=_) (λe=>by rw[e];exact k1) λ_=>rfl
 ·exact ex x (λt=>t.theirs=_) (λe=>by rw[e];exact k2) λ_=>rfl
 ·exact ex x (λt=>t.coming=_) (λe=>by rw[e];exact k3) λ_=>rfl
 ·exact ex x (λt=>t.mine=true) (λe=>by rw[k4,<-e];exact hx) λ_=>hx
 ·exact ex x (λt=>t.mine=true->_) (λe q => .inl (by rw[e,<-k4];exact q)) λ_ q => .inl q
 ·exact ex x (λt=>t.ending=true) (λe=>k5 (by rw[<-e];exact hx)) λ_=>hx
 ·exact ex x (λt=>t.send+_=_) (λe=>by rw[k6,e];rfl) λ_=>rfl
 ·rw[win,Nat.zero_add];exact ex x (λt=>_+t.unread.length=_) (λe=>by subst e;exact k7 h0 hx) λe=>by rw[k8 x h0 e]
theorem Mv.pop{A:Cs}{f:Fr}{r:List Bytes}(hc:A.control=f.enc::r)(hf:f.Ok)(h4:4<=f.kind):Mv A { A with control:=r } [f]:=by
 have hd:∀ s,¬ isD s f:=λs hd=>by have:=hd.1;omega
 refine⟨rfl,rfl,rfl,rfl,rfl,rfl,rfl,λ_=>Iff.rfl,λ_=>rfl,λ_=>rfl,λ_=>rfl,λ_=>id,λ_ hx => .inl hx,λ_=>id,λs _ => ?_,λs h0 _ => ?_,λt ht=>⟨λx hx=>ht x ?_,λg hg => ?_⟩⟩
 ·simp[dat,hd s]
 ·have e:=zsq s [f] (λg hg=>by rw[List.mem_singleton.1 hg];exact hf);rw[<-e,hc]
  show zct s [f.enc]+zct s r+_=zct s ([f.enc]++r)+_
  rw[zfw]
 ·rw[hc];exact List.mem_cons_of_mem _ hx
 ·rw[List.mem_singleton.1 hg];exact ht _ (by rw[hc];exact List.mem_cons_self)
theorem zvt{A:Cs}{s i k:Nat}(hi:al A.l s=some i)(F:St->St)(hF:∀ t,(F t).id=t.id)(snd:Nat)(Q:List Fr)(r2:(F (vl A.l s)).theirs=(vl A.l s).theirs)(r4:(F (vl A.l s)).unread=(vl A.l s).unread)(r5:(F (vl A.l s)).coming=(vl A.l s).coming)(k2:(F (vl A.l s)).reset=(vl A.l s).reset)(k3:(F (vl A.l s)).ending=(vl A.l s).ending)
  (hid:∀ f∈Q,f.id=s) (hk:∀ f∈Q,f.kind<=3) (hm:(F (vl A.l s)).mine=((vl A.l s).mine || fin s Q)) (he:(F (vl A.l s)).mine=false->(F (vl A.l s)).send+(dat s Q).length=(vl A.l s).send) :
  Mv A (Cs.rings { A with l:=A.l.modify i F,ring:=A.ring.eraseIdx k,send:=snd } i) Q:=by
 have hv:∀ x,vl (A.l.modify i F) x=if x=s then F (vl A.l s) else vl A.l x:=λx=>zbo A.l s i F hF hi x
 have hvs:vl (A.l.modify i F) s=F (vl A.l s):=by rw[hv,if_pos rfl]
 have hvn:∀ x,x≠s->vl (A.l.modify i F) x=vl A.l x:=λx hx=>by rw[hv,if_neg hx]
 have hnd:∀ x,x≠s->dat x Q=[]:=λx hx=>(zpv x Q λf hf hd=>hx (by rw[<-hid f hf];exact hd.2.symm)).1
 have hw:∀ x,win x Q=0:=λx=>zum x Q λf hf => .inl (by have:=hk f hf;omega)
 refine⟨rfl,rfl,rfl,rfl,rfl,rfl,zpw _ _ _ hF,λx=>zci A.l s i F hF hi x,λx => ?_,λx => ?_,λx => ?_,λx hx => ?_,λx hx => ?_,λx hx => ?_,λx hx => ?_,λx h0 hx => ?_,λt ht=>⟨ht,λf hf=>zxb t f (by have:=hk f hf;omega) (by have:=hk f hf;omega)⟩⟩
 ·show (vl (A.l.modify i F) x).reset=_
  by_cases e:x=s
  ·subst e;rw[hvs];exact k2
  ·rw[hvn x e]
 ·show (vl (A.l.modify i F) x).theirs=_
  by_cases e:x=s
  ·subst e;rw[hvs];exact r2
  ·rw[hvn x e]
 ·show (vl (A.l.modify i F) x).coming=_
  by_cases e:x=s
  ·subst e;rw[hvs];exact r5
  ·rw[hvn x e]
 ·show (vl (A.l.modify i F) x).mine=_
  by_cases e:x=s
  ·subst e;rw[hvs,hm,hx];rfl
  ·rw[hvn x e];exact hx
 ·replace hx:(vl (A.l.modify i F) x).mine=true:=hx;by_cases e:x=s
  ·subst e;rw[hvs,hm,Bool.or_eq_true] at hx;exact hx
  ·rw[hvn x e] at hx;exact .inl hx
 ·show (vl (A.l.modify i F) x).ending=_
  by_cases e:x=s
  ·subst e;rw[hvs,k3];exact hx
  ·rw[hvn x e];exact hx
 ·replace hx:(vl (A.l.modify i F) x).mine=false:=hx
  show (vl (A.l.modify i F) x).send+_=_
  by_cases e:x=s
  ·subst e;rw[hvs] at hx ⊢;exact he hx
  ·rw[hvn x e,hnd x e];rfl
 ·show win x Q+zct x A.control+(vl (A.l.modify i F) x).unread.length=_
  rw[hw,Nat.zero_add];by_cases e:x=s
  ·subst e;rw[hvs,r4]
  ·rw[hvn x e]
variable {A B:Cs} {U D CA CB:List Fr} {w wA wB:Nat->Way} {r:Nat->Bool} {h:Nat->zal}
theorem zzbcg(l l':List St)(ring:List Nat)(k s:Nat)(hk:ring[k]? = some s)(wt:Bool)(hv:∀ x,x≠s->(vl l' x).head=(vl l x).head)(hs:(vl l' s).head=[])
  (ru:ring.Pairwise λx y=>(vl l x).head≠[]->(vl l y).head≠[]->x<y) (rh:∀ x,(vl l x).head≠[]->x∈ring) :
  ((Cs.ringOf (ring.eraseIdx k) s wt).Pairwise λx y=>(vl l' x).head≠[]->(vl l' y).head≠[]->x<y) /\ ∀ x,(vl l' x).head≠[]->x∈Cs.ringOf (ring.eraseIdx k) s wt:=by
 have hle:∀ x,(vl l' x).head≠[]->x≠s/\(vl l x).head≠[]:=by
  intro x hx;have hxs:x≠s:=λe=>hx (by rw[e];exact hs)
  exact⟨hxs,by rw[<-hv x hxs];exact hx⟩
 unfold Cs.ringOf;constructor
 ·rw[List.pairwise_append];refine⟨?_,?_,?_⟩
  ·exact(((ru.sublist (List.eraseIdx_sublist _ _)).sublist List.filter_sublist)).imp λ{x y} h1 hx hy=>h1 (hle x hx).2 (hle y hy).2
  ·split<;>simp
  ·intro x _ y hy _ hy'
   have:y=s:=by
    split at hy
    ·exact List.mem_singleton.1 hy
    ·simp at hy
   exact absurd this (hle y hy').1
 ·intro x hx;obtain⟨hxs,hx'⟩:=hle x hx;refine List.mem_append.2 (.inl (List.mem_filter.2 ⟨?_,by simp[hxs]⟩));rw[List.mem_eraseIdx_iff_getElem?];obtain⟨m,hm⟩:=List.mem_iff_getElem?.1 (rh x hx');refine⟨m,λe => ?_,hm⟩;rw[e,hk] at hm;exact hxs (Option.some.inj hm).symm
theorem zlr(ring:List Nat)(s:Nat)(wt:Bool)(x:Nat)(hx:x∈Cs.ringOf ring s wt):x∈ring\/x=s:=by
 unfold Cs.ringOf at hx;rcases List.mem_append.1 hx with h1 | h1
 ·exact .inl (List.mem_filter.1 h1).1
 ·split at h1
  ·exact .inr (List.mem_singleton.1 h1)
  ·simp at h1
theorem Sys.goes(S:Sys A B U D CA CB wA wB r h){s i k:Nat}(hk:A.ring[k]? = some s)(hi:al A.l s=some i)(F:St->St)(hF:∀ t,(F t).id=t.id)(snd:Nat)(Q:List Fr)
  (r1:(F (vl A.l s)).headers=(vl A.l s).headers) (r2:(F (vl A.l s)).theirs=(vl A.l s).theirs) (r3:(F (vl A.l s)).recv=(vl A.l s).recv) (r4:(F (vl A.l s)).unread=(vl A.l s).unread) (r5:(F (vl A.l s)).coming=(vl A.l s).coming) (r6:(vl A.l s).coming=false)
  (k1:(F (vl A.l s)).head=[]) (k2:(F (vl A.l s)).reset=(vl A.l s).reset) (k3:(F (vl A.l s)).ending=(vl A.l s).ending)
  (ht:∀ x,x≠s->(vl A.l x).head≠[]->top B.peer (U++Q)<x)
  (hfit:∀ b',Fit B.client h (λx=>hl B.l x\/opn x U) (top B.peer U) 0 b' Q) (hin:hl B.l s\/opn s (U++Q)) (hid:∀ f∈Q,f.id=s) (hop:∀ f∈Q,f.kind=1\/f.kind=2->ownB A.client s=true) (h7:∀ f∈Q,f.kind≠7)
  (hs:snd+zbp Q=A.send) (hj:(F (vl A.l s)).send+(dat s Q).length<=(vl A.l s).send)
  (hord:Ord s ((vl B.l s).theirs || fin s U) Q) (hm:(F (vl A.l s)).mine=((vl A.l s).mine || fin s Q)) (hb:(vl A.l s).bytes=dat s Q++(F (vl A.l s)).bytes)
  (hfin:fin s Q=true->(F (vl A.l s)).bytes=[]/\(vl A.l s).ending=true/\(vl A.l s).reset=false) :
  Sys (Cs.rings { A with l:=A.l.modify i F,ring:=A.ring.eraseIdx k,send:=snd } i) B (U++Q) D CA CB wA wB r h:=by
 have hv:∀ x,vl (A.l.modify i F) x=if x=s then F (vl A.l s) else vl A.l x:=zbo A.l s i F hF hi
 have hst:Cs.st { A with l:=A.l.modify i F,ring:=A.ring.eraseIdx k,send:=snd } i=vl (A.l.modify i F) s:=(zdg _ s i (by rw[zen _ _ _ hF];exact hi)).symm;have hring:(Cs.rings { A with l:=A.l.modify i F,ring:=A.ring.eraseIdx k,send:=snd } i).ring=Cs.ringOf (A.ring.eraseIdx k) s (vl (A.l.modify i F) s).waits:=by
  show Cs.ringOf (A.ring.eraseIdx k) _ _=_
  rw[hst,zgt]
 obtain⟨ru,rh⟩:=zzbcg A.l (A.l.modify i F) A.ring k s hk (vl (A.l.modify i F) s).waits (λx hx=>by rw[hv,if_neg hx]) (by rw[hv,if_pos rfl];exact k1) S.ab.ringUp S.ab.ringHas;refine⟨?_,?_⟩
 ·exact S.ab.sends hi F hF (Cs.rings { A with l:=A.l.modify i F,ring:=A.ring.eraseIdx k,send:=snd } i) rfl rfl rfl rfl rfl rfl Q k1 k2 k3 (by rw[hring];exact ru) (by rw[hring];exact rh) (λx hx=>by rw[hring] at hx;exact(zlr _ _ _ x hx).imp (λh1=>List.mem_of_mem_eraseIdx h1) id) ht hfit hin hid hop hs hj hord hm hb hfin
 ·refine S.ba.reader (Cs.rings { A with l:=A.l.modify i F,ring:=A.ring.eraseIdx k,send:=snd } i) _ _ rfl (λx=>zci A.l s i F hF hi x) (λx => ?_) rfl rfl rfl rfl rfl ?_ (λe he => .inl he) (λe he _=>he) λx => ?_
  ·show zhd _ (vl (A.l.modify i F) x)
   rw[hv];split
   ·rename_i e;subst e
    exact⟨r1,r2,k2,r3,r4,r5,λhc=>by rw[r6] at hc;simp at hc⟩
   ·exact zhd.rfl' _
  ·have:=zfl A.l i F (zcs A.l s i hi).1
   rw[<-zdg A.l s i hi,r4] at this
   show tot (A.l.modify i F)=tot A.l
   omega
  ·rw[zbm,zbm,zbm,zum x Q λf hf => .inl (h7 f hf)];omega
theorem znr(m:zal)(hm:zbi m=true):zah m≠[]:=by
 have h1:1<=m.length:=by unfold zbi at hm;simp only[Bool.and_eq_true,decide_eq_true_eq] at hm;exact hm.1.1
 cases m with
 | nil=>simp at h1
 | cons p m =>
  intro e
  have:=congrArg List.length e
  have:=zna p
  simp only[zah,List.length_append,List.length_nil] at *;omega
theorem zqk{a b:Bool}(hc:a = !b)(s:Nat):ownB a s = !ownB b s:=by subst hc;unfold ownB;cases b<;>cases (s%2 == 1)<;>rfl
theorem Sys.turnM(S:Sys A B U D CA CB wA wB r h)(room:Int)(b:Bytes)(A':Cs)(e:A.turned room=some (b,A')):∃ Q,encs Q=b/\(∀ f∈Q,f.kind<=3)/\((∀ s,(vl A.l s).code=0)->(∀ f∈Q,f.kind≠3)/\Mv A A' Q)/\Sys A' B (U++Q) D CA CB wA wB r h:=by
 obtain⟨k,s,i,hk,hi,hcan,hfirst,hb,hbne,hA'⟩:=zzbcf A room b A' e;have hst:A.st i=vl A.l s:=zca A s i hi;have hcom:(vl A.l s).coming=false:=by
  cases hc:(vl A.l s).coming with
  | false=>rfl
  | true =>
   exfalso;rw[Cs.can,Cs.data,hst,(S.ba.coming s hc).1] at hcan;simp at hcan
 have hhas:=zem A.l s i hi;obtain⟨hs1,hs2,-⟩:=S.ab.ids s hhas;have hsame:∀ Q:List Fr,(∀ f∈Q,f.kind≠1) -> ∀ x,x≠s->(vl A.l x).head≠[]->top B.peer (U++Q)<x:=by intro Q hQ x _ hx;rw[znq,zzbjz _ Q hQ];exact(S.ab.headed x hx).2.1
 subst hA';unfold Cs.turn at hb ⊢;rw[hst] at hb ⊢;dsimp only at hb ⊢;by_cases c1:0<(vl A.l s).head.length
 ·rw[if_pos c1] at hb ⊢;by_cases c2:((vl A.l s).head.length:Int)<=room
  ·rw[if_pos c2] at hb ⊢;have hne:(vl A.l s).head≠[]:=List.length_pos_iff.1 c1;obtain⟨a1,a2,a3,a4,a5⟩:=S.ab.headed s hne;have hE:=znr (h s) (S.ab.hp s);obtain⟨t1,t2⟩:=zzbfm s (zah (h s)) hE (top B.peer U);have hno:∀ f∈zgy s (zah (h s)),f.kind≠0/\f.kind≠7:=λf hf=>by
    have:=(zgv s _ f hf).1;omega
   obtain⟨n1,n2,n3⟩:=zpv s (zgy s (zah (h s))) λf hf hd=>(hno f hf).1 hd.1;refine⟨zgy s (zah (h s)),by rw[zun,<-a3];exact hb,λf hf=>(by have:=(zgv s _ f hf).1;omega),λ_=>⟨λf hf=>(by have:=(zgv s _ f hf).1;omega),zvt hi (λs => { s with head:=[] }) (λ_=>rfl) A.send _ rfl rfl rfl rfl rfl (λf hf=>(zgv s _ f hf).2) (λf hf=>(by have:=(zgv s _ f hf).1;omega)) (by rw[n2];simp) (λ_=>by rw[n1];rfl)⟩,?_⟩;refine S.goes hk hi (λs => { s with head:=[] }) (λ_=>rfl) A.send _ rfl rfl rfl rfl rfl hcom rfl rfl rfl ?_ (λb' => ?_) (.inr ((zgu _ _ _).2 (.inr t2))) (λf hf=>(zgv s _ f hf).2) (λ_ _ _=>a1) (λf hf=>(hno f hf).2) ?_ ?_ (n3 _) ?_ ?_ ?_
   ·intro x hx hx';rw[znq,t1];obtain⟨m,hm⟩:=List.mem_iff_getElem?.1 (S.ab.ringHas x hx');have hxi:∃ i',al A.l x=some i':=by
     refine zdq A.l x ?_;apply Classical.byContradiction;intro hn;rw[zhc A.l x hn] at hx';exact hx' rfl
    obtain⟨i',hi'⟩:=hxi;have hkm:¬ m<k:=by
     intro hlt
     have:=hfirst m x i' hlt hm hi'
     rw[Cs.can,zca A x i' hi'] at this;have hpos:=List.length_pos_iff.2 hx';simp[hpos] at this
    have hne':m≠k:=by intro e';rw[e',hk] at hm;exact hx (Option.some.inj hm).symm
    obtain⟨hkl,hke⟩:=List.getElem?_eq_some_iff.1 hk;obtain⟨hml,hme⟩:=List.getElem?_eq_some_iff.1 hm
    have:=List.pairwise_iff_getElem.1 S.ab.ringUp k m hkl hml (by omega)
    rw[hke,hme] at this;exact this hne hx'
   ·exact zzbfn B.client h s hs2 _ _ b' hE (by rw[zqk S.ab.cl] at a1;simpa using a1) a2
   ·rw[zwz _ λf hf=>(hno f hf).1];rfl
   ·rw[n1];simp
   ·rw[n2];simp
   ·rw[n1];rfl
   ·rw[n2];simp
  ·rw[if_neg c2] at hb;exact absurd hb.symm hbne
 ·rw[if_neg c1] at hb ⊢;have hh0:(vl A.l s).head=[]:=List.eq_nil_of_length_eq_zero (by omega);by_cases c2:0<(vl A.l s).code
  ·rw[if_pos c2] at hb ⊢;by_cases c3:7<=room
   ·rw[if_pos c3] at hb ⊢;refine⟨[⟨3,0,s,[UInt8.ofNat (vl A.l s).code]⟩],by rw[zno,<-hb,zgt];rfl,by simp,λhcd=>absurd (hcd s) (by omega),?_⟩;have hin:=S.ab.introd s hhas hh0 (.inr c2);refine S.goes hk hi (λs => { s with code:=0 }) (λ_=>rfl) A.send _ rfl rfl rfl rfl rfl hcom hh0 rfl rfl (hsame _ (by simp)) (λb' => ?_) (hin.imp id λx=>(zgu _ _ _).2 (.inl x)) (by simp) (by simp) (by simp) (by simp[zbp]) (by simp[dat,isD]) (by simp[Ord,isD]) (by simp[fin,isD]) (by simp[dat,isD]) (by simp[fin,isD]);unfold Fit;refine⟨⟨by simp,by simp,hs2,by simp⟩,?_⟩;rw[if_neg (by simp),if_neg (by simp)];exact⟨rfl,.inr (.inl ⟨rfl,hin,rfl⟩),rfl⟩
   ·rw[if_neg c3] at hb;exact absurd hb.symm hbne
  ·rw[if_neg c2] at hb ⊢;have hfitD:∀ (fl:Nat) (body:Bytes),fl<=1->body.length<=64->(vl A.l s).reset=false -> ∀ b',Fit B.client h (λx=>hl B.l x\/opn x U) (top B.peer U) 0 b' [⟨0,fl,s,body⟩]:=by
    intro fl body hfl hbl hrs b';unfold Fit;refine⟨⟨by simp,by dsimp only;omega,hs2,hbl⟩,?_⟩;rw[if_neg (by simp),if_neg (by simp)];exact⟨rfl,.inl ⟨rfl,S.ab.introd s hhas hh0 (.inl hrs)⟩,rfl⟩
   by_cases c3:0<(vl A.l s).bytes.length
   ·rw[if_pos c3] at hb ⊢;have hrs:(vl A.l s).reset=false:=by
     cases hr:(vl A.l s).reset with
     | false=>rfl
     | true=>rw[(S.ab.rst s hr).2.1] at c3;simp at c3
    have hmine:(vl A.l s).mine=false:=by
     cases hr:(vl A.l s).mine with
     | false=>rfl
     | true=>rw[(S.ab.e2 s hr).1] at c3;simp at c3
    by_cases c4:min (A.data i:Int) (room-6)<1
    ·rw[if_pos c4] at hb;exact absurd hb.symm hbne
    ·rw[if_neg c4] at hb ⊢;generalize hn:(min (A.data i:Int) (room-6)).toNat=n at hb ⊢;have hn1:1<=n/\n<=(vl A.l s).bytes.length/\n<=64/\n<=A.send/\n<=(vl A.l s).send:=by
      have:A.data i=min (min (min (vl A.l s).bytes.length 64) A.send) (vl A.l s).send:=by unfold Cs.data;rw[hst]
      omega
     generalize hlast:((vl A.l s).ending && decide (n=(vl A.l s).bytes.length))=last at hb ⊢;have hfl:(if last=true then 1 else 0)%2=(if last=true then 1 else 0)/\(if last=true then 1 else 0)<=1:=by cases last<;>simp
     have hfin1:fin s [⟨0,if last=true then 1 else 0,s,(vl A.l s).bytes.take n⟩]=last:=by
      cases last<;>simp[fin,isD]
     have hdat1:dat s [⟨0,if last=true then 1 else 0,s,(vl A.l s).bytes.take n⟩]=(vl A.l s).bytes.take n:=by simp[dat,isD]
     have hin:=S.ab.introd s hhas hh0 (.inl hrs);obtain⟨f1,f2⟩:=S.ab.e1 s hmine;refine⟨[⟨0,if last=true then 1 else 0,s,(vl A.l s).bytes.take n⟩],by rw[zno,<-hb,zgt];rfl,by simp,λ_=>⟨by simp,zvt hi (λs => { s with mine:=s.mine || last,bytes:=s.bytes.drop n,send:=s.send-n }) (λ_=>rfl) (A.send-n) _ rfl rfl rfl rfl rfl (by simp) (by simp) (by rw[hfin1]) (λ_=>by rw[hdat1,List.length_take];dsimp only;omega)⟩,?_⟩;refine S.goes hk hi (λs => { s with mine:=s.mine || last,bytes:=s.bytes.drop n,send:=s.send-n }) (λ_=>rfl) (A.send-n) _ rfl rfl rfl rfl rfl hcom hh0 rfl rfl (hsame _ (by simp)) (hfitD _ _ hfl.2 (by simp;omega) hrs) (hin.imp id λx=>(zgu _ _ _).2 (.inl x)) (by simp) (by simp) (by simp) ?_ ?_ ?_ ?_ ?_ ?_
     ·simp only[zbp,if_true,List.length_take];omega
     ·rw[hdat1,List.length_take];dsimp only;omega
     ·rw[f1,f2];simp[Ord,isD]
     ·rw[hfin1]
     ·rw[hdat1];exact(List.take_append_drop _ _).symm
     ·rw[hfin1];intro hl1;rw[hl1,Bool.and_eq_true,decide_eq_true_eq] at hlast;exact⟨List.drop_of_length_le (by omega),hlast.1,hrs⟩
   ·rw[if_neg c3] at hb ⊢;have hb0:(vl A.l s).bytes=[]:=List.eq_nil_of_length_eq_zero (by omega);by_cases c4:6<=room
    ·rw[if_pos c4] at hb ⊢;have hend:(vl A.l s).ending=true/\(vl A.l s).mine=false:=by
      rw[Cs.can,Cs.data,hst] at hcan;simp only[Bool.or_eq_true,decide_eq_true_eq,Bool.and_eq_true,Bool.not_eq_true'] at hcan;rcases hcan with ((h1 | h1) | h1) | h1
      ·omega
      ·omega
      ·omega
      ·exact⟨h1.1.2,h1.2⟩
     have hrs:(vl A.l s).reset=false:=by
      cases hr:(vl A.l s).reset with
      | false=>rfl
      | true=>rw[(S.ab.rst s hr).2.2] at hend;simp at hend
     have hin:=S.ab.introd s hhas hh0 (.inl hrs);obtain⟨f1,f2⟩:=S.ab.e1 s hend.2;refine⟨[⟨0,1,s,[]⟩],by rw[zno,<-hb,zgt];rfl,by simp,λ_=>⟨by simp,zvt hi (λs => { s with mine:=true }) (λ_=>rfl) A.send _ rfl rfl rfl rfl rfl (by simp) (by simp) (by simp[fin,isD]) (λh0=>by cases h0)⟩,?_⟩;refine S.goes hk hi (λs => { s with mine:=true }) (λ_=>rfl) A.send _ rfl rfl rfl rfl rfl hcom hh0 rfl rfl (hsame _ (by simp)) (hfitD _ _ (by omega) (by simp) hrs) (hin.imp id λx=>(zgu _ _ _).2 (.inl x)) (by simp) (by simp) (by simp) (by simp[zbp]) (by simp[dat,isD]) ?_ (by simp[fin,isD]) (by simp[dat,isD]) ?_
     ·rw[f1,f2];simp[Ord,isD]
     ·intro _;exact⟨hb0,hend.1,hrs⟩
    ·rw[if_neg c4] at hb;exact absurd hb.symm hbne
theorem Sys.turn(S:Sys A B U D CA CB wA wB r h)(room:Int)(b:Bytes)(A':Cs)(e:A.turned room=some (b,A')):∃ Q,encs Q=b/\(∀ f∈Q,f.kind<=3)/\Sys A' B (U++Q) D CA CB wA wB r h:=by obtain⟨Q,h1,h2,-,h3⟩:=S.turnM room b A' e;exact⟨Q,h1,h2,h3⟩
variable {A B:Cs} {U D CA CB:List Fr} {w wA wB:Nat->Way} {r:Nat->Bool} {h:Nat->zal}
theorem Half.knows(H:Half A B U D CA CB w r h){r':Nat->Bool}(hr:∀ s,r s=true->r' s=true):Half A B U D CA CB w r' h :=
 { H with
  z:=λs hs=>(H.z s hs).imp (hr s) id
  z2:=λs h1 h2 h3 h4=>(H.z2 s h1 h2 h3 h4).imp id (hr s) }
structure zhe (s:Nat) (U U':List Fr):Prop where
 mem:∀ f∈U',f∈U
 topE:∀ p,top p U'=top p U
 opnE:∀ x,opn x U'↔opn x U
 datE:∀ x,x≠s->dat x U'=dat x U
 finE:∀ x,x≠s->fin x U'=fin x U
 ordE:∀ x e,x≠s->Ord x e U->Ord x e U'
theorem zhe.rfl'(s:Nat)(U:List Fr):zhe s U U:=⟨λ_ h=>h,λ_=>rfl,λ_=>Iff.rfl,λ_ _=>rfl,λ_ _=>rfl,λ_ _ _ h=>h⟩
theorem zhe.pop(f:Fr)(P:List Fr)(hk:f.kind≠1)(s:Nat)(hs:f.kind=0->f.id=s):zhe s (f::P) P:=by
 have hd:∀ x,x≠s -> ¬ isD x f:=λx hx hd=>hx (by rw[<-hs hd.1];exact hd.2.symm)
 refine⟨λg hg=>by simp[hg],λp=>by rw[top,if_neg hk],λx => ?_,λx hx => ?_,λx hx => ?_,λx e hx ho => ?_⟩
 ·rw[zhj];exact⟨.inr,λh1=>h1.elim (λh2=>absurd h2.1 hk) id⟩
 ·simp[dat,hd x hx]
 ·simp[fin,hd x hx]
 ·unfold Ord at ho;rw[if_neg (hd x hx)] at ho;exact ho
theorem Half.reads1(H:Half A B U D CA CB w r h)(s:Nat)(B':Cs)(U' D' CB':List Fr)(w':Nat->Way)(hcl:B'.client=B.client)(hh:∀ x,hl B'.l x↔hl B.l x)(hv:∀ x,x≠s->vl B'.l x=vl B.l x)(hpeer:B'.peer=B.peer)(hw:∀ x,x≠s->w' x=w x)(hsent:(w' s).sent=(w s).sent)(hL:zhe s U U')
  (fit':Fit B.client h (hl B.l) B.peer B'.now B'.block U')
  (now':B'.now≠0->hl B'.l B'.now/\(vl B'.l B'.now).coming=true/\B'.ends=false/\ownB B'.client B'.now=false)
  (coming':∀ x,(vl B'.l x).coming=true->vl B'.l x = { id:=x,coming:=true }/\B'.now=x)
  (hdr':hl B.l s->ownB B.client s=false->(vl B'.l s).headers=h s\/((vl B'.l s).headers=[]/\((vl B'.l s).coming=true\/(vl B'.l s).reset=true)))
  (hhd:(vl B.l s).headers≠[]->(vl B'.l s).headers=(vl B.l s).headers)
  (evs':∀ e∈B'.events,e∈B.events\/(e.1≠6/\(e.1=1->e.2.1=s/\hl B.l s/\(vl B'.l s).headers=h s)))
  (ev3:∀ e∈B.events,e∈B'.events)
  (i1':B'.recv+tot B'.l=150) (i2':A.send+zbp U'+win 0 (D'++CB')=B'.recv) (win':∀ x,x≠0->x≠s->win x (D'++CB')=win x (D++CB))
  (j':s≠0->(vl A.l s).send+(dat s U').length+win s (D'++CB')+(vl B'.l s).unread.length<=100)
  (jr':(vl B'.l s).theirs=false->(vl B'.l s).reset=false->(vl B'.l s).recv+(vl B'.l s).unread.length=100)
  (ord':Ord s (vl B'.l s).theirs U') (e1':(vl A.l s).mine=false->fin s U'=false/\(vl B'.l s).theirs=false)
  (q':(vl B'.l s).reset=false -> ∃ rest,(w' s).sent.drop (w' s).read=(vl B'.l s).unread++dat s U'++rest/\((vl A.l s).reset=false->rest=(vl A.l s).bytes)/\(fin s U'=true\/(vl B'.l s).theirs=true->rest=[]/\(w' s).ended=true))
  (q0':(w' s).read<=(w' s).sent.length) (q2':(w' s).ended=(w s).ended) (q3':0<(w' s).read->hl B.l s/\(ownB B.client s=false->(vl B'.l s).headers≠[]))
  (z':(vl B'.l s).reset=true->r s=true\/(∃ c,(3,s,c)∈B'.events)\/(ownB B'.client s=false/\(vl B'.l s).headers=[])):Half A B' U' D' CA CB' w' r h where
 fl:=H.fl
 cl:=by rw[hcl];exact H.cl
 hp:=H.hp
 ctl:=H.ctl
 ctlOk:=λf hf=>⟨(H.ctlOk f hf).1,(H.ctlOk f hf).2.mono λx=>(hh x).2⟩
 fit:=by rw[hcl,hpeer];exact fit'.mono λx=>(hh x).2
 now:=now'
 coming:=coming'
 ringUp:=H.ringUp
 ringHas:=H.ringHas
 headed:=by rw[hpeer,hL.topE];exact H.headed
 ids:=H.ids
 ownAll:=H.ownAll
 ownMax:=H.ownMax
 ownPar:=H.ownPar
 ringIn:=H.ringIn
 peerLe:=by rw[hpeer];exact H.peerLe
 introd:=λx=>by rw[hh,hL.opnE];exact H.introd x
 opens:=λf hf=>H.opens f (hL.mem f hf)
 peers:=λx=>by rw[hh,hcl];exact H.peers x
 hdr:=λx hx ho=>by
  rw[hh] at hx;rw[hcl] at ho;by_cases e:x=s
  ·subst e;exact hdr' hx ho
  ·rw[hv x e];exact H.hdr x hx ho
 evs:=λe he=>by
  rw[hh];rcases evs' e he with h1 | h1
  ·have:=H.evs e h1
   refine⟨this.1,λh2=>⟨(this.2 h2).1,?_⟩⟩;by_cases es:e.2.1=s
   ·have h3:=this.2 h2;rw[es] at h3 ⊢;by_cases hne:(vl B.l s).headers=[]
    ·have hp:=H.hp s;rw[<-h3.2,hne] at hp;simp[zbi] at hp
    ·rw[hhd hne];exact h3.2
   ·rw[hv _ es];exact(this.2 h2).2
  ·refine⟨h1.1,λh2 => ?_⟩;obtain⟨a1,a2,a3⟩:=h1.2 h2;rw[a1];exact⟨a2,a3⟩
 i1:=i1'
 i2:=i2'
 j:=λx hx=>by
  by_cases e:x=s
  ·subst e;exact j' hx
  ·rw[hL.datE x e,win' x hx e,hv x e];exact H.j x hx
 jr:=λx=>by
  by_cases e:x=s
  ·subst e;exact jr'
  ·rw[hv x e];exact H.jr x
 ord:=λx=>by
  by_cases e:x=s
  ·subst e;exact ord'
  ·rw[hv x e];exact hL.ordE x _ e (H.ord x)
 e1:=λx hx=>by
  by_cases e:x=s
  ·subst e;exact e1' hx
  ·rw[hL.finE x e,hv x e];exact H.e1 x hx
 e2:=H.e2
 rst:=H.rst
 q:=λx hx=>by
  by_cases e:x=s
  ·subst e;exact q' hx
  ·rw[hv x e] at hx ⊢;rw[hw x e,hL.datE x e,hL.finE x e];exact H.q x hx
 q0:=λx=>by
  by_cases e:x=s
  ·subst e;exact q0'
  ·rw[hw x e];exact H.q0 x
 sentHas:=λx hx=>by
  by_cases e:x=s
  ·subst e;rw[hsent] at hx;exact H.sentHas x hx
  ·rw[hw x e] at hx;exact H.sentHas x hx
 q2:=λx hx=>by
  by_cases e:x=s
  ·subst e;rw[q2'];exact H.q2 x hx
  ·rw[hw x e];exact H.q2 x hx
 q3:=λx hx=>by
  rw[hh,hcl];by_cases e:x=s
  ·subst e;exact q3' hx
  ·rw[hw x e] at hx;rw[hv x e];exact H.q3 x hx
 z:=λx hx=>by
  by_cases e:x=s
  ·subst e;exact z' hx
  ·rw[hv x e] at hx ⊢;rw[hcl];rcases H.z x hx with h1 | ⟨c,h1⟩ | h1
   ·exact .inl h1
   ·exact .inr (.inl ⟨c,ev3 _ h1⟩)
   ·exact .inr (.inr h1)
 z2:=λx=>by rw[hh,hL.opnE];exact H.z2 x
theorem Half.writes1(H:Half A B U D CA CB w r h)(s:Nat)(A':Cs)(D' CA':List Fr)(w':Nat->Way)(hfl:A'.failed=A.failed)(hcl:A'.client=A.client)(hctl:A'.control=CA'.map Fr.enc)(hok:∀ f∈CA',f.Ok/\zeo (hl B.l) f)
  (hh:∀ x,hl A'.l x↔hl A.l x) (hv:∀ x,x≠s->vl A'.l x=vl A.l x) (hown:A'.own=A.own) (hpeer:A'.peer=A.peer) (hw:∀ x,x≠s->w' x=w x)
  (ru:A'.ring.Pairwise λx y=>(vl A'.l x).head≠[]->(vl A'.l y).head≠[]->x<y) (rh:∀ x,(vl A'.l x).head≠[]->x∈A'.ring) (rin:∀ x∈A'.ring,hl A.l x) (hsent:(w' s).sent≠[]->hl A.l s)
  (headed':(vl A'.l s).head≠[]->(vl A'.l s).head=(vl A.l s).head/\(vl A'.l s).reset=(vl A.l s).reset) (mine':(vl A'.l s).mine=(vl A.l s).mine)
  (introd':hl A.l s->(vl A'.l s).head=[]->((vl A'.l s).reset=false\/0<(vl A'.l s).code)->hl B.l s\/opn s U)
  (i2':A'.send+zbp U+win 0 (D'++CB)=B.recv) (win':∀ x,x≠0->x≠s->win x (D'++CB)=win x (D++CB))
  (j':s≠0->(vl A'.l s).send+win s (D'++CB)<=(vl A.l s).send+win s (D++CB))
  (e2':(vl A'.l s).mine=true->(vl A'.l s).bytes=[]/\((vl A'.l s).ending=true\/(vl A'.l s).reset=true))
  (rst':(vl A'.l s).reset=true->(vl A'.l s).head=[]/\(vl A'.l s).bytes=[]/\(vl A'.l s).ending=false)
  (q':(vl B.l s).reset=false -> ∃ rest,(w' s).sent.drop (w' s).read=(vl B.l s).unread++dat s U++rest/\((vl A'.l s).reset=false->rest=(vl A'.l s).bytes)/\(fin s U=true\/(vl B.l s).theirs=true->rest=[]/\(w' s).ended=true))
  (q0':(w' s).read<=(w' s).sent.length) (q2':(vl A'.l s).ending=true->(w' s).ended=true) (q3':(w' s).read=(w s).read)
  (z2':hl A.l s->ownB A.client s=true -> ¬ hl B.l s -> ¬ opn s U->(vl A'.l s).head≠[]\/r s=true):Half A' B U D' CA' CB w' r h where
 fl:=by rw[hfl];exact H.fl
 cl:=by rw[hcl];exact H.cl
 hp:=H.hp
 ctl:=hctl
 ctlOk:=hok
 fit:=H.fit
 now:=H.now
 coming:=H.coming
 ringUp:=ru
 ringHas:=rh
 headed:=λx hx=>by
  rw[hcl];by_cases e:x=s
  ·subst e;obtain⟨a1,a2⟩:=headed' hx;rw[a1] at hx;rw[a1,a2,mine'];exact H.headed x hx
  ·rw[hv x e] at hx ⊢;exact H.headed x hx
 ids:=λx=>by rw[hh,hcl,hown,hpeer];exact H.ids x
 ownAll:=λx=>by rw[hh,hcl,hown];exact H.ownAll x
 ownMax:=by rw[hown];exact H.ownMax
 ownPar:=by rw[hown,hcl];exact H.ownPar
 ringIn:=λx hx=>(hh x).2 (rin x hx)
 peerLe:=by rw[hown];exact H.peerLe
 introd:=λx hx h1 h2=>by
  rw[hh] at hx;by_cases e:x=s
  ·subst e;exact introd' hx h1 h2
  ·rw[hv x e] at h1 h2;exact H.introd x hx h1 h2
 opens:=λf=>by rw[hh,hcl];exact H.opens f
 peers:=λx=>by rw[hh];exact H.peers x
 hdr:=H.hdr
 evs:=H.evs
 i1:=H.i1
 i2:=i2'
 j:=λx hx=>by
  have:=H.j x hx
  by_cases e:x=s
  ·subst e;have:=j' hx;omega
  ·rw[hv x e,win' x hx e];exact this
 jr:=H.jr
 ord:=H.ord
 e1:=λx hx=>by
  by_cases e:x=s
  ·subst e;rw[mine'] at hx;exact H.e1 x hx
  ·rw[hv x e] at hx;exact H.e1 x hx
 e2:=λx hx=>by
  by_cases e:x=s
  ·subst e;exact e2' hx
  ·rw[hv x e] at hx ⊢;exact H.e2 x hx
 rst:=λx hx=>by
  by_cases e:x=s
  ·subst e;exact rst' hx
  ·rw[hv x e] at hx ⊢;exact H.rst x hx
 q:=λx hx=>by
  by_cases e:x=s
  ·subst e;exact q' hx
  ·rw[hv x e,hw x e];exact H.q x hx
 q0:=λx=>by
  by_cases e:x=s
  ·subst e;exact q0'
  ·rw[hw x e];exact H.q0 x
 sentHas:=λx hx=>by
  rw[hh];by_cases e:x=s
  ·subst e;exact hsent hx
  ·rw[hw x e] at hx;exact H.sentHas x hx
 q2:=λx hx=>by
  by_cases e:x=s
  ·subst e;exact q2' hx
  ·rw[hv x e] at hx;rw[hw x e];exact H.q2 x hx
 q3:=λx hx=>by
  by_cases e:x=s
  ·subst e;rw[q3'] at hx;exact H.q3 x hx
  ·rw[hw x e] at hx;exact H.q3 x hx
 z:=H.z
 z2:=λx hx ho h1 h2=>by
  rw[hh] at hx;rw[hcl] at ho;by_cases e:x=s
  ·subst e;exact z2' hx ho h1 h2
  ·rw[hv x e];exact H.z2 x hx ho h1 h2
variable {A B:Cs} {U D CA CB P:List Fr} {w wA wB:Nat->Way} {r:Nat->Bool} {h:Nat->zal} {f:Fr}
def wfs(id n:Nat):List Fr:=if 0<n then [⟨7,0,id,two n⟩] else []
theorem zdh(c:Cs)(id n:Nat):c.gives id n = { c with control:=c.control++(wfs id n).map Fr.enc }:=by
 unfold Cs.gives wfs;split
 ·rfl
 ·simp
theorem zmu(id n:Nat)(hn:n<65536):win id (wfs id n)=n:=by
 unfold wfs;split
 ·have:=zvs n hn []
  rw[List.append_nil] at this;simp[win,this]
 ·simp[win];omega
theorem zdu(id n x:Nat)(hx:x≠id):win x (wfs id n)=0:=by
 refine zum x _ λf hf => ?_;unfold wfs at hf;split at hf
 ·rw[List.mem_singleton.1 hf];exact .inr λe=>hx e.symm
 ·simp at hf
theorem zpx(id n:Nat)(k:Nat->Prop)(hid:id<65536)(hn:n<65536)(hk:id=0\/k id)(f:Fr)(hf:f∈wfs id n):f.Ok/\zeo k f:=by
 unfold wfs at hf;split at hf
 ·rw[List.mem_singleton.1 hf]
  have:=zvs n hn []
  rw[List.append_nil] at this;exact⟨⟨by simp,by simp,hid,by simp[two]⟩,.inr (.inr (.inr ⟨rfl,hk,rfl,by dsimp only;omega⟩))⟩
 ·simp at hf
theorem Half.knownOf(H:Half A B U D CA CB w r h)(s:Nat)(hs:hl A.l s):A.known (s:Int)=true:=by
 obtain⟨h1,h2,h3⟩:=H.ids s hs;unfold Cs.known;have e:A.owns (s:Int).toNat=ownB A.client s:=rfl;have e2:(s:Int).toNat=s:=rfl;rw[e,e2];split at h3
 ·rename_i ho;rw[if_pos ho];simp;omega
 ·rename_i ho;rw[if_neg ho];simp;omega
theorem Fit.head{client:Bool}{k:Nat->Prop}{p n:Nat}{b:Bytes}(hF:Fit client h k p n b (f::P))(h1:f.kind≠1)(h2:f.kind≠2):f.Ok/\n=0/\((f.kind=0/\k f.id)\/(f.kind=3/\k f.id/\f.body.length=1)\/zeo k f)/\Fit client h k p n b P:=by unfold Fit at hF;rw[if_neg h1,if_neg h2] at hF;exact hF
theorem Sys.getsData(S:Sys A B (f::P) D CA CB wA wB r h)(hk:f.kind=0):(B.doneF f).2=0 /\ ∃ CB',Sys A (B.doneF f).1 P D CA CB' wA wB r h:=by
 obtain⟨hok,hnow,hkk,hfit⟩:=S.ab.fit.head (by omega) (by omega);have hs:hl B.l f.id:=by
  rcases hkk with h1|h1|h1
  ·exact h1.2
  ·omega
  ·have:=h1.kind;omega
 obtain⟨i,hi⟩:=zdq B.l f.id hs;obtain⟨hs1,hs2,-⟩:=S.ba.ids f.id hs;have hkn:=S.ba.knownOf f.id hs;have hdone:B.doneF f=B.comes (f.flags%2 == 1) f.id f.body:=by unfold Cs.doneF Cs.done;dsimp only;rw[if_neg (by omega),if_neg (by omega),if_neg (by rw[hkn];simp),if_neg (by omega),if_neg (by omega),if_neg (by simp[Cs.offSize,Cs.wants,hk]),if_pos hk]
 have hd:isD f.id f:=⟨hk,rfl⟩;have hL:zhe f.id (f::P) P:=zhe.pop f P (by omega) f.id λ_=>rfl
 have hdat:dat f.id (f::P)=f.body++dat f.id P:=by rw[dat,if_pos hd]
 have hall:zbp (f::P)=f.body.length+zbp P:=by rw[zbp,if_pos hk]
 have i2:=S.ab.i2;rw[hall] at i2;have hj:=S.ab.j f.id (by omega);rw[hdat,List.length_append] at hj;have hord:=S.ab.ord f.id;unfold Ord at hord;rw[if_pos hd] at hord;have hst:B.st i=vl B.l f.id:=zca B f.id i hi;have hb64:=hok.2.2.2;have hw7:∀ x,win x ((f::P)++CA)=win x (P++CA):=λx=>by rw[List.cons_append,win,if_neg (by omega),Nat.zero_add]
 rw[hdone];unfold Cs.comes;dsimp only;rw[if_neg (by omega),zcw,hi];dsimp only;rw[hst,zdh];by_cases c1:(vl B.l f.id).reset=true
 ·rw[if_pos c1];refine⟨rfl,CB++wfs 0 f.body.length,?_,?_⟩
  ·refine S.ab.reads1 f.id _ P D (CB++wfs 0 f.body.length) wA rfl (λ_=>Iff.rfl) (λ_ _=>rfl) rfl (λ_ _=>rfl) rfl hL hfit S.ab.now S.ab.coming (S.ab.hdr f.id) (λ_=>rfl) (λe he => .inl he) (λe he=>he) S.ab.i1 ?_ (λx hx _ => ?_) (λ_ => ?_) (S.ab.jr f.id) ?_ (λhm => ?_) (λhr => ?_) (S.ab.q0 f.id) rfl (S.ab.q3 f.id) (S.ab.z f.id)
   ·show A.send+zbp P+win 0 (D++(CB++wfs 0 f.body.length))=B.recv
    rw[<-List.append_assoc,zbm,zmu _ _ (by omega)];omega
   ·rw[<-List.append_assoc,zbm,zdu _ _ _ hx];rfl
   ·show (vl A.l f.id).send+(dat f.id P).length+win f.id (D++(CB++wfs 0 f.body.length))+(vl B.l f.id).unread.length<=100
    rw[<-List.append_assoc,zbm,zdu _ _ _ (by omega)];omega
   ·show Ord f.id (vl B.l f.id).theirs P
    rw[hord.1];cases hfl:(f.flags%2 == 1) with
    | false=>rw[<-hfl];exact hord.2
    | true=>have:=hord.2;rw[hfl] at this;exact this.weak
   ·have:=S.ab.e1 f.id hm
    rw[fin] at this;exact⟨(Bool.or_eq_false_iff.1 this.1).2,this.2⟩
   ·exact absurd c1 (by rw[show (vl B.l f.id).reset=false from hr];simp)
  ·refine S.ba.writer _ P (CB++wfs 0 f.body.length) rfl rfl ?_ (λg hg => ?_) (λ_=>Iff.rfl) (λ_=>zez.rfl' _) rfl rfl rfl rfl λx=>(hw7 x).symm
   ·show B.control++_=_;rw[S.ba.ctl,List.map_append]
   ·rcases List.mem_append.1 hg with hg|hg
    ·exact S.ba.ctlOk g hg
    ·exact zpx 0 _ _ (by omega) (by omega) (.inl rfl) g hg
 ·have c1':(vl B.l f.id).reset=false:=by simpa using c1
  have hcom:(vl B.l f.id).coming=false:=by
   cases hc:(vl B.l f.id).coming with
   | false=>rfl
   | true=>have:=(S.ab.coming f.id hc).2;omega
  rw[if_neg c1,if_neg (by rw[hord.1];simp)];have hjr:=S.ab.jr f.id hord.1 c1';rw[if_neg (by omega)];have htot:∀ F:St->St,tot (B.l.modify i F)+(vl B.l f.id).unread.length=tot B.l+(F (vl B.l f.id)).unread.length:=λF=>by
   have:=zfl B.l i F (zcs B.l f.id i hi).1
   rw[<-zdg B.l f.id i hi] at this;exact this
  have hother:∀ t:St->St,(∀ u,(t u).id=u.id)->(∀ u,zez u (t u)) -> ∀ es:List (Nat×Nat×Nat),∀ n,Half { B with recv:=n,l:=B.l.modify i t,events:=es } A D P CB CA wB r h:=λt ht hs es n=>by
   refine S.ba.writer _ P CB rfl rfl S.ba.ctl S.ba.ctlOk (λx=>zci B.l f.id i t ht hi x) (λx => ?_) rfl rfl rfl rfl λx=>(hw7 x).symm
   show zez _ (vl (B.l.modify i t) x)
   rw[zbo B.l f.id i t ht hi];split
   ·rename_i e;subst e;exact hs _
   ·exact zez.rfl' _
  have hthis:∀ (t:St->St) (es:List (Nat×Nat×Nat)),(∀ u,(t u).id=u.id)->(t (vl B.l f.id)).unread=(vl B.l f.id).unread++f.body->(t (vl B.l f.id)).recv=(vl B.l f.id).recv-f.body.length->(t (vl B.l f.id)).theirs=(f.flags%2 == 1)->(t (vl B.l f.id)).reset=(vl B.l f.id).reset->(t (vl B.l f.id)).coming=(vl B.l f.id).coming->(t (vl B.l f.id)).headers=(vl B.l f.id).headers->(∀ e∈es,e∈B.events\/e.1=2)->(∀ e∈B.events,e∈es)->Half A { B with recv:=B.recv-f.body.length,l:=B.l.modify i t,events:=es } P D CA CB wA r h:=by
   intro t es ht t1 t2 t3 t4 t5 t6 hes hes';have hv:∀ x,vl (B.l.modify i t) x=if x=f.id then t (vl B.l f.id) else vl B.l x:=zbo B.l f.id i t ht hi
   have hvs:vl (B.l.modify i t) f.id=t (vl B.l f.id):=by rw[hv,if_pos rfl]
   have hh:∀ x,hl (B.l.modify i t) x↔hl B.l x:=zci B.l f.id i t ht hi;refine S.ab.reads1 f.id { B with recv:=B.recv-f.body.length,l:=B.l.modify i t,events:=es } P D CB wA rfl hh (λx hx=>by show vl (B.l.modify i t) x=_;rw[hv,if_neg hx]) rfl (λ_ _=>rfl) rfl hL hfit (λhn=>absurd hnow hn) (λx hc => ?_) (λh1 h2 => ?_) (λ_ => ?_) (λe he => ?_) hes' ?_ ?_ (λ_ _ _=>rfl) (λ_ => ?_) (λ_ _ => ?_) ?_ (λhm => ?_) (λhr => ?_) (S.ab.q0 f.id) rfl (λhr => ?_) (λhr => ?_)
   ·have hc:(vl (B.l.modify i t) x).coming=true:=hc
    show vl (B.l.modify i t) x=_/\_
    by_cases e:x=f.id
    ·subst e;rw[hvs,t5,hcom] at hc;simp at hc
    ·rw[hv,if_neg e] at hc ⊢;exact S.ab.coming x hc
   ·show (vl (B.l.modify i t) f.id).headers=_\/(vl (B.l.modify i t) f.id).headers=_/\((vl (B.l.modify i t) f.id).coming=_\/(vl (B.l.modify i t) f.id).reset=_)
    rw[hvs,t6,t5,t4];exact S.ab.hdr f.id h1 h2
   ·show (vl (B.l.modify i t) f.id).headers=_;rw[hvs,t6]
   ·rcases hes e he with h1|h1
    ·exact .inl h1
    ·exact .inr ⟨by omega,λh2=>by omega⟩
   ·show B.recv-f.body.length+tot (B.l.modify i t)=150
    have:=htot t
    rw[t1,List.length_append] at this
    have:=S.ab.i1
    omega
   ·show A.send+zbp P+win 0 (D++CB)=B.recv-f.body.length
    omega
   ·show (vl A.l f.id).send+(dat f.id P).length+win f.id (D++CB)+(vl (B.l.modify i t) f.id).unread.length<=100
    rw[hvs,t1,List.length_append];omega
   ·show (vl (B.l.modify i t) f.id).recv+(vl (B.l.modify i t) f.id).unread.length=100
    rw[hvs,t1,t2,List.length_append];omega
   ·show Ord f.id (vl (B.l.modify i t) f.id).theirs P
    rw[hvs,t3];exact hord.2
   ·show _/\(vl (B.l.modify i t) f.id).theirs=false
    have:=(S.ab.e1 f.id hm).1
    rw[fin,Bool.or_eq_false_iff] at this;rw[hvs,t3];refine⟨this.2,?_⟩;have h1:=this.1;simpa[hd] using h1
   ·show ∃ rest,_=(vl (B.l.modify i t) f.id).unread++dat f.id P++rest/\_/\(_\/(vl (B.l.modify i t) f.id).theirs=true->_)
    obtain⟨rest,a1,a2,a3⟩:=S.ab.q f.id c1';refine⟨rest,?_,a2,λhf=>a3 ?_⟩
    ·rw[a1,hvs,t1,hdat];simp only[List.append_assoc]
    ·left;rw[fin,Bool.or_eq_true];rcases hf with hf | hf
     ·exact .inr hf
     ·rw[hvs,t3] at hf;left;simpa[hd] using hf
   ·show _/\(_->(vl (B.l.modify i t) f.id).headers≠[])
    rw[hvs,t6];exact S.ab.q3 f.id hr
   ·have hr:(vl (B.l.modify i t) f.id).reset=true:=hr;rw[hvs,t4,c1'] at hr;simp at hr
  cases hfl:(f.flags%2 == 1) with
  | false =>
   rw[if_neg (by simp)];refine⟨rfl,CB,hthis (λs => { s with recv:=s.recv-f.body.length,unread:=s.unread++f.body }) B.events (λ_=>rfl) rfl rfl ?_ rfl rfl rfl (λe he => .inl he) (λe he=>he),hother (λs => { s with recv:=s.recv-f.body.length,unread:=s.unread++f.body }) (λ_=>rfl) (λu=>⟨rfl,rfl,rfl,rfl,rfl,rfl,rfl⟩) B.events _⟩;rw[hfl];exact hord.1
  | true =>
   rw[if_pos rfl];have e:∀ (c:Cs) (g1 g2:St->St),(c.mod i g1).mod i g2=c.mod i λs=>g2 (g1 s):=λc g1 g2=>by unfold Cs.mod;dsimp only;rw[List.modify_modify_eq];rfl
   rw[e];refine⟨rfl,CB,hthis (λs => { s with recv:=s.recv-f.body.length,unread:=s.unread++f.body,theirs:=true }) (B.events++[(2,f.id,0)]) (λ_=>rfl) rfl rfl hfl.symm rfl rfl rfl (λe he => ?_) (λe he=>List.mem_append.2 (.inl he)),hother (λs => { s with recv:=s.recv-f.body.length,unread:=s.unread++f.body,theirs:=true }) (λ_=>rfl) (λu=>⟨rfl,rfl,rfl,rfl,rfl,rfl,rfl⟩) (B.events++[(2,f.id,0)]) _⟩;rcases List.mem_append.1 he with h1 | h1
   ·exact .inl h1
   ·rw[List.mem_singleton.1 h1];exact .inr rfl
end Go.Proofs.YtoijpogadkogcaaGreat
