import Derived.Test.YtoijpogadkogcaaGreatRg
import Derived.Test.YtoijpogadkogcaaGreatRi
namespace Go.Proofs.YtoijpogadkogcaaGreat
def zaz:Nat->(Nat->Nat)->Nat
 | 0,_=>0
 | n+1,f=>zaz n f+f n
theorem zit{f g:Nat->Nat}:∀ {N:Nat},(∀ k,k<N->f k<=g k)->zaz N f<=zaz N g
 | 0,_=>Nat.le_refl _
 | n+1,h=>Nat.add_le_add (zit λk hk=>h k (by omega)) (h n (by omega))
theorem zdi{f g:Nat->Nat}{N:Nat}(h:∀ k,k<N->f k=g k):zaz N f=zaz N g :=
 Nat.le_antisymm (zit λk hk=>Nat.le_of_eq (h k hk)) (zit λk hk=>Nat.le_of_eq (h k hk).symm)
theorem znv(f:Nat->Nat)(v n:Nat):∀ {N:Nat},n<N->zaz N (λk=>if k=n then v else f k)+f n=zaz N f+v
 | 0,h=>by omega
 | N+1,h=>by
  by_cases e:n=N
  ·subst e
   have:zaz n (λk=>if k=n then v else f k)=zaz n f:=zdi λk hk=>if_neg (by omega)
   simp only[zaz,this,if_true];omega
  ·have:=znv f v n (N:=N) (by omega)
   simp only[zaz];rw[if_neg (by omega)];omega
theorem zzbai{f:Nat->Nat}{n:Nat}(hz:∀ k,n<=k->f k=0):∀ {N:Nat},n<=N->zaz N f=zaz n f
 | 0,h=>by rw[show n=0 by omega]
 | N+1,h=>by
  by_cases e:n=N+1
  ·rw[e]
  ·rw[zaz,hz N (by omega),zzbai hz (by omega:n<=N)];rfl
def live(B:Cs)(P:List Fr)(s:Nat):Bool:=!((vl B.l s).mine && ((vl B.l s).theirs || fin s P))
def zdc(cl:Bool)(B:Cs)(P:List Fr)(n:Nat):Nat:=zaz n λs=>if (decide (1<=s) && ownB cl s && live B P s)=true then 1 else 0
def upTo(n:Nat):List Fr->List Fr
 | []=>[]
 | f::P=>if f.kind=1/\f.id=n then [] else f::upTo n P
theorem zro(n s:Nat)(Q:List Fr):∀ U,fin s (upTo n U)=true->fin s (upTo n (U++Q))=true
 | [],h=>by cases h
 | f::U,h=>by
  rw[List.cons_append];unfold upTo at h ⊢;split
  ·rename_i e;rw[if_pos e] at h;cases h
  ·rename_i e
   rw[if_neg e,fin,Bool.or_eq_true] at h;rw[fin,Bool.or_eq_true];exact h.imp id (zro n s Q U)
theorem zgi{B B':Cs}{P P':List Fr}{s:Nat}(h1:(vl B.l s).mine=true->(vl B'.l s).mine=true)(h2:(vl B.l s).theirs=true\/fin s P=true->(vl B'.l s).theirs=true\/fin s P'=true)(h:live B' P' s=true):live B P s=true:=by
 unfold live at h ⊢;cases hm:(vl B.l s).mine with
 | false=>rfl
 | true =>
  rw[h1 hm,Bool.true_and] at h;rw[Bool.true_and];rw[Bool.not_eq_true',Bool.or_eq_false_iff] at h ⊢;constructor
  ·cases ht:(vl B.l s).theirs with
   | false=>rfl
   | true=>rcases h2 (.inl ht) with q | q<;>simp[q] at h
  ·cases ht:fin s P with
   | false=>rfl
   | true=>rcases h2 (.inr ht) with q | q<;>simp[q] at h
theorem zhl{cl:Bool}{B B':Cs}{P P':List Fr}{n:Nat}(h:∀ s,live B' P' s=true->live B P s=true):zdc cl B' P' n<=zdc cl B P n:=by
 refine zit λk _ => ?_;by_cases q:(decide (1<=k) && ownB cl k && live B' P' k)=true
 ·rw[if_pos q];rw[Bool.and_eq_true] at q;rw[if_pos (by rw[Bool.and_eq_true];exact⟨q.1,h k q.2⟩)];exact Nat.le_refl _
 ·rw[if_neg q];exact Nat.zero_le _
theorem zzbie{l:List St}{n:Nat}(h:(l.map St.id).Nodup)(hn:¬ hl l n):(l.map St.id++[n]).Nodup:=by rw[List.nodup_append];refine⟨h,by simp,λx hx y hy e => ?_⟩;rw[List.mem_singleton] at hy;subst hy;subst e;obtain⟨t,ht,et⟩:=List.mem_map.1 hx;apply hn;unfold hl gl;rw[List.find?_isSome];exact⟨t,ht,by rw[et];simp⟩
structure Calm (A B:Cs) (U D:List Fr) (w:Nat->Way):Prop where
 nr:∀ s,(vl A.l s).reset=false
 lv:A.leaving=false
 nd:(A.l.map St.id).Nodup
 n3:∀ f∈U,f.kind≠3
 fn:∀ s,(vl A.l s).mine=true->fin s U=true\/(vl B.l s).theirs=true
 lim:A.limit<=B.told/\1<=B.told
 set:(∀ f∈D,setB B.told f.enc) /\ ∀ x∈B.control,setB B.told x
 un:∀ n,ownB A.client n=true->n<=A.own -> ¬ hl B.l n->zdc A.client B (upTo n U) n+1<=B.told
 co:∀ n,(vl B.l n).coming=true->B.peer=n/\zdc A.client B [] n+1<=B.told
 je:∀ s,s≠0->(vl A.l s).mine=false->(vl A.l s).send+(dat s U).length+(win s D+zct s B.control)+(vl B.l s).unread.length=100
 en:∀ s,(w s).ended=true->(vl A.l s).ending=true
variable {A A' B B':Cs} {U D Q P:List Fr} {w w':Nat->Way} {f:Fr}
theorem Calm.mvA(C:Calm A B U D w)(M:Mv A A' Q)(h3:∀ f∈Q,f.kind≠3)(hw:∀ s,(w' s).ended=true->(w s).ended=true\/(vl A'.l s).ending=true):Calm A' B (U++Q) D w' where
 nr:=λs=>by rw[M.reset];exact C.nr s
 lv:=by rw[M.leaving];exact C.lv
 nd:=by rw[M.ids];exact C.nd
 n3:=λf hf=>(List.mem_append.1 hf).elim (C.n3 f) (h3 f)
 fn:=λs hs=>by
  rw[zig,Bool.or_eq_true];rcases M.mine s hs with q | q
  ·exact(C.fn s q).imp .inl id
  ·exact .inl (.inr q)
 lim:=by rw[M.limit];exact C.lim
 set:=C.set
 un:=λn h1 h2 h4=>by
  rw[M.client] at h1 ⊢;rw[M.own] at h2
  have:=C.un n h1 h2 h4
  have k:zdc A.client B (upTo n (U++Q)) n<=zdc A.client B (upTo n U) n:=zhl λs=>zgi id (Or.imp id (zro n s Q U));omega
 co:=by rw[M.client];exact C.co
 je:=λs h0 hm=>by
  have hm':(vl A.l s).mine=false:=by
   cases q:(vl A.l s).mine with
   | false=>rfl
   | true=>rw[M.mono s q] at hm;cases hm
  have:=C.je s h0 hm'
  have k:=M.sd s hm;rw[zif,List.length_append];omega
 en:=λs hs=>(hw s hs).elim (λq=>M.ending s (C.en s q)) id
theorem Calm.mvB(C:Calm B A D U w)(M:Mv A A' Q)(he:∀ s,(vl B.l s).mine=false->(vl A.l s).theirs=false):Calm B A' D (U++Q) w where
 nr:=C.nr
 lv:=C.lv
 nd:=C.nd
 n3:=C.n3
 fn:=λs hs=>by rw[M.theirs];exact C.fn s hs
 lim:=by rw[M.told];exact C.lim
 set:=by rw[M.told];obtain⟨q1,q2⟩:=M.ctl A.told C.set.2;exact⟨λf hf=>(List.mem_append.1 hf).elim (C.set.1 f) (q2 f),q1⟩
 un:=λn h1 h2 h4=>by
  rw[M.told]
  have:=C.un n h1 h2 (by rw[<-M.has];exact h4)
  have k:zdc B.client A' (upTo n D) n<=zdc B.client A (upTo n D) n:=zhl λs=>zgi (M.mono s) (by rw[M.theirs];exact id)
  omega
 co:=λn hn=>by
  rw[M.told,M.peer]
  have:=C.co n (by rw[<-M.coming];exact hn)
  refine⟨this.1,?_⟩;have k:zdc B.client A' [] n<=zdc B.client A [] n:=zhl λs=>zgi (M.mono s) (by rw[M.theirs];exact id)
  omega
 je:=λs h0 hm=>by
  have:=C.je s h0 hm
  have k:=M.wu s h0 (he s hm);rw[zbm];omega
 en:=C.en
structure Got (B B':Cs) (f:Fr):Prop where
 peer:B'.peer=if f.kind=1 then f.id else B.peer
 client:B'.client=B.client
 ids:B'.l.map St.id=B.l.map St.id\/(¬ hl B.l f.id/\B'.l.map St.id=B.l.map St.id++[f.id])
 own:B'.own=B.own
 told:B'.told=B.told
 leaving:B'.leaving=B.leaving
 limit:B'.limit=B.limit\/(f.kind=4/\f.flags%2=0/\B'.limit=(f.body.getD 0 0).toNat)
 has:∀ s,hl B'.l s↔hl B.l s\/(f.kind=1/\s=f.id)
 reset:∀ s,(vl B'.l s).reset=(vl B.l s).reset
 mine:∀ s,(vl B'.l s).mine=(vl B.l s).mine
 ending:∀ s,(vl B'.l s).ending=(vl B.l s).ending
 theirs:∀ s,(vl B'.l s).theirs=((vl B.l s).theirs || (decide (isD s f) && f.flags%2 == 1))
 coming:∀ s,(vl B'.l s).coming=true->(vl B.l s).coming=true\/(f.kind=1/\s=f.id)
 send:∀ s,s≠0->(vl B.l s).mine=false->(vl B'.l s).send=(vl B.l s).send+(if f.kind=7/\f.id=s then Cs.num f.body 0 else 0)
 unread:∀ s,(vl B'.l s).unread.length=(vl B.l s).unread.length+(if isD s f then f.body else []).length
 wb:∀ s,s≠0->zct s B'.control=zct s B.control
 ctl:∀ t,(∀ x∈B.control,setB t x) -> ∀ x∈B'.control,setB t x
theorem Calm.gotA(C:Calm A B (f::P) D w)(G:Got B B' f)(hn:f.kind=1 -> ¬ hl B.l f.id/\ownB A.client f.id=true/\f.id<=A.own /\ ∀ n,(vl B.l n).coming=false):Calm A B' P D w where
 nr:=C.nr
 lv:=C.lv
 nd:=C.nd
 n3:=λg hg=>C.n3 g (List.mem_cons_of_mem _ hg)
 fn:=λs hs=>by
  have:=C.fn s hs
  rw[fin,Bool.or_eq_true] at this;rw[G.theirs,Bool.or_eq_true];rcases this with (q | q) | q
  ·exact .inr (.inr q)
  ·exact .inl q
  ·exact .inr (.inl q)
 lim:=by rw[G.told];exact C.lim
 set:=by rw[G.told];exact⟨C.set.1,G.ctl _ C.set.2⟩
 un:=λn h1 h2 h4=>by
  rw[G.told];rw[G.has] at h4
  have:=C.un n h1 h2 λq=>h4 (.inl q)
  rw[upTo,if_neg λq=>h4 (.inr ⟨q.1,q.2.symm⟩)] at this;have k:zdc A.client B' (upTo n P) n<=zdc A.client B (f::upTo n P) n:=zhl λs=>zgi (by rw[G.mine];exact id) (by
   rw[G.theirs,fin,Bool.or_eq_true,Bool.or_eq_true];rintro (q | q | q)
   ·exact .inl (.inl q)
   ·exact .inl (.inr q)
   ·exact .inr q)
  omega
 co:=λn hc=>by
  rw[G.told,G.peer];have k:zdc A.client B' [] n<=zdc A.client B [] n:=zhl λs=>zgi (by rw[G.mine];exact id) (by
   rw[G.theirs,Bool.or_eq_true];exact Or.imp .inl id)
  rcases G.coming n hc with q|⟨q1,q2⟩
  ·have:=C.co n q
   rw[if_neg λe=>by rw[(hn e).2.2.2 n] at q;cases q];exact⟨this.1,by omega⟩
  ·obtain⟨a1,a2,a3,-⟩:=hn q1;refine⟨by rw[if_pos q1,q2],?_⟩;rw[<-q2] at a1 a2 a3
   have:=C.un n a2 a3 a1
   rw[upTo,if_pos ⟨q1,q2.symm⟩] at this;omega
 je:=λs h0 hm=>by
  have:=C.je s h0 hm
  rw[dat,List.length_append] at this;rw[G.wb s h0,G.unread];omega
 en:=C.en
theorem Calm.gotB(C:Calm B A D (f::P) w)(G:Got B B' f)(hf:f.Ok):Calm B' A D P w where
 nr:=λs=>by rw[G.reset];exact C.nr s
 lv:=by rw[G.leaving];exact C.lv
 nd:=by
  rcases G.ids with q|⟨q1,q2⟩
  ·rw[q];exact C.nd
  ·rw[q2];exact zzbie C.nd q1
 n3:=C.n3
 fn:=λs hs=>C.fn s (by rw[<-G.mine];exact hs)
 lim:=by
  refine⟨?_,C.lim.2⟩;rcases G.limit with q | ⟨q1,q2,q3⟩
  ·rw[q];exact C.lim.1
  ·rw[q3]
   have:=C.set.1 f (List.mem_cons_self)
   have h1:=hf.1;have h2:=hf.2.1;have k:=this (by rw[zkx f (by omega)];exact q1) (by rw[zxa f (by omega)];exact q2);have e:f.enc.getD 6 0=f.body.getD 0 0:=by rw[zdd];simp only[List.getD_cons_succ]
   rw[e] at k;exact k
 set:=⟨λg hg=>C.set.1 g (List.mem_cons_of_mem _ hg),C.set.2⟩
 un:=λn h1 h2 h4=>by rw[G.client] at h1 ⊢;rw[G.own] at h2;exact C.un n h1 h2 h4
 co:=by rw[G.client];exact C.co
 je:=λs h0 hm=>by
  rw[G.mine] at hm
  have:=C.je s h0 hm
  rw[win] at this;rw[G.send s h0 hm];omega
 en:=λs hs=>by rw[G.ending];exact C.en s hs
structure Opn (A A':Cs) (n:Nat):Prop where
 client:A'.client=A.client
 own:A'.own=n
 limit:A'.limit=A.limit
 told:A'.told=A.told
 leaving:A'.leaving=A.leaving
 peer:A'.peer=A.peer
 ids:¬ hl A.l n/\A'.l.map St.id=A.l.map St.id++[n]
 control:A'.control=A.control
 has:∀ s,hl A.l s->hl A'.l s
 fl:∀ s,(vl A'.l s).reset=(vl A.l s).reset/\(vl A'.l s).theirs=(vl A.l s).theirs/\(vl A'.l s).coming=(vl A.l s).coming/\(vl A'.l s).mine=(vl A.l s).mine/\(vl A'.l s).ending=(vl A.l s).ending/\(vl A'.l s).send=(vl A.l s).send/\(vl A'.l s).unread=(vl A.l s).unread
theorem zzbfp(A:Cs)(hd:zal)(hp:zbi hd=true)(hn:¬ hl A.l A.next):Opn A (A.opened hd) A.next:=by
 rw[zls A hd hp];have hv:∀ x,vl (A.l++[{ id:=A.next,head:=Cs.heads A.next (zah hd) }]) x=if x=A.next then { id:=A.next,head:=Cs.heads A.next (zah hd) } else vl A.l x:=zjn A.l { id:=A.next,head:=Cs.heads A.next (zah hd) } hn
 refine⟨rfl,rfl,rfl,rfl,rfl,rfl,⟨hn,by rw[List.map_append];rfl⟩,rfl,λs hs=>(zlq A.l { id:=A.next,head:=Cs.heads A.next (zah hd) } hn s).2 (.inl hs),λs => ?_⟩
 show (vl (A.l++[{ id:=A.next,head:=Cs.heads A.next (zah hd) }]) s).reset=_/\_
 rw[show (vl (A.l++[{ id:=A.next,head:=Cs.heads A.next (zah hd) }]) s)=_ from hv s];by_cases e:s=A.next
 ·rw[if_pos e,e,zhc A.l A.next hn];exact⟨rfl,rfl,rfl,rfl,rfl,rfl,rfl⟩
 ·rw[if_neg e];exact⟨rfl,rfl,rfl,rfl,rfl,rfl,rfl⟩
theorem Calm.opnA{n:Nat}(C:Calm A B U D w)(O:Opn A A' n)(hn:∀ s,ownB A.client s=true->1<=s->s<=n->s<=A.own\/s=n)(hN:zdc A.client B (upTo n U) n+1<=B.told):Calm A' B U D w where
 nr:=λs=>by rw[(O.fl s).1];exact C.nr s
 lv:=by rw[O.leaving];exact C.lv
 nd:=by rw[O.ids.2];exact zzbie C.nd O.ids.1
 n3:=C.n3
 fn:=λs=>by rw[(O.fl s).2.2.2.1];exact C.fn s
 lim:=by rw[O.limit];exact C.lim
 set:=C.set
 un:=λk h1 h2 h4=>by
  rw[O.client] at h1 ⊢;rw[O.own] at h2;by_cases h0:1<=k
  ·rcases hn k h1 h0 h2 with q|q
   ·exact C.un k h1 q h4
   ·rw[q];exact hN
  ·rw[show k=0 by omega];have:=C.lim.2;show 0+1<=_;omega
 co:=by rw[O.client];exact C.co
 je:=λs h0=>by rw[(O.fl s).2.2.2.1,(O.fl s).2.2.2.2.2.1];exact C.je s h0
 en:=λs hs=>by rw[(O.fl s).2.2.2.2.1];exact C.en s hs
theorem Calm.opnB{n:Nat}(C:Calm B A D U w)(O:Opn A A' n):Calm B A' D U w where
 nr:=C.nr
 lv:=C.lv
 nd:=C.nd
 n3:=C.n3
 fn:=λs=>by rw[(O.fl s).2.1];exact C.fn s
 lim:=by rw[O.told];exact C.lim
 set:=by rw[O.told,O.control];exact C.set
 un:=λk h1 h2 h4=>by
  rw[O.told]
  have:=C.un k h1 h2 λq=>h4 (O.has k q)
  have e:zdc B.client A' (upTo k D) k<=zdc B.client A (upTo k D) k:=zhl λs=>zgi (by rw[(O.fl s).2.2.2.1];exact id) (by rw[(O.fl s).2.1];exact id)
  omega
 co:=λk hk=>by
  rw[O.told,O.peer]
  have:=C.co k (by rw[<- (O.fl k).2.2.1];exact hk)
  refine⟨this.1,?_⟩;have e:zdc B.client A' [] k<=zdc B.client A [] k:=zhl λs=>zgi (by rw[(O.fl s).2.2.2.1];exact id) (by rw[(O.fl s).2.1];exact id)
  omega
 je:=λs h0 hm=>by rw[O.control,(O.fl s).2.2.2.2.2.2];exact C.je s h0 hm
 en:=C.en
theorem zzbaj(c:Bool)(n m:Nat)(hm:1<=m)(hm6:m<=6):Calm (Cs.new c n) (Cs.new (!c) m) [] [] λ_ => {} where
 nr:=λ_=>rfl
 lv:=rfl
 nd:=List.nodup_nil
 n3:=λf hf=>by cases hf
 fn:=λs hs=>by cases hs
 lim:=⟨hm,hm⟩
 set:=⟨λf hf=>(nomatch hf),λx hx=>by rw[List.mem_singleton.1 hx];exact λ_ _=>(Nat.le_of_eq (zel m (by omega)):(UInt8.ofNat m).toNat<=m)⟩
 un:=λk _ h2 _=>by
  have:k=0:=Nat.le_zero.1 h2
  rw[this];exact hm
 co:=λk hk=>by cases hk
 je:=λs h0 _=>by
  have:zct s (Cs.new (!c) m).control=0:=zzbae s ⟨4,0,0,[UInt8.ofNat m]⟩ (by show 4<=255;omega) (by show 4≠7;omega)
  rw[this];rfl
 en:=λs hs=>by cases hs
structure zuu (t t':St):Prop where
 mine:t'.mine=t.mine
 theirs:t'.theirs=t.theirs
 reset:t'.reset=t.reset
 ending:t'.ending=t.ending
 send:t'.send=t.send
 unread:t'.unread=t.unread
 coming:t'.coming=true->t.coming=true
theorem Got.plain(hk0:f.kind≠0)(hk1:f.kind≠1)(hk7:f.kind≠7)(h9:B'.peer=B.peer)(h10:B'.l.map St.id=B.l.map St.id)(h1:B'.client=B.client)(h2:B'.own=B.own)(h3:B'.told=B.told)(h4:B'.leaving=B.leaving)(h5:B'.limit=B.limit\/(f.kind=4/\f.flags%2=0/\B'.limit=(f.body.getD 0 0).toNat))
  (hh:∀ s,hl B'.l s↔hl B.l s) (hv:∀ s,zuu (vl B.l s) (vl B'.l s)) (wb:∀ s,s≠0->zct s B'.control=zct s B.control) (ctl:∀ t,(∀ x∈B.control,setB t x) -> ∀ x∈B'.control,setB t x):Got B B' f:=by
 have hd:∀ s,¬ isD s f:=λs hd=>hk0 hd.1;refine⟨by rw[h9,if_neg hk1],h1,.inl h10,h2,h3,h4,h5,λs => ?_,λs=>(hv s).reset,λs=>(hv s).mine,λs=>(hv s).ending,λs => ?_,λs hs => .inl ((hv s).coming hs),λs _ _ => ?_,λs => ?_,wb,ctl⟩
 ·rw[hh];exact⟨.inl,λq=>q.elim id λq=>absurd q.1 hk1⟩
 ·rw[(hv s).theirs,decide_eq_false (hd s),Bool.false_and,Bool.or_false]
 ·rw[(hv s).send,if_neg λq=>hk7 q.1];rfl
 ·rw[(hv s).unread,if_neg (hd s)];rfl
theorem zpy(B:Cs){i id:Nat}(hi:al B.l id=some i)(whole:Bool)(body:Bytes)(he:B.ends=false)(hz:(B.joined whole id body).2=0)(hno:B.count false<(B.told:Int)/\B.leaving=false) :
  ((B.joined whole id body).1.peer=B.peer/\(B.joined whole id body).1.l.map St.id=B.l.map St.id)/\(B.joined whole id body).1.client=B.client/\(B.joined whole id body).1.own=B.own/\(B.joined whole id body).1.told=B.told/\(B.joined whole id body).1.leaving=B.leaving/\(B.joined whole id body).1.limit=B.limit/\(B.joined whole id body).1.control=B.control /\
  (∀ s,hl (B.joined whole id body).1.l s↔hl B.l s) /\ ∀ s,zuu (vl B.l s) (vl (B.joined whole id body).1.l s):=by
 have k0:∀ t:St,zuu t t:=λt=>⟨rfl,rfl,rfl,rfl,rfl,rfl,λq=>q⟩;unfold Cs.joined at hz ⊢;dsimp only at hz ⊢;by_cases c1:1000<(B.block++body).length
 ·rw[if_pos c1] at hz;cases hz
 rw[if_neg c1] at hz ⊢;by_cases c2:whole=false
 ·rw[if_pos c2];exact⟨⟨rfl,rfl⟩,rfl,rfl,rfl,rfl,rfl,rfl,λ_=>Iff.rfl,λs=>k0 _⟩
 rw[if_neg c2] at hz ⊢;cases hu:unpacks (B.block++body) with
 | none=>rw[hu] at hz;cases hz
 | some h =>
  dsimp only;have hat:(Cs.at? { B with block:=B.block++body } (id:Int)).getD 0=i:=by
   have:Cs.at? { B with block:=B.block++body } (id:Int)=some i:=by rw[zcw];exact hi
   rw[this];rfl
  have c3:¬ ((B.told:Int)<=Cs.count { B with block:=B.block++body } false\/B.leaving=true):=by
   rintro (q|q)
   ·have:Cs.count { B with block:=B.block++body } false=B.count false:=rfl
    omega
   ·rw[hno.2] at q;cases q
  rw[hat,if_neg c3,if_neg (by show ¬ B.ends=true;rw[he];simp),zmv];have hF:∀ t:St,({ t with coming:=false,headers:=h }:St).id=t.id:=λ_=>rfl;refine⟨⟨rfl,zpw _ _ _ hF⟩,rfl,rfl,rfl,rfl,rfl,rfl,λs=>zci B.l id i (λt => { t with coming:=false,headers:=h }) hF hi s,λs => ?_⟩;have hv:vl (B.l.modify i λt => { t with coming:=false,headers:=h }) s=_:=zbo B.l id i (λt => { t with coming:=false,headers:=h }) hF hi s
  show zuu _ (vl (B.l.modify i λt => { t with coming:=false,headers:=h }) s)
  rw[hv];split
  ·rename_i e;subst e;exact⟨rfl,rfl,rfl,rfl,rfl,rfl,λq=>by cases q⟩
  ·exact k0 _
theorem Sys.got{CA CB:List Fr}{wA wB:Nat->Way}{r:Nat->Bool}{h:Nat->zal}(S:Sys A B (f::P) D CA CB wA wB r h)(h3:f.kind≠3)(hr:∀ s,(vl B.l s).reset=false)(hno:f.kind=1\/f.kind=2->B.count false<(B.told:Int)/\B.leaving=false):Got B (B.doneF f).1 f:=by
 have hz:=S.gets.1;have hok:=S.ab.fit.ok;have k0:∀ t:St,zuu t t:=λt=>⟨rfl,rfl,rfl,rfl,rfl,rfl,id⟩;by_cases h1:f.kind=1
 ·obtain⟨T,a1,a2,a3,a4,a5⟩:=S.begins h1;have e:B.doneF f=(B.begins false f.id).joined (f.flags/2%2 == 1) f.id f.body:=by
   unfold Cs.doneF Cs.done;dsimp only;rw[if_neg (by omega),if_neg (by omega),if_neg (by omega),if_neg (by omega),if_neg (by omega),if_neg (by simp[Cs.offSize,Cs.wants,h1]),if_neg (by omega),if_pos (.inl h1)];unfold Cs.blocks;rw[if_neg (by omega),if_neg (by
    rintro (h2|h2|h2)
    ·exact a3 h2
    ·have:ownB B.client f.id=true:=h2
     rw[a4] at this;simp at this
    ·omega)]
   have:(f.flags%2 == 1)=false:=by simp;omega
   rw[this]
  have hnl:¬ hl B.l f.id:=λq=>by obtain⟨-,-,q3⟩:=S.ba.ids f.id q;rw[if_neg (by rw[a4];simp)] at q3;omega
  have hv:∀ x,vl (B.l++[{ id:=f.id,coming:=true }]) x=if x=f.id then { id:=f.id,coming:=true } else vl B.l x:=zjn B.l { id:=f.id,coming:=true } hnl
  have hh:∀ x,hl (B.l++[{ id:=f.id,coming:=true }]) x↔hl B.l x\/x=f.id:=zlq B.l { id:=f.id,coming:=true } hnl;have hvd:=zhc B.l f.id hnl;obtain⟨i,hi⟩:=zdq (B.begins false f.id).l f.id ((hh f.id).2 (.inr rfl));rw[e] at hz;obtain⟨j0,j1,j2,j3,j4,j5,j6,j7,j8⟩:=zpy (B.begins false f.id) hi (f.flags/2%2 == 1) f.body rfl hz (hno (.inl h1));rw[e];generalize (Cs.joined (B.begins false f.id) (f.flags/2%2 == 1) f.id f.body).1=B2 at *;have hd:∀ s,¬ isD s f:=λs hd=>by have:=hd.1;omega
  have hb:∀ s,∃ b,vl (B.begins false f.id).l s = { vl B.l s with coming:=b }/\(b=true->(vl B.l s).coming=true\/s=f.id):=λs=>by
   show ∃ b,vl (B.l++[{ id:=f.id,coming:=true }]) s=_/\_
   rw[hv];split
   ·rename_i e;subst e;exact⟨true,by rw[hvd],λ_ => .inr rfl⟩
   ·exact⟨(vl B.l s).coming,rfl,.inl⟩
  have ex:∀ (s:Nat) (R:St->Prop),(∀ b,(b=true->(vl B.l s).coming=true\/s=f.id)->R { vl B.l s with coming:=b })->R (vl (B.begins false f.id).l s):=λs R q=>by obtain⟨b,q1,q2⟩:=hb s;rw[q1];exact q b q2
  refine⟨by rw[j0.1,if_pos h1];rfl,j1,.inr ⟨hnl,by rw[j0.2];exact List.map_append⟩,j2,j3,j4,.inl j5,λs => ?_,λs => ?_,λs => ?_,λs => ?_,λs => ?_,λs hs => ?_,λs _ _ => ?_,λs => ?_,λs _=>by rw[j6];rfl,λt ht=>by rw[j6];exact ht⟩
  ·rw[j7]
   show hl (B.l++[{ id:=f.id,coming:=true }]) s↔_
   rw[hh];exact⟨Or.imp id λq=>⟨h1,q⟩,Or.imp id And.right⟩
  ·rw[(j8 s).reset];exact ex s (λt=>t.reset=_) λ_ _=>rfl
  ·rw[(j8 s).mine];exact ex s (λt=>t.mine=_) λ_ _=>rfl
  ·rw[(j8 s).ending];exact ex s (λt=>t.ending=_) λ_ _=>rfl
  ·rw[(j8 s).theirs,decide_eq_false (hd s),Bool.false_and,Bool.or_false];exact ex s (λt=>t.theirs=_) λ_ _=>rfl
  ·have:=(j8 s).coming hs
   revert this;exact ex s (λt=>t.coming=true->_) λb hb q=>(hb q).imp id λe=>⟨h1,e⟩
  ·rw[(j8 s).send,if_neg (by omega)];exact ex s (λt=>t.send=_) λ_ _=>rfl
  ·rw[(j8 s).unread,if_neg (hd s)];exact ex s (λt=>t.unread.length=_) λ_ _=>rfl
 by_cases h2:f.kind=2
 ·obtain⟨a1,a2,a3⟩:=S.joins h2;have e:B.doneF f=B.joined (f.flags/2%2 == 1) f.id f.body:=by
   unfold Cs.doneF Cs.done;dsimp only;rw[if_neg (by omega),if_neg (by omega),if_neg (by omega),if_neg (by omega),if_neg (by omega),if_neg (by simp[Cs.offSize,Cs.wants,h2]),if_neg (by omega),if_pos (.inr h2)];unfold Cs.blocks;rw[if_pos h2,if_neg a1]
  obtain⟨b1,-,b3,-⟩:=S.ab.now a1;rw[a2] at b1;obtain⟨i,hi⟩:=zdq B.l f.id b1;rw[e] at hz;obtain⟨j0,j1,j2,j3,j4,j5,j6,j7,j8⟩:=zpy B hi (f.flags/2%2 == 1) f.body b3 hz (hno (.inr h2));rw[e];exact Got.plain (by omega) (by omega) (by omega) j0.1 j0.2 j1 j2 j3 j4 (.inl j5) j7 j8 (λs _=>by rw[j6]) (λt ht=>by rw[j6];exact ht)
 obtain⟨-,hnow,hkk,hfit⟩:=S.ab.fit.head h1 h2;by_cases h0:f.kind=0
 ·have hs:hl B.l f.id:=by
   rcases hkk with q|q|q
   ·exact q.2
   ·omega
   ·have:=q.kind;omega
  obtain⟨i,hi⟩:=zdq B.l f.id hs;have hkn:=S.ba.knownOf f.id hs;have hdone:B.doneF f=B.comes (f.flags%2 == 1) f.id f.body:=by unfold Cs.doneF Cs.done;dsimp only;rw[if_neg (by omega),if_neg (by omega),if_neg (by rw[hkn];simp),if_neg (by omega),if_neg (by omega),if_neg (by simp[Cs.offSize,Cs.wants,h0]),if_pos h0]
  rw[hdone] at hz ⊢;unfold Cs.comes at hz ⊢;dsimp only at hz ⊢;by_cases c1:B.recv<f.body.length
  ·rw[if_pos c1] at hz;cases hz
  rw[if_neg c1,zcw,hi] at hz ⊢;dsimp only at hz ⊢;rw[zca B f.id i hi,hr f.id] at hz ⊢;rw[if_neg Bool.false_ne_true] at hz ⊢;by_cases c2:(vl B.l f.id).theirs=true
  ·rw[if_pos c2] at hz;cases hz
  rw[if_neg c2] at hz ⊢;by_cases c3:(vl B.l f.id).recv<f.body.length
  ·rw[if_pos c3] at hz;cases hz
  rw[if_neg c3];have fin1:∀ (F:St->St) (hF:∀ t,(F t).id=t.id) (B2:Cs),B2.l=B.l.modify i F->B2.peer=B.peer->B2.client=B.client->B2.own=B.own->B2.told=B.told->B2.leaving=B.leaving->B2.limit=B.limit->B2.control=B.control ->
    (∀ t,(F t).reset=t.reset/\(F t).mine=t.mine/\(F t).ending=t.ending/\(F t).coming=t.coming/\(F t).send=t.send/\(F t).unread=t.unread++f.body/\(F t).theirs=(t.theirs || f.flags%2 == 1))->Got B B2 f:=by
   intro F hF B2 e1 e0 e2 e3 e4 e5 e6 e7 hk;have hv:∀ x,vl B2.l x=if x=f.id then F (vl B.l f.id) else vl B.l x:=λx=>by rw[e1];exact zbo B.l f.id i F hF hi x
   have hvs:vl B2.l f.id=F (vl B.l f.id):=by rw[hv,if_pos rfl]
   have hvn:∀ x,x≠f.id->vl B2.l x=vl B.l x:=λx hx=>by rw[hv,if_neg hx]
   have hd:isD f.id f:=⟨h0,rfl⟩;have hnd:∀ x,x≠f.id -> ¬ isD x f:=λx hx q=>hx q.2.symm;obtain⟨k1,k2,k3,k4,k5,k6,k7⟩:=hk (vl B.l f.id);refine⟨by rw[e0,if_neg h1],e2,.inl (by rw[e1,zpw _ _ _ hF]),e3,e4,e5,.inl e6,λs => ?_,λs => ?_,λs => ?_,λs => ?_,λs => ?_,λs hs => ?_,λs _ _ => ?_,λs => ?_,λs _=>by rw[e7],λt ht=>by rw[e7];exact ht⟩
   ·rw[e1,zci B.l f.id i F hF hi];exact⟨.inl,λq=>q.elim id λq=>absurd q.1 h1⟩
   all_goals by_cases es:s=f.id
   all_goals first | subst es | skip
   ·rw[hvs,k1]
   ·rw[hvn s es]
   ·rw[hvs,k2]
   ·rw[hvn s es]
   ·rw[hvs,k3]
   ·rw[hvn s es]
   ·rw[hvs,k7,decide_eq_true hd,Bool.true_and]
   ·rw[hvn s es,decide_eq_false (hnd s es),Bool.false_and,Bool.or_false]
   ·rw[hvs,k4] at hs;exact .inl hs
   ·rw[hvn s es] at hs;exact .inl hs
   ·rw[hvs,k5,if_neg (by omega)];rfl
   ·rw[hvn s es,if_neg (by omega)];rfl
   ·rw[hvs,k6,if_pos hd,List.length_append]
   ·rw[hvn s es,if_neg (hnd s es)];rfl
  cases hfl:(f.flags%2 == 1) with
  | false =>
   rw[if_neg Bool.false_ne_true];exact fin1 (λs => { s with recv:=s.recv-f.body.length,unread:=s.unread++f.body }) (λ_=>rfl) _ rfl rfl rfl rfl rfl rfl rfl rfl (λt=>⟨rfl,rfl,rfl,rfl,rfl,rfl,by rw[hfl,Bool.or_false]⟩)
  | true =>
   rw[if_pos rfl,zmv];exact fin1 (λs => { s with recv:=s.recv-f.body.length,unread:=s.unread++f.body,theirs:=true }) (λ_=>rfl) _ rfl rfl rfl rfl rfl rfl rfl rfl (λt=>⟨rfl,rfl,rfl,rfl,rfl,rfl,by rw[hfl,Bool.or_true]⟩)
 by_cases h7:f.kind=7
 ·have hc:(f.id=0\/hl B.l f.id)/\f.body.length=2/\Cs.num f.body 0≠0:=by
   rcases hkk with q|q|q
   ·omega
   ·omega
   ·rcases q with q|q|q|q
    ·omega
    ·omega
    ·omega
    ·exact q.2
  obtain⟨hid,hb,hn⟩:=hc;have hdone:B.doneF f=B.window f.id (Cs.num f.body 0):=by
   unfold Cs.doneF Cs.done;dsimp only;rw[if_neg (by omega),if_neg (by omega),if_neg (by omega),if_neg (by omega),if_neg (by
    rintro ⟨-,h1,h2⟩;rcases hid with h3 | h3
    ·exact h1 h3
    ·rw[S.ba.knownOf f.id h3] at h2;simp at h2),if_neg (by simp[Cs.offSize,Cs.wants,h7,hb]),if_neg (by omega),if_neg (by omega),if_neg (by omega),if_neg (by omega),if_neg (by omega),if_neg (by omega)]
  have hd:∀ s,¬ isD s f:=λs hd=>h0 hd.1;have idl:∀ B2:Cs,B2.l=B.l->B2.peer=B.peer->B2.client=B.client->B2.own=B.own->B2.told=B.told->B2.leaving=B.leaving->B2.limit=B.limit->B2.control=B.control->(∀ s,s≠0->(vl B.l s).mine=false -> ¬ f.id=s)->Got B B2 f:=by
   intro B2 e1 e0 e2 e3 e4 e5 e6 e7 hx;refine⟨by rw[e0,if_neg h1],e2,.inl (by rw[e1]),e3,e4,e5,.inl e6,λs => ?_,λs=>by rw[e1],λs=>by rw[e1],λs=>by rw[e1],λs => ?_,λs hs => .inl (by rw[<-e1];exact hs),λs k1 k2 => ?_,λs => ?_,λs _=>by rw[e7],λt ht=>by rw[e7];exact ht⟩
   ·rw[e1];exact⟨.inl,λq=>q.elim id λq=>absurd q.1 h1⟩
   ·rw[e1,decide_eq_false (hd s),Bool.false_and,Bool.or_false]
   ·rw[e1,if_neg λq=>hx s k1 k2 q.2];rfl
   ·rw[e1,if_neg (hd s)];rfl
  rw[hdone] at hz ⊢;unfold Cs.window at hz ⊢;rw[if_neg hn] at hz ⊢;by_cases c0:f.id=0
  ·rw[if_pos c0] at hz ⊢;by_cases c1:1000<B.send+Cs.num f.body 0
   ·rw[if_pos c1] at hz;cases hz
   rw[if_neg c1];exact idl _ rfl rfl rfl rfl rfl rfl rfl rfl λs k1 _ e=>k1 (by omega)
  rw[if_neg c0] at hz ⊢;obtain⟨i,hi⟩:=zdq B.l f.id (hid.resolve_left c0);rw[zcw,hi] at hz ⊢;dsimp only at hz ⊢;rw[zca B f.id i hi,hr f.id,Bool.false_or] at hz ⊢;by_cases c1:(vl B.l f.id).mine=true
  ·rw[if_pos c1];exact idl _ rfl rfl rfl rfl rfl rfl rfl rfl λs _ k2 e=>by rw[<-e,c1] at k2;cases k2
  rw[if_neg c1] at hz ⊢;by_cases c2:1000<(vl B.l f.id).send+Cs.num f.body 0
  ·rw[if_pos c2] at hz;cases hz
  rw[if_neg c2];have hF:∀ t:St,({ t with send:=t.send+Cs.num f.body 0 }:St).id=t.id:=λ_=>rfl;have hv:∀ x,vl (B.l.modify i λt => { t with send:=t.send+Cs.num f.body 0 }) x=if x=f.id then { vl B.l f.id with send:=(vl B.l f.id).send+Cs.num f.body 0 } else vl B.l x:=λx=>zbo B.l f.id i (λt => { t with send:=t.send+Cs.num f.body 0 }) hF hi x
  have hvs:∀ (s:Nat) (R:St->Prop),(s=f.id->R { vl B.l s with send:=(vl B.l s).send+Cs.num f.body 0 })->(s≠f.id->R (vl B.l s))->R (vl (B.mod i λt => { t with send:=t.send+Cs.num f.body 0 }).l s):=λs R q1 q2=>by
   show R (vl (B.l.modify i λt => { t with send:=t.send+Cs.num f.body 0 }) s)
   rw[hv];by_cases es:s=f.id
   ·rw[if_pos es,<-es];exact q1 es
   ·rw[if_neg es];exact q2 es
  refine⟨by rw[if_neg h1];rfl,rfl,.inl (zpw _ _ _ hF),rfl,rfl,rfl,.inl rfl,λs => ?_,λs=>hvs s (λt=>t.reset=_) (λ_=>rfl) λ_=>rfl,λs=>hvs s (λt=>t.mine=_) (λ_=>rfl) λ_=>rfl,λs=>hvs s (λt=>t.ending=_) (λ_=>rfl) λ_=>rfl,λs => ?_,λs hs => .inl ?_,λs k1 k2 => ?_,λs => ?_,λs _=>rfl,λt ht=>ht⟩
  ·show hl (B.l.modify i λt => { t with send:=t.send+Cs.num f.body 0 }) s↔_
   rw[zci B.l f.id i (λt => { t with send:=t.send+Cs.num f.body 0 }) hF hi];exact⟨.inl,λq=>q.elim id λq=>absurd q.1 h1⟩
  ·rw[decide_eq_false (hd s),Bool.false_and,Bool.or_false];exact hvs s (λt=>t.theirs=_) (λ_=>rfl) λ_=>rfl
  ·revert hs;exact hvs s (λt=>t.coming=true->_) (λ_ q=>q) λ_ q=>q
  ·refine hvs s (λt=>t.send=_) (λe => ?_) λe => ?_
   ·rw[if_pos ⟨h7,e.symm⟩]
   ·rw[if_neg λq=>e q.2.symm];rfl
  ·rw[if_neg (hd s)];exact hvs s (λt=>t.unread.length=_) (λ_=>rfl) λ_=>rfl
 have hk:=hok.1;have hc:zeo (hl B.l) f:=by
  rcases hkk with q|q|q
  ·omega
  ·omega
  ·exact q
 have one:∀ (g:Fr) (B2:Cs),g.kind<=255->g.kind≠7->(g.kind=4->g.flags=1)->g.flags<=255->B2.l=B.l->B2.peer=B.peer->B2.client=B.client->B2.own=B.own->B2.told=B.told->B2.leaving=B.leaving->(B2.limit=B.limit\/(f.kind=4/\f.flags%2=0/\B2.limit=(f.body.getD 0 0).toNat))->B2.control=B.control++[g.enc]->Got B B2 f:=by
  intro g B2 g1 g2 g3 g4 e1 e0 e2 e3 e4 e5 e6 e7;refine Got.plain h0 h1 h7 e0 (by rw[e1]) e2 e3 e4 e5 e6 (λs=>by rw[e1]) (λs=>by rw[e1];exact k0 _) (λs _ => ?_) (λt ht x hx => ?_)
  ·rw[e7,zfw,zzbae s g g1 g2];rfl
  ·rw[e7] at hx;rcases List.mem_append.1 hx with hx | hx
   ·exact ht x hx
   ·rw[List.mem_singleton.1 hx];intro q1 q2;rw[zkx g g1] at q1;rw[zxa g g4,g3 q1] at q2;cases q2
 have nil:∀ B2:Cs,B2.l=B.l->B2.peer=B.peer->B2.client=B.client->B2.own=B.own->B2.told=B.told->B2.leaving=B.leaving->B2.limit=B.limit->B2.control=B.control->Got B B2 f:=λB2 e1 e0 e2 e3 e4 e5 e6 e7=>Got.plain h0 h1 h7 e0 (by rw[e1]) e2 e3 e4 e5 (.inl e6) (λs=>by rw[e1]) (λs=>by rw[e1];exact k0 _) (λs _=>by rw[e7]) (λt ht=>by rw[e7];exact ht)
 rcases hc with q|q|q|q
 ·obtain⟨k4,i0,hb⟩:=q;have hdone:B.doneF f=B.settings (f.flags%2 == 1) (f.body.getD 0 0).toNat:=by
   unfold Cs.doneF Cs.done;dsimp only;rw[if_neg (by omega),if_neg (by omega),if_neg (by omega),if_neg (by omega),if_neg (by omega),if_neg (by
    rcases hb with ⟨h2,h3⟩|⟨h2,x,h3,h4⟩
    ·simp[Cs.offSize,Cs.wants,k4,h2,h3]
    ·simp[Cs.offSize,Cs.wants,k4,h2,h4]),if_neg (by omega),if_neg (by omega),if_neg (by omega),if_pos k4]
  rw[hdone];unfold Cs.settings;rcases hb with ⟨q2,q3⟩ | ⟨q2,x,q3,q4⟩
  ·rw[if_pos (by rw[q2];rfl)];exact nil B rfl rfl rfl rfl rfl rfl rfl rfl
  ·rw[if_neg (by rw[q2];simp),if_neg (by rw[q4];simp;omega)];exact one ⟨4,1,0,[]⟩ _ (by show 4<=255;omega) (by show 4≠7;omega) (λ_=>rfl) (by show 1<=255;omega) rfl rfl rfl rfl rfl rfl (.inr ⟨k4,by rw[q2],rfl⟩) rfl
 ·obtain⟨k4,i0,hb⟩:=q;have hdone:B.doneF f=(if (f.flags%2 == 1)=true then B.ev 4 0 (Cs.num f.body 0) else B.ctl 5 1 0 f.body,0):=by
   unfold Cs.doneF Cs.done;dsimp only;rw[if_neg (by omega),if_neg (by omega),if_neg (by omega),if_neg (by omega),if_neg (by omega),if_neg (by simp[Cs.offSize,Cs.wants,k4,hb]),if_neg (by omega),if_neg (by omega),if_neg (by omega),if_neg (by omega),if_pos k4]
  rw[hdone];dsimp only;split
  ·exact nil _ rfl rfl rfl rfl rfl rfl rfl rfl
  ·exact one ⟨5,1,0,f.body⟩ _ (by show 5<=255;omega) (by show 5≠7;omega) (λq=>by cases q) (by show 1<=255;omega) rfl rfl rfl rfl rfl rfl (.inl rfl) rfl
 ·obtain⟨k4,i0,hb⟩:=q;have hdone:B.doneF f=({ B with left:=true }.ev 5 (Cs.num f.body 0) (f.body.getD 2 0).toNat,0):=by
   unfold Cs.doneF Cs.done;dsimp only;rw[if_neg (by omega),if_neg (by omega),if_neg (by omega),if_neg (by omega),if_neg (by omega),if_neg (by simp[Cs.offSize,Cs.wants,k4,hb]),if_neg (by omega),if_neg (by omega),if_neg (by omega),if_neg (by omega),if_neg (by omega),if_pos k4]
  rw[hdone];exact nil _ rfl rfl rfl rfl rfl rfl rfl rfl
 ·omega
def ind(m:Bool):Option DS->Nat
 | some s=>if (s.mine == m && zav s.state)=true then 1 else 0
 | none=>0
theorem zfm(m:Bool)(s:DS):ind m (some s)=if (s.mine == m && zav s.state)=true then 1 else 0:=rfl
def zgj(str:Nat->Option DS)(m:Bool):Nat:=zaz 65536 λn=>ind m (str n)
structure zas (d:Ds):Prop where
 mc:d.mCount=(zgj d.str true:Int)
 tc:d.tCount=(zgj d.str false:Int)
 m6:d.mCount<=6
 t6:d.tCount<=6
 mm:d.mMost<=6
 tm:d.tMost<=6
theorem zsv(str:Nat->Option DS)(m:Bool)(o:Option DS)(n:Nat)(hn:n<65536):zgj (λk=>if k=n then o else str k) m+ind m (str n)=zgj str m+ind m o:=by
 have:=znv (λk=>ind m (str k)) (ind m o) n hn
 have e:zgj (λk=>if k=n then o else str k) m=zaz 65536 (λk=>if k=n then ind m o else ind m (str k)):=zdi λk _=>by
  dsimp only;by_cases q:k=n
  ·rw[if_pos q,if_pos q]
  ·rw[if_neg q,if_neg q]
 rw[e];exact this
section
variable {d d':Ds}
theorem zas.of(h:zas d)(e1:d'.str=d.str)(e2:d'.mCount=d.mCount)(e3:d'.tCount=d.tCount)(e4:d'.mMost=d.mMost)(e5:d'.tMost=d.tMost):zas d' :=
 ⟨by rw[e1,e2];exact h.mc,by rw[e1,e3];exact h.tc,by rw[e2];exact h.m6,by rw[e3];exact h.t6,by rw[e4];exact h.mm,by rw[e5];exact h.tm⟩
theorem zzbkd{m:Bool}{s s':DS}(hm:s'.mine=s.mine)(hs:s'.state=s.state):ind m (some s')=ind m (some s):=by rw[zfm,zfm,hm,hs]
theorem zas.setS(h:zas d){n:Nat}{s0 s':DS}(hn:n<65536)(h0:d.str n=some s0)(hm:s'.mine=s0.mine)(hst:s'.state=s0.state):zas (d.setS n s'):=by
 have k:∀ m,zgj (d.setS n s').str m=zgj d.str m:=λm=>by
  have:=zsv d.str m (some s') n hn
  rw[h0,zzbkd hm hst] at this;have e:zgj (d.setS n s').str m=zgj (λk=>if k=n then some s' else d.str k) m:=rfl;omega
 exact⟨by rw[k];exact h.mc,by rw[k];exact h.tc,h.m6,h.t6,h.mm,h.tm⟩
theorem zzbke(d:Ds)(b:Bool)(k:Int):(d.bump b k).mCount=d.mCount+(if b then k else 0)/\(d.bump b k).tCount=d.tCount+(if b then 0 else k)/\(d.bump b k).str=d.str/\(d.bump b k).mMost=d.mMost/\(d.bump b k).tMost=d.tMost:=by
 unfold Ds.bump;cases b
 ·refine⟨?_,rfl,rfl,rfl,rfl⟩
  show d.mCount=d.mCount+0
  omega
 ·refine⟨rfl,?_,rfl,rfl,rfl⟩
  show d.tCount=d.tCount+0
  omega
theorem zas.putS(h:zas d){n:Nat}{s':DS}(hn:n<65536)(k:Int)(hk:k=(ind s'.mine (some s'):Int)-ind s'.mine (d.str n))(ho:ind (!s'.mine) (d.str n)=0)(hle:k<=0\/(if s'.mine then d.mCount else d.tCount)<6/\k<=1):zas ((d.bump s'.mine k).setS n s'):=by
 obtain⟨b1,b2,b3,b4,b5⟩:=zzbke d s'.mine k;have e:∀ m,zgj ((d.bump s'.mine k).setS n s').str m=zgj (λj=>if j=n then some s' else d.str j) m:=λm=>by
  have:((d.bump s'.mine k).setS n s').str=λj=>if j=n then some s' else (d.bump s'.mine k).str j:=rfl
  rw[this,b3]
 have q1:=zsv d.str s'.mine (some s') n hn;have q2:=zsv d.str (!s'.mine) (some s') n hn;have q3:ind (!s'.mine) (some s')=0:=by rw[zfm];cases s'.mine<;>rfl
 rw[q3,ho] at q2;rw[<-e] at q1 q2;have c1:((d.bump s'.mine k).setS n s').mCount=_:=b1;have c2:((d.bump s'.mine k).setS n s').tCount=_:=b2;have hmc:=h.mc;have htc:=h.tc;have hm6:=h.m6;have ht6:=h.t6;generalize ind s'.mine (some s')=x at *;generalize ind s'.mine (d.str n)=y at *;cases hb:s'.mine with
 | true =>
  rw[hb] at q1 q2 c1 c2 hle;simp only[Bool.not_true,if_true] at q1 q2 c1 c2 hle;refine⟨?_,?_,?_,?_,by show (d.bump true k).mMost<=6;rw[hb] at b4;rw[b4];exact h.mm,by show (d.bump true k).tMost<=6;rw[hb] at b5;rw[b5];exact h.tm⟩<;>omega
 | false =>
  rw[hb] at q1 q2 c1 c2 hle;simp only[Bool.not_false,Bool.false_eq_true,if_false] at q1 q2 c1 c2 hle;refine⟨?_,?_,?_,?_,by show (d.bump false k).mMost<=6;rw[hb] at b4;rw[b4];exact h.mm,by show (d.bump false k).tMost<=6;rw[hb] at b5;rw[b5];exact h.tm⟩<;>omega
theorem zas.move(h:zas d){s s0:DS}(to:Nat)(hn:s.id<65536)(h0:d.str s.id=some s0)(hm:s0.mine=s.mine)(hst:s0.state=s.state)(hle:zav to=true->zav s.state=true):zas (d.move s to):=by
 have e1:ind s.mine (some (Ds.moved s to))=if zav to=true then 1 else 0:=by show (if (s.mine == s.mine && zav to)=true then 1 else 0)=_;simp
 have e2:ind s.mine (d.str s.id)=if zav s.state=true then 1 else 0:=by rw[h0,zfm,hm,hst];simp
 have e3:ind (!s.mine) (d.str s.id)=0:=by rw[h0,zfm,hm];cases s.mine<;>rfl
 refine h.putS (s':=Ds.moved s to) hn (Ds.shift s to) ?_ e3 ?_
 ·show Ds.shift s to=((ind s.mine (some (Ds.moved s to)):Nat):Int)-(ind s.mine (d.str s.id):Nat)
  rw[e1,e2];unfold Ds.shift;cases zav to<;>cases zav s.state<;>rfl
 ·left;unfold Ds.shift;cases ht:zav to with
  | false=>cases zav s.state<;>decide
  | true=>rw[hle ht];decide
theorem zzbak(d:Ds)(n:Nat)(h0:(d.find (n:Int)).state≠0)(h8:(d.find (n:Int)).state≠8):d.str n=some (d.find (n:Int)):=by
 unfold Ds.find at h0 h8 ⊢;cases hr:d.real (n:Int) with
 | none =>
  rw[hr] at h0 h8;dsimp only at h0 h8;split at h0
  ·rename_i q;rw[if_pos q] at h8;exact absurd rfl h8
  ·exact absurd rfl h0
 | some s =>
  dsimp only;unfold Ds.real at hr;split at hr
  ·cases hr
  ·split at hr
   ·unfold Ds.held at hr;rw[Int.toNat_natCast] at hr;split at hr
    ·cases hr
    ·split at hr
     ·rename_i s' hs' _
      injection hr with hr
      rw[<-hr];exact hs'
     ·cases hr
   ·cases hr
theorem zzbal{s:DS}{t:Nat}(h:Ds.thereTo s=some t):s.state≠0/\s.state≠8/\(zav t=true->zav s.state=true):=by
 unfold Ds.thereTo at h;split at h
 ·rename_i e;rw[e];exact⟨by omega,by omega,λ_=>rfl⟩
 split at h
 ·rename_i e;rw[e];exact⟨by omega,by omega,λ_=>rfl⟩
 split at h
 ·rename_i e;rw[e];exact⟨by omega,by omega,λ_=>rfl⟩
 ·cases h
theorem zas.endThere(h:zas d){s:DS}(hs:s.state≠0->s.state≠8 -> ∃ s0,d.str s.id=some s0/\s0.mine=s.mine/\s0.state=s.state/\s.id<65536):zas (d.endThere s):=by
 unfold Ds.endThere;split
 ·rename_i t ht
  obtain⟨q1,q2,q3⟩:=zzbal ht;obtain⟨s0,a1,a2,a3,a4⟩:=hs q1 q2;exact h.move t a4 a1 a2 a3 q3
 ·exact h
theorem zas.done(h:zas d)(hids:∀ n s,d.str n=some s->s.id=n/\n<65536)(kind flags id:Nat)(body:Bytes)(h3:kind≠3)(hid:id<65536)(hno:kind=1\/kind=2->d.tCount<(d.tMost:Int)/\d.leaving=false)
  (hnew:kind=1->d.str id=none/\flags%2=0) (hcom:∀ i e b,d.coming=some (i,e,b)->d.str i=none/\e=false/\i<65536):zas (d.done kind flags id body)\/(d.done kind flags id body).failed=true:=by
 have hre:∀ n:Nat,(d.find (n:Int)).state≠0->(d.find (n:Int)).state≠8->d.str n=some (d.find (n:Int))/\(d.find (n:Int)).id=n/\n<65536:=λn a b=>by have q:=zzbak d n a b;exact⟨q,hids n _ q⟩
 have hacc:∀ (d2:Ds) (i:Nat) (hd:zal),d2.str=d.str->d2.tCount=d.tCount->d2.mCount=d.mCount->d2.mMost=d.mMost->d2.tMost=d.tMost->d.str i=none->i<65536->d.tCount<(d.tMost:Int)->zas (d2.accept i false hd):=by intro d2 i hd e1 e2 e3 e4 e5 hn hi hlt;have k:zas d2:=h.of e1 e3 e2 e4 e5;have h6:=h.tm;have k2:zas (d2.keep false i):=k.putS (s':=Ds.begun i false) hi 1 (by rw[e1,hn];rfl) (by rw[e1,hn];rfl) (.inr ⟨by show d2.tCount<6;omega,by omega⟩);have k3:zas ((d2.keep false i).setS i { Ds.begun i false with headers:=hd }):=k2.setS (s0:=Ds.begun i false) hi (by show (if i=i then _ else _)=_;rw[if_pos rfl]) rfl rfl;exact k3.of rfl rfl rfl rfl rfl
 have htake:∀ (d2:Ds) (i:Nat) (whole:Bool) (so bo:Bytes),d2.str=d.str->d2.tCount=d.tCount->d2.mCount=d.mCount->d2.mMost=d.mMost->d2.tMost=d.tMost->d2.leaving=d.leaving->d.str i=none->i<65536->d.tCount<(d.tMost:Int)/\d.leaving=false->zas (d2.takeHeaders i false whole so bo)\/(d2.takeHeaders i false whole so bo).failed=true:=by
  intro d2 i whole so bo e1 e2 e3 e4 e5 e6 hn hi hlt;unfold Ds.takeHeaders;dsimp only;split
  ·exact .inr rfl
  split
  ·exact .inl (h.of e1 e3 e2 e4 e5)
  split
  ·exact .inr rfl
  rw[if_neg (by rw[e2,e5,e6,hlt.2];rintro (q | q);omega;cases q)];exact .inl (hacc _ i _ e1 e2 e3 e4 e5 hn hi hlt.1)
 unfold Ds.done;dsimp only;split
 ·exact .inr rfl
 split
 ·unfold Ds.doData;dsimp only;split
  ·exact .inr rfl
  rename_i q0
  split
  ·exact .inr rfl
  have k1:zas { d with to_:=d.to_-body.length }:=h.of rfl rfl rfl rfl rfl;split
  ·left;unfold Ds.passOver;dsimp only;have k2:zas (if 0<body.length then Ds.give0 { d with to_:=d.to_-body.length } body.length else { d with to_:=d.to_-body.length }):=by
    split
    ·exact k1.of rfl rfl rfl rfl rfl
    ·exact k1
   have k3:(if 0<body.length then Ds.give0 { d with to_:=d.to_-body.length } body.length else { d with to_:=d.to_-body.length }).str=d.str:=by split<;>rfl
   split
   ·refine k2.endThere λa b => ?_;obtain⟨r1,r2,r3⟩:=hre id a b;exact⟨_,by rw[k3,r2];exact r1,rfl,rfl,by rw[r2];exact r3⟩
   ·exact k2
  rename_i qr
  have q8:(d.find (id:Int)).state≠8:=λe=>qr (by rw[e];rfl)
  obtain⟨r1,r2,r3⟩:=hre id q0 q8;split
  ·exact .inr rfl
  split
  ·exact .inr rfl
  have k2:zas (Ds.setS { d with to_:=d.to_-body.length } (d.find (id:Int)).id { d.find (id:Int) with to_:=(d.find (id:Int)).to_-body.length,unread:=(d.find (id:Int)).unread++body }):=k1.setS (s0:=d.find (id:Int)) (by rw[r2];exact r3) (by rw[r2];exact r1) rfl rfl;split
  ·left;unfold Ds.takeEnd;refine zas.of (d:=_) (k2.endThere (s:={ d.find (id:Int) with to_:=(d.find (id:Int)).to_-body.length,unread:=(d.find (id:Int)).unread++body }) λ_ _=>⟨{ d.find (id:Int) with to_:=(d.find (id:Int)).to_-body.length,unread:=(d.find (id:Int)).unread++body },?_,rfl,rfl,by show (d.find (id:Int)).id<65536;rw[r2];exact r3⟩) rfl rfl rfl rfl rfl
   show (if (d.find (id:Int)).id=(d.find (id:Int)).id then _ else _)=_
   rw[if_pos rfl]
  ·exact .inl k2
 split
 ·rename_i hk1
  unfold Ds.doOpen;obtain⟨n1,n2⟩:=hnew hk1;split
  ·have:(flags%2 == 1)=false:=by rw[n2];rfl
   rw[this];exact htake { d with tLast:=id } id _ _ _ rfl rfl rfl rfl rfl rfl n1 hid (hno (.inl hk1))
  ·exact .inr rfl
 split
 ·rename_i hk2
  unfold Ds.doMore;split
  ·exact .inr rfl
  ·rename_i i e b hc
   obtain⟨n1,n2,n3⟩:=hcom i e b hc;subst n2;exact htake d i _ _ _ rfl rfl rfl rfl rfl rfl n1 n3 (hno (.inr hk2))
 split
 ·unfold Ds.doSettings;split
  ·exact .inr rfl
  split
  ·split
   ·exact .inr rfl
   ·exact .inl h
  split
  ·exact .inr rfl
  split
  ·exact .inr rfl
  ·rename_i q
   exact .inl ⟨h.mc,h.tc,h.m6,h.t6,by show (body.getD 0 0).toNat<=6;omega,h.tm⟩
 split
 ·unfold Ds.doPing;split
  ·exact .inr rfl
  split
  ·exact .inr rfl
  split
  ·exact .inl (h.of rfl rfl rfl rfl rfl)
  ·exact .inl (h.of rfl rfl rfl rfl rfl)
 split
 ·unfold Ds.doAway;split
  ·exact .inr rfl
  split
  ·exact .inr rfl
  ·exact .inl (h.of rfl rfl rfl rfl rfl)
 split
 ·unfold Ds.doWindow;dsimp only;split
  ·exact .inr rfl
  split
  ·exact .inr rfl
  split
  ·exact .inr rfl
  split
  ·split
   ·exact .inr rfl
   ·exact .inl (h.of rfl rfl rfl rfl rfl)
  split
  ·rename_i qs
   split
   ·exact .inr rfl
   ·have a0:(d.find (id:Int)).state≠0:=λe=>by rw[e] at qs;cases qs
    have a8:(d.find (id:Int)).state≠8:=λe=>by rw[e] at qs;cases qs
    obtain⟨r1,r2,r3⟩:=hre id a0 a8;exact .inl (h.setS (s0:=d.find (id:Int)) (by rw[r2];exact r3) (by rw[r2];exact r1) rfl rfl)
  ·exact .inl h
 ·exact .inl h
theorem zas.enter(h:zas d)(n:Nat):zas (d.enter n):=by
 unfold Ds.enter;split
 ·exact h
 ·exact h.of rfl rfl rfl rfl rfl
theorem zas.leave(h:zas d)(k:Nat)(s:DS):zas (d.leave k s):=by
 unfold Ds.leave;dsimp only;split
 ·refine zas.enter ?_ _;exact h.of rfl rfl rfl rfl rfl
 ·exact h.of rfl rfl rfl rfl rfl
theorem zas.turned(h:zas d)(hids:∀ n s,d.str n=some s->s.id=n/\n<65536)(hq:∀ n,n∈d.ring -> ∃ s,d.str n=some s/\zav s.state=true){room:Int}{b:Bytes}(ht:d.turned room=some (b,d')):zas d':=by
 unfold Ds.turned at ht;split at ht
 ·cases ht
 ·rename_i k hk
  dsimp only at ht;unfold Ds.ready at hk;obtain⟨hlt,-,-⟩:=List.findIdx?_eq_some_iff_getElem.1 hk;have hg:d.ring.getD k 0=d.ring[k]:=by rw[List.getD_eq_getElem?_getD,List.getElem?_eq_getElem hlt];rfl
  obtain⟨s,hs,hc⟩:=hq (d.ring.getD k 0) (by rw[hg];exact List.getElem_mem hlt);obtain⟨i1,i2⟩:=hids _ _ hs;have es:d.stOf (d.ring.getD k 0)=s:=by unfold Ds.stOf;rw[hs];rfl
  rw[es] at ht;have hs':d.str s.id=some s:=by rw[i1];exact hs
  have hlt':s.id<65536:=by rw[i1];exact i2
  have key:zas (d.turn s room).2.1:=by
   unfold Ds.turn;dsimp only;split
   ·split
    ·exact h
    ·exact h.setS hlt' hs' rfl rfl
   split
   ·split
    ·exact h
    ·exact h.move 8 hlt' hs' rfl rfl (λq=>by cases q)
   split
   ·exact h
   have k1:zas { d with from_:=d.from_-d.dataN s room }:=h.of rfl rfl rfl rfl rfl;have k2:zas (Ds.setS { d with from_:=d.from_-d.dataN s room } s.id { s with data:=s.data.drop (d.dataN s room).toNat,from_:=s.from_-d.dataN s room }):=k1.setS hlt' hs' rfl rfl;split
   ·refine k2.move (s:={ s with data:=s.data.drop (d.dataN s room).toNat,from_:=s.from_-d.dataN s room }) (s0:={ s with data:=s.data.drop (d.dataN s room).toNat,from_:=s.from_-d.dataN s room }) _ hlt' ?_ rfl rfl (λ_=>hc)
    show (if s.id=s.id then _ else _)=_
    rw[if_pos rfl]
   ·exact k2
  split at ht
  ·cases ht
  ·injection ht with ht
   injection ht with _ ht
   rw[<-ht];exact key.leave k _
theorem zas.write(h:zas d){s:DS}(hs:d.str s.id=some s)(hn:s.id<65536)(b:Bytes):zas (d.write s b):=by
 unfold Ds.write;split
 ·exact h
 ·(refine zas.enter ?_ _;exact h.setS hn hs rfl rfl)
theorem zas.endIt(h:zas d){s:DS}(hs:d.str s.id=some s)(hn:s.id<65536):zas (d.endIt s):=by unfold Ds.endIt;refine zas.enter ?_ _;exact h.setS hn hs rfl rfl
theorem zas.read(h:zas d){s:DS}(hs:d.str s.id=some s)(hn:s.id<65536)(n:Nat):zas (d.read s n):=by
 unfold Ds.read;dsimp only;have k:zas (d.setS s.id { s with unread:=s.unread.drop n }):=h.setS hn hs rfl rfl;split
 ·exact k
 split
 ·exact k.of rfl rfl rfl rfl rfl
 ·unfold Ds.giveS
  have:zas ((d.setS s.id { s with unread:=s.unread.drop n }).setS s.id { s with unread:=s.unread.drop n,to_:=s.to_+n }):=k.setS (s0:={ s with unread:=s.unread.drop n }) hn (by show (if s.id=s.id then _ else _)=_;rw[if_pos rfl]) rfl rfl
  exact this.of rfl rfl rfl rfl rfl
theorem zas.opened(h:zas d)(hd:zal)(hn:d.next<65536)(hs:d.str d.next=none)(hlt:d.mCount<(d.mMost:Int)):zas (d.opened hd):=by unfold Ds.opened;dsimp only;refine zas.enter ?_ _;have h6:=h.mm;have k:zas { d with mLast:=d.next }:=h.of rfl rfl rfl rfl rfl;exact k.putS (s':={ Ds.begun d.next true with block:=zah hd }) hn 1 (by show (1:Int)=((ind true (some _):Nat):Int)-(ind true (d.str d.next):Nat);rw[hs];rfl) (by show ind false (d.str d.next)=0;rw[hs];rfl) (.inr ⟨by show d.mCount<6;omega,by omega⟩)
theorem zas.new(c:Bool)(n:Nat)(hn:n<=6):zas (Ds.new c n):=by
 have k:∀ N m,zaz N (λn=>ind m ((λ_=>none:Nat->Option DS) n))=0:=λN m=>by
  induction N with
  | zero=>rfl
  | succ N ih=>rw[zaz,ih];rfl
 have k2:∀ m,zgj (Ds.new c n).str m=0:=λm=>k 65536 m;refine⟨?_,?_,by show (0:Int)<=6;omega,by show (0:Int)<=6;omega,by show 1<=6;omega,hn⟩
 ·rw[k2];rfl
 ·rw[k2];rfl
end
theorem Sim.strInv{e:Ds}{B:Cs}(M:Sim e B){k:Nat}{s:DS}(hs:e.str k=some s):hl B.l k/\(vl B.l k).coming=false/\SR B.client k s (vl B.l k):=by
 have q:=M.str k;unfold hl vl;cases hg:gl B.l k with
 | none=>rw[hg] at q;rw[q] at hs;cases hs
 | some t =>
  rw[hg] at q;dsimp only at q;cases hc:t.coming with
  | true=>rw[hc,if_pos rfl] at q;rw[q.1] at hs;cases hs
  | false =>
   rw[hc,if_neg Bool.false_ne_true] at q;obtain⟨s',a1,a2⟩:=q;rw[hs] at a1;injection a1 with a1
   subst a1;exact⟨rfl,hc,a2⟩
theorem zzbam{e:Ds}{B:Cs}(hc:zas e)(M:Sim e B)(hr:∀ s,(vl B.l s).reset=false)(n:Nat)(cl:Bool)(hcl:∀ s,ownB B.client s=false->ownB cl s=true)(hlt:∀ s,hl B.l s->ownB B.client s=false->(vl B.l s).coming=false->1<=s/\s<n)(hn:n<=65536):e.tCount<=(zdc cl B [] n:Int):=by
 have key:∀ k,ind false (e.str k)<=(if (decide (1<=k) && ownB cl k && live B [] k)=true then 1 else 0)/\(n<=k->ind false (e.str k)=0):=λk=>by
  cases hs:e.str k with
  | none=>exact⟨Nat.zero_le _,λ_=>rfl⟩
  | some s =>
   obtain⟨a1,a2,a3⟩:=M.strInv hs;rw[zfm];by_cases q:(s.mine == false && zav s.state)=true
   ·rw[if_pos q];rw[Bool.and_eq_true,beq_iff_eq,a3.mine] at q;obtain⟨b1,b2⟩:=hlt k a1 q.1 a2;refine⟨?_,λh=>by omega⟩;have hl:live B [] k=true:=by
     unfold live;obtain⟨c1,-,-⟩:=a3.live (hr k);have q2:=q.2;rw[c1] at q2;cases hm:(vl B.l k).mine<;>cases ht:(vl B.l k).theirs<;>rw[hm,ht] at q2<;>first | rfl | cases q2
    rw[if_pos (by rw[hl,hcl k q.1,decide_eq_true b1];rfl)];exact Nat.le_refl _
   ·rw[if_neg q];exact⟨Nat.zero_le _,λ_=>rfl⟩
 have:zgj e.str false<=zdc cl B [] n:=by unfold zgj zdc;rw[zzbai (λk hk=>(key k).2 hk) hn];exact zit λk _=>(key k).1
 have:=hc.tc
 omega
theorem zzban(n:Nat):∀ U:List Fr,(∀ f∈U,¬ (f.kind=1/\f.id=n))->upTo n U=U
 | [],_=>rfl
 | f::U,h=>by rw[upTo,if_neg (h f (List.mem_cons_self)),zzban n U λg hg=>h g (List.mem_cons_of_mem _ hg)]
theorem zzbkf{d:Ds}{A B:Cs}{U D CA CB:List Fr}{wA wB w:Nat->Way}{r:Nat->Bool}{h:Nat->zal}(hc:zas d)(M:Sim d A)(S:Sys A B U D CA CB wA wB r h)(C:Calm A B U D w)(hm:A.next<=99):(zdc A.client B (upTo A.next U) A.next:Int)<=d.mCount:=by
 obtain⟨n1,n2,n3⟩:=zjy S.ab;have hnl:¬ hl A.l A.next:=λhx=>by
  have:=(S.ab.ids _ hx).2.2
  rw[n2] at this
  have:A.next<=A.own:=by simpa using this
  omega
 rw[zzban A.next U λf hf q=>hnl (by rw[<-q.2];exact(S.ab.opens f hf (by omega)).1)];have key:∀ k,k<A.next->(if (decide (1<=k) && ownB A.client k && live B U k)=true then 1 else 0)<=ind true (d.str k):=λk hk=>by
  by_cases q:(decide (1<=k) && ownB A.client k && live B U k)=true
  ·rw[if_pos q];rw[Bool.and_eq_true,Bool.and_eq_true,decide_eq_true_eq] at q;obtain⟨⟨q1,q2⟩,q3⟩:=q;have hown:k<=A.own:=(n3 k q2 q1 (by omega)).resolve_right (by omega);have hh:=S.ab.ownAll k q1 q2 hown;obtain⟨i,hi⟩:=zdq A.l k hh;have hcm:(vl A.l k).coming=false:=by
    cases hx:(vl A.l k).coming with
    | false=>rfl
    | true =>
     exfalso;obtain⟨-,a2⟩:=S.ba.coming k hx
     have:=S.ba.now (by omega)
     rw[a2,q2] at this;exact absurd this.2.2.2 (by simp)
   obtain⟨s,hs,hr⟩:=M.at hi hcm;obtain⟨c1,-,-⟩:=hr.live (C.nr k);rw[hs,zfm];have hst:zav s.state=true:=by
    rw[c1];cases hmi:(vl A.l k).mine with
    | false=>cases (vl A.l k).theirs<;>rfl
    | true =>
     cases hth:(vl A.l k).theirs with
     | false=>rfl
     | true =>
      exfalso;have hmB:(vl B.l k).mine=true:=by
       cases hx:(vl B.l k).mine with
       | true=>rfl
       | false=>have:=(S.ba.e1 k hx).2;rw[hth] at this;cases this
      unfold live at q3;rw[hmB,Bool.true_and,Bool.not_eq_true',Bool.or_eq_false_iff] at q3;rcases C.fn k hmi with z | z
      ·rw[z] at q3;cases q3.2
      ·rw[z] at q3;cases q3.1
   rw[if_pos (by rw[hr.mine,q2,hst];rfl)];exact Nat.le_refl _
  ·rw[if_neg q];exact Nat.zero_le _
 have:zdc A.client B U A.next<=zgj d.str true:=by
  unfold zgj zdc;refine Nat.le_trans (zit key) ?_;have mono:∀ N,A.next<=N->zaz A.next (λn=>ind true (d.str n))<=zaz N (λn=>ind true (d.str n)):=λN hN=>by
   induction N with
   | zero=>rw[show A.next=0 by omega];exact Nat.le_refl _
   | succ N ih =>
    by_cases e:A.next=N+1
    ·rw[e];exact Nat.le_refl _
    ·rw[zaz];have:=ih (by omega);omega
  exact mono 65536 (by omega)
 have:=hc.mc
 omega
end Go.Proofs.YtoijpogadkogcaaGreat
