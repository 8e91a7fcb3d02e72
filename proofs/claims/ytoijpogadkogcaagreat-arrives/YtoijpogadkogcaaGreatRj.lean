import Derived.Test.YtoijpogadkogcaaGreatRi
import Derived.Test.YtoijpogadkogcaaGreatRh
import Derived.Test.YtoijpogadkogcaaGreatRja
namespace Go.Proofs.YtoijpogadkogcaaGreat
def zje(x:Bytes):Bool:=decide (4<=(x.getD 2 0).toNat) && decide ((x.getD 2 0).toNat<=6)
def zbn(l:List Bytes):Nat:=(l.filter zje).length
theorem zdf(a b:List Bytes):zbn (a++b)=zbn a+zbn b:=by unfold zbn;rw[List.filter_append,List.length_append]
theorem znw(k f i:Nat)(b:Bytes)(hk:k<=255):zje (frame k f i b)=(decide (4<=k) && decide (k<=6)):=by
 have e:((frame k f i b).getD 2 0).toNat=k:=by
  have:frame k f i b=Fr.enc ⟨k,f,i,b⟩:=rfl
  rw[this,zdd];simp only[List.getD_cons_succ,List.getD_cons_zero];exact zel _ (by omega)
 unfold zje;rw[e]
theorem zzbif(Q:List Fr)(h:∀ f∈Q,f.kind<=3):zbn (Q.map Fr.enc)=0:=by
 unfold zbn;rw[List.length_eq_zero_iff,List.filter_eq_nil_iff];intro x hx;obtain⟨f,hf,rfl⟩:=List.mem_map.1 hx
 have:=h f hf
 have e:=znw f.kind f.flags f.id f.body (by omega);have e2:Fr.enc f=frame f.kind f.flags f.id f.body:=rfl;rw[e2,e];simp;omega
theorem zsw(id n:Nat):zbn ((wfs id n).map Fr.enc)=0:=by
 rw[zis];split
 ·have e:=znw 7 0 id (two n) (by omega);simp[zbn,e]
 ·rfl
def zco(c c':Cs):Prop:=∃ l,c'.control=c.control++l/\zbn l=0
theorem zco.rfl'(c:Cs):zco c c:=⟨[],(List.append_nil _).symm,rfl⟩
theorem zco.of{c c':Cs}(h:c'.control=c.control):zco c c':=⟨[],by rw[h,List.append_nil],rfl⟩
theorem zzbao(c c0:Cs)(id n:Nat)(h:c.control=c0.control):zco c0 (c.gives id n):=⟨_,by rw[zdh];show c.control++_=_;rw[h],zsw id n⟩
theorem zzbap(c c0:Cs)(i code:Nat)(h:c.control=c0.control):zco c0 (c.drops i code):=by unfold Cs.drops;dsimp only;obtain⟨l,h1,h2⟩:=zzbao ((c.mod i λs => { s with unread:=[],reset:=true,head:=[],bytes:=[],ending:=false,code:=code }).rings i) c0 0 (c.st i).unread.length h;exact⟨l,h1,h2⟩
theorem zzbkg(c:Cs)(fin:Bool)(id:Nat)(body:Bytes):zco c (c.comes fin id body).1:=by
 have hb:zco c { (Cs.gives { c with recv:=c.recv-body.length } 0 body.length) with recv:=c.recv }:=by obtain⟨l,h1,h2⟩:=zzbao { c with recv:=c.recv-body.length } c 0 body.length rfl;exact⟨l,h1,h2⟩
 unfold Cs.comes;dsimp only;split
 ·exact zco.rfl' c
 ·split
  ·exact hb
  ·split
   ·exact hb
   ·split
    ·exact zco.of rfl
    ·split
     ·exact zco.of rfl
     ·split<;>exact zco.of rfl
theorem zxf(c:Cs)(whole:Bool)(id:Nat)(body:Bytes):zco c (c.joined whole id body).1:=by
 unfold Cs.joined;dsimp only;split
 ·exact zco.of rfl
 ·split
  ·exact zco.of rfl
  ·split
   ·exact zco.of rfl
   ·split
    ·exact zzbap _ c _ 6 rfl
    ·split<;>exact zco.of rfl
theorem zzbkh(c:Cs)(f:Fr)(hf:f.kind<=255):zbn (c.doneF f).1.control<=zbn c.control+(if zje f.enc then 1 else 0):=by
 have of7:∀ c':Cs,zco c c'->zbn c'.control<=zbn c.control+(if zje f.enc then 1 else 0):=λc' ⟨l,h1,h2⟩=>by rw[h1,zdf,h2];omega
 have hkb:zje f.enc=(decide (4<=f.kind) && decide (f.kind<=6)):=znw f.kind f.flags f.id f.body hf;have one:∀ (x:Bytes) (c':Cs),c'.control=c.control++[x]->(4<=f.kind/\f.kind<=6)->zbn c'.control<=zbn c.control+(if zje f.enc then 1 else 0):=λx c' h1 h2=>by
  rw[h1,zdf,hkb]
  have:zbn [x]<=1:=by unfold zbn;exact List.length_filter_le _ _
  simp only[h2.1,h2.2,decide_true,Bool.and_self,if_true];omega
 unfold Cs.doneF Cs.done;dsimp only;by_cases q1:0<c.now/\(f.kind≠2\/f.id≠c.now)
 ·rw[if_pos q1];exact of7 _ (zco.rfl' c)
 rw[if_neg q1];by_cases q2:7<f.kind
 ·rw[if_pos q2];exact of7 _ (zco.rfl' c)
 rw[if_neg q2];by_cases q3:(f.kind=0\/f.kind=3)/\c.known (f.id:Int)=false
 ·rw[if_pos q3];exact of7 _ (zco.rfl' c)
 rw[if_neg q3];by_cases q4:(f.kind=4\/f.kind=5\/f.kind=6)/\f.id≠0
 ·rw[if_pos q4];exact of7 _ (zco.rfl' c)
 rw[if_neg q4];by_cases q5:f.kind=7/\f.id≠0/\c.known (f.id:Int)=false
 ·rw[if_pos q5];exact of7 _ (zco.rfl' c)
 rw[if_neg q5];by_cases q6:Cs.offSize f.kind (f.flags%2 == 1) f.body.length=true
 ·rw[if_pos q6];exact of7 _ (zco.rfl' c)
 rw[if_neg q6];by_cases q7:f.kind=0
 ·rw[if_pos q7];exact of7 _ (zzbkg c _ _ _)
 rw[if_neg q7];by_cases q8:f.kind=1\/f.kind=2
 ·rw[if_pos q8];refine of7 _ ?_;unfold Cs.blocks;split
  ·split
   ·exact zco.rfl' c
   ·exact zxf c _ _ _
  ·split
   ·exact zco.rfl' c
   ·obtain⟨l,h1,h2⟩:=zxf (c.begins (f.flags%2 == 1) f.id) (f.flags/2%2 == 1) f.id f.body;exact⟨l,h1,h2⟩
 rw[if_neg q8];by_cases q9:f.kind=3
 ·rw[if_pos q9];refine of7 _ ?_;unfold Cs.broken;split
  ·exact zco.rfl' c
  ·split
   ·exact zco.rfl' c
   ·exact zzbap _ c _ 0 rfl
 rw[if_neg q9];by_cases h4:f.kind=4
 ·rw[if_pos h4];unfold Cs.settings;split
  ·exact of7 _ (zco.rfl' c)
  ·split
   ·exact of7 _ (zco.rfl' c)
   ·exact one _ _ rfl (by omega)
 rw[if_neg h4];by_cases h5:f.kind=5
 ·rw[if_pos h5];dsimp only;split
  ·exact of7 _ (zco.of rfl)
  ·exact one _ _ rfl (by omega)
 rw[if_neg h5];by_cases h6:f.kind=6
 ·rw[if_pos h6];exact of7 _ (zco.of rfl)
 rw[if_neg h6];refine of7 _ ?_;unfold Cs.window;split
 ·exact zco.rfl' c
 ·split
  ·split<;>exact zco.of rfl
  ·split
   ·exact zco.rfl' c
   ·split
    ·exact zco.rfl' c
    ·split<;>exact zco.of rfl
structure SyC (p:Nat) (d e:Ds) (A B:Cs) (U D CA CB:List Fr) (wA wB:Nat->Way) (r:Nat->Bool) (h:Nat->zal):Prop extends Sys A B U D CA CB wA wB r h where
 two:2<=p
 calm:p<=2->Calm A B U D wA/\Calm B A D U wB/\zas d/\zas e
theorem SyC.flip{p:Nat}{d e:Ds}{A B:Cs}{U D CA CB:List Fr}{wA wB:Nat->Way}{r:Nat->Bool}{h:Nat->zal}(S:SyC p d e A B U D CA CB wA wB r h):SyC p e d B A D U CB CA wB wA r h :=
 ⟨S.toSys.swap,S.two,λhp=>by obtain⟨a,b,c,d⟩:=S.calm hp;exact⟨b,a,d,c⟩⟩
def LK(p:Nat)(cl:Bool)(nA nB:Nat)(d e:Ds)(up down:Bytes)(wA wB:Nat->Way)(r:Nat->Bool)(h:Nat->zal):Prop :=
 ∃ A B U D CA CB,Sim d A/\Sim e B/\SyC p d e A B U D CA CB wA wB r h/\e.inn++up=encs U/\d.inn++down=encs D/\A.own=nA/\B.own=nB/\A.client=cl/\zbn A.control+zbn B.control+(zbn (U.map Fr.enc)+zbn (D.map Fr.enc))<=p
variable {p:Nat} {cl:Bool} {nA nB:Nat} {d e:Ds} {up down:Bytes} {wA wB:Nat->Way} {r:Nat->Bool} {h:Nat->zal}
theorem Sys.cnt1{A B:Cs}{U D CA CB:List Fr}(S:Sys A B U D CA CB wA wB r h)(f:Bool->Int):Sys { A with cnt:=f } B U D CA CB wA wB r h:=⟨{ S.ab with },{ S.ba with }⟩
theorem Sim.cnt{d:Ds}{c:Cs}(H:Sim d c)(f:Bool->Int):Sim d { c with cnt:=f }:=H.scal { H.sc with } rfl rfl rfl rfl rfl rfl
theorem Sys.idsA{A B:Cs}{U D CA CB:List Fr}(S:Sys A B U D CA CB wA wB r h):Ids A:=λs hs=>by obtain⟨h1,-,h3⟩:=S.ab.ids s hs;exact⟨h1,h3⟩
theorem Sys.comA{A B:Cs}{U D CA CB:List Fr}(S:Sys A B U D CA CB wA wB r h):ComOk A:=λh0=>by obtain⟨a1,a2,a3,a4⟩:=S.ba.now h0;exact⟨a1,(S.ba.coming _ a2).1,a4⟩
theorem Sys.mineA{A B:Cs}{U D CA CB:List Fr}(S:Sys A B U D CA CB wA wB r h)(n:Nat)(hm:(vl A.l n).mine=true):(vl A.l n).bytes=[]:=(S.ab.e2 n hm).1
theorem LK.swap(H:LK p cl nA nB d e up down wA wB r h):LK p (!cl) nB nA e d down up wB wA r h:=by obtain⟨A,B,U,D,CA,CB,h1,h2,S,h3,h4,h5,h6,h7,h8⟩:=H;exact⟨B,A,D,U,CB,CA,h2,h1,S.flip,h4,h3,h6,h5,by rw[<-h7,S.ab.cl,Bool.not_not],by omega⟩
theorem LK.failed(H:LK p cl nA nB d e up down wA wB r h):d.failed=false:=by obtain⟨A,B,U,D,CA,CB,h1,-⟩:=H;exact h1.sc.fl
theorem zzbfq(J:Ds->List Fr->Prop)(hw:∀ c p P,J c P->J { c with inn:=p } P)(hok:∀ c f P,J c (f::P)->f.Ok)(hf:∀ c P,J c P->c.failed=false)(hs:∀ c (f:Fr) P,J c (f::P)->J (c.done f.kind f.flags f.id f.body) P/\(c.done f.kind f.flags f.id f.body).inn=c.inn)(n:Nat) :
  ∀ (c:Ds) (P:List Fr) (rest:Bytes),J c P->c.inn++rest=encs P->c.inn.length<=n -> ∃ P2,J (Ds.looks n c) P2/\(Ds.looks n c).inn++rest=encs P2:=by
 induction n with
 | zero=>exact λc P rest hI he _=>⟨P,hI,he⟩
 | succ n ih =>
  intro c P rest hI he hn;have hfl:=hf c P hI;unfold Ds.looks;by_cases h6:c.inn.length<6
  ·rw[if_pos (.inr h6)];exact⟨P,hI,he⟩
  rw[if_neg (by rw[hfl];simp;omega)];dsimp only;cases P with
  | nil =>
   have:=congrArg List.length he
   simp[encs] at this;exact absurd this.1 (by intro h;rw[h] at h6;simp at h6)
  | cons f P =>
   have ho:=hok c f P hI;have hnum:Cs.num c.inn 0=f.body.length:=by rw[<-zzbfk c.inn rest (by omega),he,zfg,zzbdy f ho]
   have h64:f.body.length<=64:=ho.2.2.2;rw[hnum,if_neg (by omega)];by_cases hl:c.inn.length<6+f.body.length
   ·rw[if_pos hl];exact⟨_,hI,he⟩
   ·rw[if_neg hl];have hle:=zir f;have e0:c.inn.take (6+f.body.length)=f.enc:=by
     have:=congrArg (List.take (6+f.body.length)) he
     rw[List.take_append_of_le_length (by omega),zfg,List.take_append_of_le_length (by omega),List.take_of_length_le (l:=f.enc) (by omega)] at this;exact this
    have e1:c.inn.drop (6+f.body.length)++rest=encs P:=by
     have:=congrArg (List.drop (6+f.body.length)) he
     rw[List.drop_append_of_le_length (by omega),zfg,List.drop_append_of_le_length (by omega),List.drop_of_length_le (l:=f.enc) (by omega)] at this;simpa using this
    rw[e0];obtain⟨q1,q2,q3,q4⟩:=ho;have g2:(f.enc.getD 2 0).toNat=f.kind:=by rw[zdd];simp only[List.getD_cons_succ,List.getD_cons_zero];exact zel _ (by omega)
    have g3:(f.enc.getD 3 0).toNat=f.flags:=by rw[zdd];simp only[List.getD_cons_succ,List.getD_cons_zero];exact zel _ (by omega)
    have g4:Cs.num f.enc 4=f.id:=by rw[zdd];simp only[Cs.num,List.getD_cons_succ,List.getD_cons_zero,Nat.reduceAdd];rw[zel _ (by omega),zel _ (by omega)];omega
    have g5:f.enc.drop 6=f.body:=by rw[zdd];rfl
    rw[g2,g3,g4,g5];obtain⟨hI',ei⟩:=hs _ f P (hw c (c.inn.drop (6+f.body.length)) _ hI);refine ih _ P rest hI' (by rw[ei];exact e1) ?_;rw[ei]
    show (c.inn.drop (6+f.body.length)).length<=n
    rw[List.length_drop];omega
theorem Sys.strIds{d:Ds}{A B:Cs}{U D CA CB:List Fr}(S:Sys A B U D CA CB wA wB r h)(M:Sim d A)(n:Nat)(s:DS)(hs:d.str n=some s):s.id=n/\n<65536:=by obtain⟨a1,-,a3⟩:=M.strInv hs;exact⟨a3.id,(S.ab.ids n a1).2.1⟩
theorem Sim.strNone{d:Ds}{A:Cs}(M:Sim d A){n:Nat}(h:hl A.l n->(vl A.l n).coming=true):d.str n=none:=by
 cases hs:d.str n with
 | none=>rfl
 | some s =>
  obtain⟨a1,a2,-⟩:=M.strInv hs;rw[h a1] at a2;cases a2
theorem zzbig{c:Ds}{A B:Cs}{f:Fr}{P D CA CB:List Fr}(S:Sys A B (f::P) D CA CB wA wB r h)(M:Sim c B)(hct:B.count false=c.tCount)(C1:Calm A B (f::P) D wA)(C2:Calm B A D (f::P) wB)(ce:zas c)(hfl:(c.done f.kind f.flags f.id f.body).failed=false) :
  Calm A (B.doneF f).1 P D wA/\Calm (B.doneF f).1 A D P wB/\zas (c.done f.kind f.flags f.id f.body):=by
 have h3:=C1.n3 f (List.mem_cons_self);have hF:=S.ab.fit;have hok:=hF.ok;have hcl:∀ s,ownB B.client s=false->ownB A.client s=true:=λs hs=>by rw[zqk S.ab.cl,hs];rfl
 have hnl:f.kind=1 -> ¬ hl B.l f.id/\ownB B.client f.id=false/\B.peer<f.id/\f.flags%2=0/\B.now=0:=λh1=>by obtain⟨-,a1,a2,a3,a4,a5⟩:=S.begins h1;refine⟨λq => ?_,a4,a5,a2,a1⟩;obtain⟨-,-,q3⟩:=S.ba.ids f.id q;rw[if_neg (by rw[a4];simp)] at q3;omega
 have hlt:∀ s,hl B.l s->ownB B.client s=false->1<=s/\s<=B.peer:=λs q1 q2=>by obtain⟨b1,-,b3⟩:=S.ba.ids s q1;rw[if_neg (by rw[q2];simp)] at b3;exact⟨b1,b3⟩
 have hA:f.kind=1->ownB A.client f.id=true/\f.id<=A.own:=λh1=>by obtain⟨b1,b2⟩:=S.ab.opens f (List.mem_cons_self) (by omega);have b3:=b2 (.inl h1);have b4:=(S.ab.ids _ b1).2.2;rw[if_pos b3] at b4;exact⟨b3,b4⟩
 have hno:f.kind=1\/f.kind=2->c.tCount<(B.told:Int)/\B.leaving=false:=λhk=>by
  refine⟨?_,C2.lv⟩;rcases hk with h1 | h2
  ·obtain⟨b1,b2,b3,-⟩:=hnl h1;obtain⟨b4,b5⟩:=hA h1;have q:=C1.un f.id b4 b5 b1;rw[upTo,if_pos ⟨h1,rfl⟩] at q;have q2:=zzbam ce M C2.nr f.id A.client hcl (λs k1 k2 _=>by have:=hlt s k1 k2;omega) (by have:=hok.2.2.1;omega);omega
  ·obtain⟨a1,a2,-⟩:=S.joins h2;obtain⟨-,b2,-,-⟩:=S.ab.now a1;rw[a2] at b2;obtain⟨q0,q⟩:=C1.co f.id b2;have q2:=zzbam ce M C2.nr f.id A.client hcl (λs k1 k2 k3=>by
    have:=hlt s k1 k2
    have:s≠f.id:=λe=>by rw[e,b2] at k3;cases k3
    omega) (by have:=hok.2.2.1;omega)
   omega
 have G:=S.got h3 C2.nr (λhk=>by rw[hct];exact hno hk);refine⟨C1.gotA G λh1 => ?_,C2.gotB G hok,?_⟩
 ·obtain⟨b1,b2,b3,-,b5⟩:=hnl h1;refine⟨b1,(hA h1).1,(hA h1).2,λn => ?_⟩;cases hc:(vl B.l n).coming with
  | false=>rfl
  | true =>
   have:=(S.ab.coming n hc).2
   have h0:n≠0:=λe=>by
    rw[e] at hc
    have:¬ hl B.l 0:=λq=>by have:=(S.ba.ids 0 q).1;omega
    rw[zhc B.l 0 this] at hc;cases hc
   omega
 ·refine(ce.done (S.swap.strIds M) f.kind f.flags f.id f.body h3 hok.2.2.1 (λhk=>by rw[M.sc.tM,M.sc.lv];exact hno hk) (λh1 => ?_) (λi e b hc => ?_)).resolve_right (by rw[hfl];simp)
  ·obtain⟨b1,-,-,b4,-⟩:=hnl h1;exact⟨M.strNone λq=>absurd q b1,b4⟩
  ·have hcm:=M.sc.com;rw[hc] at hcm;obtain⟨c1,c2,c3,-⟩:=hcm;dsimp only at c1 c2 c3
   have:=S.ab.now (by rw[c1];exact c2)
   rw[c1] at this;exact⟨M.strNone λ_=>this.2.1,by rw[<-c3];exact this.2.2.1,(S.ba.ids i this.1).2.1⟩
theorem LK.takes{b rest:Bytes}(H:LK p cl nA nB d e (b++rest) down wA wB r h):LK p cl nA nB d (e.takes b) rest down wA wB r h:=by
 obtain⟨A,B,U,D,CA,CB,h1,h2,S,h3,h4,h5,h6,h7,h8⟩:=H;unfold Ds.takes;rw[if_neg (by rw[h2.sc.fl];simp)];dsimp only;have wpC:∀ (c:Ds) (B:Cs) (q:Bytes) (P CB:List Fr),SyC p d c A B P D CA CB wA wB r h->SyC p d { c with inn:=q } A (B.wp q) P D CA CB wA wB r h:=λc B q P CB k2=>⟨⟨k2.ab.wp2 q,k2.ba.wp1 q⟩,k2.two,λhp=>by obtain⟨a1,a2,a3,a4⟩:=k2.calm hp;exact⟨{ a1 with },{ a2 with },a3,a4.of rfl rfl rfl rfl rfl⟩⟩
 obtain⟨P2,⟨B',CB',q1,q2,q3,q5⟩,q4⟩:=zzbfq (λc P => ∃ B CB,Sim c B/\SyC p d c A B P D CA CB wA wB r h/\B.own=nB/\zbn A.control+zbn B.control+(zbn (P.map Fr.enc)+zbn (D.map Fr.enc))<=p)
  (λc q P ⟨B,CB,k1,k2,k3,k4⟩=>⟨B.wp q,CB,k1.scal { k1.sc with inn:=rfl } rfl rfl rfl rfl rfl rfl,wpC c B q P CB k2,k3,k4⟩)
  (λc f P ⟨B,CB,k1,k2,k3,k4⟩=>k2.ab.fit.ok)
  (λc P ⟨B,CB,k1,k2,k3,k4⟩=>k1.sc.fl)
  (λc f P ⟨B,CB,k1,k2,k3,k4⟩=>by
   have S1:=(k2.toSys.swap.cnt1 λb=>if b then c.mCount else c.tCount).swap;have k1':=k1.cnt λb=>if b then c.mCount else c.tCount
   obtain⟨hz,CB',S2⟩:=S1.gets;have M:=k1'.done S1.swap.idsA S1.swap.comA rfl f.kind f.flags f.id f.body hz;refine⟨⟨_,CB',M,⟨S2,k2.two,λhp => ?_⟩,?_,?_⟩,?_⟩
   ·obtain⟨a1,a2,a3,a4⟩:=k2.calm hp;obtain⟨b1,b2,b3⟩:=zzbig S1 k1' rfl { a1 with } { a2 with } a4 M.sc.fl;exact⟨b1,b2,a3,b3⟩
   ·exact(zzblt _ _ _ _ _).1.trans k3
   ·have hok:=S1.ab.fit.ok;have h9:=zzbkh { B with cnt:=λb=>if b then c.mCount else c.tCount } f (by have:=hok.1;omega);unfold Cs.doneF at h9;have h10:zbn ((f::P).map Fr.enc)=(if zje f.enc then 1 else 0)+zbn (P.map Fr.enc):=by
     rw[List.map_cons];unfold zbn;rw[List.filter_cons];split<;>simp;omega
    rw[h10] at k4;have h11:zbn ({ B with cnt:=λb=>if b then c.mCount else c.tCount }:Cs).control=zbn B.control:=rfl;omega
   ·have:=M.sc.inn
    rw[this,k1.sc.inn];have ho:=S1.ab.fit.ok
    have:=zzbce { B with cnt:=λb=>if b then c.mCount else c.tCount } B.part f.enc
    rw[zzbfl _ f ho] at this;exact this)
  ((e.inn++b).length+1) { e with inn:=e.inn++b } U rest
  ⟨B.wp (e.inn++b),CB,h2.scal { h2.sc with inn:=rfl } rfl rfl rfl rfl rfl rfl,wpC e B _ U CB S,h6,h8⟩
  (by show (e.inn++b)++rest=_;rw[List.append_assoc];exact h3) (by show (e.inn++b).length<=_;omega)
 exact⟨A,B',P2,D,CA,CB',h1,q1,q2,q4,h4,h5,q3,h7,q5⟩
theorem zij(room:Int):∀ (l:List (Nat×Nat×Nat×Bytes)) (o:Bytes),Cs.outCtl room (l.map λf=>frame f.1 f.2.1 f.2.2.1 f.2.2.2) o=((Ds.outCtl room l o).1.map (λf=>frame f.1 f.2.1 f.2.2.1 f.2.2.2),(Ds.outCtl room l o).2)
 | [],o=>rfl
 | (k,f,i,b)::l,o=>by
  have hl:(frame k f i b).length=6+b.length:=by
   have:=zir ⟨k,f,i,b⟩
   exact this
  rw[List.map_cons,Cs.outCtl,Ds.outCtl];have e:(room-o.length<((frame k f i b).length:Int))↔(room-(o.length:Int)<6+(b.length:Int)):=by rw[hl];omega
  by_cases hc:room-(o.length:Int)<6+(b.length:Int)
  ·rw[if_pos hc,if_pos (e.2 hc)];rfl
  ·rw[if_neg hc,if_neg (λx=>hc (e.1 x))];exact zij room l _
theorem zzbfr(c:Cs)(room:Int)(b:Bytes)(d:Cs)(h:c.turned room=some (b,d)):d.control=c.control:=by
 unfold Cs.turned at h;obtain⟨k,-,h⟩:=Option.bind_eq_some_iff.1 h;obtain⟨i,-,h⟩:=Option.bind_eq_some_iff.1 h;dsimp only at h;split at h
 ·simp at h
 ·have h:Cs.rings { (c.turn i room).2 with ring:=c.ring.eraseIdx k } i=d:=congrArg Prod.snd (Option.some.inj h);rw[<-h]
  show (c.turn i room).2.control=c.control
  unfold Cs.turn;dsimp only;split
  ·split<;>rfl
  ·split
   ·split<;>rfl
   ·split
    ·split<;>rfl
    ·split<;>rfl
theorem zzbih{c:Ds}{A B:Cs}{U D CA CB:List Fr}(S:Sys A B U D CA CB wA wB r h)(M:Sim c A)(hr:∀ s,(vl A.l s).reset=false)(s:Nat):(vl A.l s).code=0:=by
 by_cases hh:hl A.l s
 ·obtain⟨i,hi⟩:=zdq A.l s hh;cases hc:(vl A.l s).coming with
  | true=>rw[(S.ba.coming s hc).1]
  | false =>
   obtain⟨x,-,hx⟩:=M.at hi hc;exact(hx.live (hr s)).2.1
 ·rw[zhc A.l s hh]
theorem zzbii{c:Ds}{A B:Cs}{U D CA CB:List Fr}(S:Sys A B U D CA CB wA wB r h)(M:Sim c A)(hr:∀ s,(vl A.l s).reset=false)(n:Nat)(hn:n∈c.ring):∃ s,c.str n=some s/\zav s.state=true:=by
 obtain⟨i,s,hi,hs,hw,hc,hx⟩:=M.ofRing hn;refine⟨s,hs,?_⟩;rw[hx.waits] at hw;obtain⟨h1,h2,-⟩:=hx.live (hr n);rw[h1];cases hm:(vl A.l n).mine with
 | false=>cases (vl A.l n).theirs<;>rfl
 | true =>
  exfalso;have hb:=(S.ab.e2 n hm).1;have hh:(vl A.l n).head=[]:=by
   cases hx:(vl A.l n).head with
   | nil=>rfl
   | cons a l=>have:=(S.ab.headed n (by rw[hx];simp)).2.2.2.2;rw[hm] at this;cases this
  unfold St.waits at hw;rw[hb,hh,hm,h2] at hw;simp at hw
theorem SyC.turn{p:Nat}{c c':Ds}{A A' B:Cs}{U D CA CB:List Fr}(k2:SyC p c e A B U D CA CB wA wB r h)(k1:Sim c A)(room:Int)(b:Bytes)(e1:c.turned room=some (b,c'))(e2:A.turned room=some (b,A')):∃ Q,encs Q=b/\(∀ f∈Q,f.kind<=3)/\SyC p c' e A' B (U++Q) D CA CB wA wB r h:=by obtain⟨Q,hQ,hk,hM,S2⟩:=k2.toSys.turnM room b A' e2;refine⟨Q,hQ,hk,S2,k2.two,λhp => ?_⟩;obtain⟨a1,a2,a3,a4⟩:=k2.calm hp;obtain⟨m1,m2⟩:=hM (zzbih k2.toSys k1 a1.nr);exact⟨a1.mvA m2 m1 λ_ q => .inl q,a2.mvB m2 λs q=>(k2.ba.e1 s q).2,a3.turned (k2.toSys.strIds k1) (zzbii k2.toSys k1 a1.nr) e1,a4⟩
theorem SyC.ctl{p:Nat}{A B:Cs}{U D CA CB:List Fr}(T:SyC p d e A B U D CA CB wA wB r h)(l:List (Nat×Nat×Nat×Bytes)):SyC p { d with ctl:=l } e A B U D CA CB wA wB r h :=
 ⟨T.toSys,T.two,λhp=>by obtain⟨a1,a2,a3,a4⟩:=T.calm hp;exact⟨a1,a2,a3.of rfl rfl rfl rfl rfl,a4⟩⟩
theorem LK.outRing{CB:List Fr}{B:Cs}{U0 D:List Fr}{cl:Bool}{nA:Nat}{p:Bytes}{pp:Nat}(room:Int)(fuel:Nat):∀ (c:Ds) (A:Cs) (CA Q:List Fr),Sim c A->SyC pp c e A B (U0++Q) D CA CB wA wB r h->A.own=nA->A.client=cl->c.inn=p ->
  ∃ A' Q',Sim (Ds.outRing room fuel c (encs Q)).1 A'/\SyC pp (Ds.outRing room fuel c (encs Q)).1 e A' B (U0++Q') D CA CB wA wB r h/\(Ds.outRing room fuel c (encs Q)).2=encs Q'/\A'.own=nA/\A'.client=cl/\(Ds.outRing room fuel c (encs Q)).1.inn=p/\zbn A'.control=zbn A.control/\zbn (Q'.map Fr.enc)=zbn (Q.map Fr.enc):=by
 induction fuel with
 | zero=>exact λc A CA Q k1 k2 k3 k4 k5=>⟨A,Q,k1,k2,rfl,k3,k4,k5,rfl,rfl⟩
 | succ m ih =>
  intro c A CA Q k1 k2 k3 k4 k5;rw[Ds.outRing];rcases k1.turned k2.toSys.mineA (room-(encs Q).length) with ⟨e1,-⟩ | ⟨b,c',A',e1,e2,M⟩
  ·rw[e1];exact⟨A,Q,k1,k2,rfl,k3,k4,k5,rfl,rfl⟩
  ·rw[e1];obtain⟨R,hR,hRk,S2⟩:=k2.turn k1 _ b e1 e2;have hcA:A'.control=A.control:=zzbfr A _ b A' e2;have kk:=zzbhv A _ b A' e2;have hi:c'.inn=p:=by
    rw[M.sc.inn,zzbck A _ b A' e2,<-k1.sc.inn];exact k5
   have:=ih c' A' CA (Q++R) M (by rw[<-List.append_assoc];exact S2) (kk.1.trans k3) (kk.2.trans k4) hi
   rw[zew,hR,hcA,List.map_append,zdf,zzbif R hRk,Nat.add_zero] at this;exact this
theorem LK.out(H:LK p cl nA nB d e up down wA wB r h)(room:Int):LK p cl nA nB (d.out room).1 e (up++(d.out room).2) down wA wB r h:=by
 obtain⟨A,B,U,D,CA,CB,h1,h2,S,h3,h4,h5,h6,h7,h8⟩:=H;have key:=znp (λc P=>(∃ CA,SyC p d e c B P D CA CB wA wB r h)/\zbn c.control+zbn (P.map Fr.enc)<=zbn A.control+zbn (U.map Fr.enc)) (λc x rr P ⟨⟨CA,T⟩,hm⟩ hx=>by
  have hc:=T.ab.ctl;rw[hx] at hc;cases CA with
  | nil=>simp at hc
  | cons f CA =>
   rw[List.map_cons] at hc;obtain⟨e1,e2⟩:=List.cons.inj hc;refine⟨f,e1.symm,⟨CA,?_⟩,?_⟩
   ·have hf:=T.ab.ctlOk f (List.mem_cons_self);have hm:=Mv.pop (A:=c) (f:=f) (r:=rr) (by rw[hx,e1]) hf.1 hf.2.kind;refine⟨by rw[e2];exact T.toSys.control,T.two,λhp => ?_⟩;obtain⟨a1,a2,a3,a4⟩:=T.calm hp;exact⟨a1.mvA hm (λg hg=>by rw[List.mem_singleton.1 hg];have:=hf.2.kind;omega) λ_ q => .inl q,a2.mvB hm λs q=>(T.ba.e1 s q).2,a3,a4⟩
   ·show zbn rr+zbn ((P++[f]).map Fr.enc)<=_
    rw[hx] at hm;have e3:zbn (x::rr)=zbn [x]+zbn rr:=zdf [x] rr;rw[List.map_append,zdf,show [f].map Fr.enc=[x] from by rw[e1];rfl];omega) room A.control A U [] ⟨⟨CA,by rw[List.append_nil];exact S⟩,by rw[List.append_nil];exact Nat.le_refl _⟩ rfl
 obtain⟨Q,⟨⟨CA',T⟩,hm⟩,hQ⟩:=key;rw[zsp] at T hQ hm;rw[h1.sc.ctl,zij] at T hQ;rw[show (Cs.outCtl room A.control []).1=(Ds.outCtl room d.ctl []).1.map (λf=>frame f.1 f.2.1 f.2.2.1 f.2.2.2) from by rw[h1.sc.ctl,zij]] at hm;dsimp only at T hQ hm;rw[List.map_append,zdf] at hm;have M:Sim { d with ctl:=(Ds.outCtl room d.ctl []).1 } { A with control:=(Ds.outCtl room d.ctl []).1.map λf=>frame f.1 f.2.1 f.2.2.1 f.2.2.2 }:=h1.scal { h1.sc with ctl:=rfl } rfl rfl rfl rfl rfl rfl;have T:=T.ctl (Ds.outCtl room d.ctl []).1;unfold Ds.out;dsimp only;split
 ·obtain⟨A',Q',q1,q2,q3,q4,q5,q6,q7,q8⟩:=LK.outRing (p:=d.inn) room (room.toNat+1) _ _ CA' Q M T h5 h7 rfl;rw[hQ];exact⟨A',B,U++Q',D,CA',CB,q1,h2,q2,by rw[q3,<-List.append_assoc,h3,zew],by rw[q6];exact h4,q4,h6,q5,by rw[q7,List.map_append,zdf,q8];dsimp only;omega⟩
 ·exact⟨_,B,U++Q,D,CA',CB,M,h2,T,by rw[hQ,<-List.append_assoc,h3,zew],h4,h5,h6,h7,by rw[List.map_append,zdf];dsimp only;omega⟩
variable {p:Nat} {cl:Bool} {nA nB:Nat} {d e:Ds} {up down:Bytes} {wA wB:Nat->Way} {r:Nat->Bool} {h:Nat->zal}
theorem Sim.writable{c:Cs}(M:Sim d c)(hids:Ids c)(n:Nat)(hw:d.unwritable (d.find (n:Int))=0) :
  ∃ i,al c.l n=some i/\d.str n=some (d.find (n:Int))/\(vl c.l n).gone=false/\(vl c.l n).coming=false/\(vl c.l n).reset=false/\(vl c.l n).ending=false/\SR c.client n (d.find (n:Int)) (vl c.l n):=by
 rw[M.unwritable hids n] at hw;obtain⟨i,-,hi,hg,he⟩:=zzbia hw;have hg2:=hg;unfold St.gone at hg;obtain⟨g1,g2⟩:=Bool.or_eq_false_iff.1 hg;rcases M.find hids n with ⟨h1,h2⟩ | ⟨h1,h2,h3⟩ | ⟨h1,i',s,h2,h3,h4,h5,h6⟩
 ·rw[hids.known (zem c.l n i hi)] at h1;cases h1
 ·exfalso;rcases h3 with h3 | ⟨i',h3,h4⟩
  ·rw[hi] at h3;cases h3
  ·rcases h4 with h4|⟨-,h4,-⟩
   ·rw[g2] at h4;cases h4
   ·rw[g1] at h4;cases h4
 ·rw[h3];exact⟨i,hi,h4,hg2,g2,g1,he,h6⟩
theorem LK.write(H:LK p cl nA nB d e up down wA wB r h)(n:Nat)(hw:d.unwritable (d.find (n:Int))=0)(data:Bytes) :
  LK p cl nA nB (d.write (d.find (n:Int)) data) e up down (zcu wA n { (wA n) with sent:=(wA n).sent++data.take (Ds.room (d.find (n:Int)) data) }) wB r h:=by
 obtain⟨A,B,U,D,CA,CB,h1,h2,S,h3,h4,h5,h6,h7,h8⟩:=H;obtain⟨i,hi,hs,hg,hc,hre,hen,hr⟩:=h1.writable S.toSys.idsA n hw;have M:=h1.write hi hc hs hr hre data;have T:=S.toSys.write hi hg hen data;have hM:Mv A (A.write i data) []:=by refine Mv.one hi (λs => { s with bytes:=s.bytes++data.take (256-s.bytes.length) }) (λ_=>rfl) rfl rfl rfl rfl rfl rfl rfl rfl rfl rfl rfl (λq=>q) rfl (λ_ _=>rfl) (λ_ _ _=>rfl) (λ_ q=>q)
 have hid:d.str (d.find (n:Int)).id=some (d.find (n:Int))/\(d.find (n:Int)).id<65536:=by obtain⟨q1,q2⟩:=S.toSys.strIds h1 n _ hs;rw[q1];exact⟨hs,q2⟩
 have et:data.take (256-(vl A.l n).bytes.length)=data.take (Ds.room (d.find (n:Int)) data):=by
  rw[hr.da];unfold Ds.room;by_cases hle:data.length<=256-(d.find (n:Int)).data.length
  ·rw[Nat.min_eq_left hle,List.take_of_length_le hle,List.take_of_length_le (Nat.le_refl _)]
  ·rw[Nat.min_eq_right (by omega)]
 rw[et] at T;refine⟨_,B,U,D,CA,CB,M,h2,⟨T,S.two,λhp => ?_⟩,h3,?_,?_,h6,?_,h8⟩
 ·obtain⟨a1,a2,a3,a4⟩:=S.calm hp;have q1:=a1.mvA (w':=zcu wA n { (wA n) with sent:=(wA n).sent++data.take (Ds.room (d.find (n:Int)) data) }) hM (λf hf=>by cases hf) λs q => .inl (by
   by_cases es:s=n
   ·subst es;rw[zfd] at q;exact q
   ·rw[zjo _ _ _ _ es] at q;exact q)
  have q2:=a2.mvB hM λs q=>(S.ba.e1 s q).2;rw[List.append_nil] at q1 q2;exact⟨q1,q2,a3.write hid.1 hid.2 data,a4⟩
 ·rw[M.sc.inn,show (A.write i data).part=A.part from rfl,<-h1.sc.inn];exact h4
 ·exact h5
 ·exact h7
theorem LK.endIt(H:LK p cl nA nB d e up down wA wB r h)(n:Nat)(hw:d.unwritable (d.find (n:Int))=0) :
  LK p cl nA nB (d.endIt (d.find (n:Int))) e up down (zcu wA n { (wA n) with ended:=true }) wB r h:=by
 obtain⟨A,B,U,D,CA,CB,h1,h2,S,h3,h4,h5,h6,h7,h8⟩:=H;obtain⟨i,hi,hs,hg,hc,hre,hen,hr⟩:=h1.writable S.toSys.idsA n hw;have hm:(vl A.l n).mine=false:=by
  cases hx:(vl A.l n).mine with
  | false=>rfl
  | true =>
   rcases (S.ab.e2 n hx).2 with q|q
   ·rw[hen] at q;cases q
   ·rw[hre] at q;cases q
 have M:=h1.endIt hi hc hr hre hm;have T:=S.toSys.ended hi hg hen;have hM:Mv A (A.ended i) []:=by refine Mv.one hi (λs => { s with ending:=true }) (λ_=>rfl) rfl rfl rfl rfl rfl rfl rfl rfl rfl rfl rfl (λ_=>rfl) rfl (λ_ _=>rfl) (λ_ _ _=>rfl) (λ_ q=>q)
 have hid:d.str (d.find (n:Int)).id=some (d.find (n:Int))/\(d.find (n:Int)).id<65536:=by obtain⟨q1,q2⟩:=S.toSys.strIds h1 n _ hs;rw[q1];exact⟨hs,q2⟩
 refine⟨_,B,U,D,CA,CB,M,h2,⟨T,S.two,λhp => ?_⟩,h3,?_,h5,h6,h7,h8⟩
 ·obtain⟨a1,a2,a3,a4⟩:=S.calm hp;have q1:=a1.mvA (w':=zcu wA n { (wA n) with ended:=true }) hM (λf hf=>by cases hf) λs q=>(by
   by_cases es:s=n
   ·subst es;right
    show (vl (A.l.modify i λs => { s with ending:=true }) s).ending=true
    rw[zbo A.l s i (λs => { s with ending:=true }) (λ_=>rfl) hi,if_pos rfl]
   ·rw[zjo _ _ _ _ es] at q;exact .inl q)
  have q2:=a2.mvB hM λs q=>(S.ba.e1 s q).2;rw[List.append_nil] at q1 q2;exact⟨q1,q2,a3.endIt hid.1 hid.2,a4⟩
 rw[M.sc.inn,show (A.ended i).part=A.part from rfl,<-h1.sc.inn];exact h4
theorem Ord.none{s:Nat}{U:List Fr}(h:Ord s true U):dat s U=[]:=by
 induction U with
 | nil=>rfl
 | cons f U ih =>
  unfold Ord at h;by_cases hd:isD s f
  ·rw[if_pos hd] at h;exact absurd h.1 (by simp)
  ·rw[if_neg hd] at h;rw[dat,if_neg hd,ih h];rfl
theorem zzbaq(t id n:Nat):∀ x∈(wfs id n).map Fr.enc,setB t x:=λx hx=>by
 obtain⟨f,hf,rfl⟩:=List.mem_map.1 hx;unfold wfs at hf;split at hf
 ·rw[List.mem_singleton.1 hf];exact zxb t ⟨7,0,id,two n⟩ (by show 7<=255;omega) (by show 7≠4;omega)
 ·cases hf
theorem znx(id n s:Nat)(hid:id<65536)(hn:n<65536):zct s ((wfs id n).map Fr.enc)=if s=id then n else 0:=by
 rw[zsq s (wfs id n) λf hf=>(zpx id n (λ_=>True) hid hn (.inr trivial) f hf).1];by_cases e:s=id
 ·rw[if_pos e,e,zmu id n hn]
 ·rw[if_neg e,zdu id n s e]
theorem zzblv(A:Cs){n i:Nat}(hi:al A.l n=some i)(hf:A.failed=false)(hid:n<65536){a b c:Nat}(hj:a+b+c+(vl A.l n).unread.length<=100)(most:Nat):Mv A (A.read i most) []:=by
 rw[zsu A hi hf most];have hle:A.readN i most<=(vl A.l n).unread.length:=by unfold Cs.readN;rw[zca A n i hi];omega
 generalize A.readN i most=k at hle;have hk:k<65536:=by omega
 refine Mv.one hi (λt => { t with unread:=t.unread.drop k,recv:=if (vl A.l n).theirs then t.recv else t.recv+k }) (λ_=>rfl) rfl rfl rfl rfl rfl rfl rfl rfl rfl rfl rfl (λq=>q) rfl (λh0 ht => ?_) (λx h0 hx => ?_) (λt ht x hx => ?_)
 ·show zct n (A.control++_)+((vl A.l n).unread.drop k).length=_
  rw[ht,zfw,List.map_append,zfw,znx 0 k n (by omega) hk,if_neg h0,List.length_drop]
  show zct n A.control+(zct n ((wfs n k).map Fr.enc)+0)+_=_
  rw[znx n k n hid hk,if_pos rfl];omega
 ·show zct x (A.control++_)=_
  rw[zfw,List.map_append,zfw,znx 0 k x (by omega) hk,if_neg h0];cases (vl A.l n).theirs
  ·show zct x A.control+(zct x ((wfs n k).map Fr.enc)+0)=_
   rw[znx n k x hid hk,if_neg hx];rfl
  ·rfl
 ·rcases List.mem_append.1 hx with hx|hx
  ·exact ht x hx
  ·rw[List.map_append] at hx;rcases List.mem_append.1 hx with hx | hx
   ·revert hx;cases (vl A.l n).theirs
    ·exact λhx=>zzbaq t n k x hx
    ·exact λhx=>nomatch hx
   ·exact zzbaq t 0 k x hx
theorem LK.readTells(H:LK p cl nA nB d e up down wA wB r h)(n:Nat)(hn:1<=n)(most:Int)(hm:0<=most) :
  (Ds.read? (d.find (n:Int)) most=6/\(wB n).read=0) \/
  (Ds.read? (d.find (n:Int)) most=7/\((2<p/\(r n=true \/ ∃ c,(3,n,c)∈d.ev))\/(d.headers? (n:Int)=none/\ownB cl n=false/\(wB n).read=0))) \/
  (Ds.read? (d.find (n:Int)) most=8/\(wB n).ended=true/\(wB n).read=(wB n).sent.length) \/
  (Ds.read? (d.find (n:Int)) most=0 /\ ∃ (m:Nat),m=Ds.readN (d.find (n:Int)) most/\(wB n).read+m<=(wB n).sent.length/\(d.find (n:Int)).unread.take m=((wB n).sent.drop (wB n).read).take m /\
   LK p cl nA nB (d.read (d.find (n:Int)) m) e up down wA (zcu wB n { (wB n) with read:=(wB n).read+m }) r h):=by
 obtain⟨A,B,U,D,CA,CB,h1,h2,S,h3,h4,h5,h6,h7,h8⟩:=H;have hids:=S.toSys.idsA;have hq3:¬ hl A.l n->(wB n).read=0:=λhx=>by
  cases hz:(wB n).read with
  | zero=>rfl
  | succ k=>exact absurd (S.ba.q3 n (by rw[hz];omega)).1 hx
 have hq4:ownB A.client n=false->(vl A.l n).headers=[]->(wB n).read=0:=λho hx=>by
  cases hz:(wB n).read with
  | zero=>rfl
  | succ k=>exact absurd hx ((S.ba.q3 n (by rw[hz];omega)).2 ho)
 have hcom:(vl A.l n).coming=true->(vl A.l n).headers=[]/\ownB A.client n=false:=λhx=>by
  obtain⟨a1,a2⟩:=S.ba.coming n hx;refine⟨by rw[a1],?_⟩
  have:=S.ba.now (by omega)
  rw[a2] at this;exact this.2.2.2
 have hhd:=h1.headers? n λhx=>(hcom hx).1;rw[h1.read? hids n most];unfold Cs.read?;rw[if_neg (by omega:¬ most<0),zcw];cases hk:A.known (n:Int) with
 | false =>
  left;refine⟨rfl,hq3 λhx => ?_⟩;rw[hids.known hx] at hk;cases hk
 | true =>
  rw[if_neg (by simp)];right;cases hi:al A.l n with
  | none =>
   left;have hnl:¬ hl A.l n:=λhx=>by unfold hl at hx;rw[zhu A.l n hi] at hx;cases hx
   refine⟨rfl,.inr ⟨?_,?_,hq3 hnl⟩⟩
   ·rw[hhd];unfold Cs.headers?;rw[zcw,hi];rfl
   ·rw[<-h7];cases ho:ownB A.client n with
    | false=>rfl
    | true =>
     exfalso;refine hnl (S.ab.ownAll n hn ho ?_);unfold Cs.known at hk;have e:A.owns (n:Int).toNat=ownB A.client n:=rfl;rw[e,ho] at hk;simpa using (Bool.and_eq_true_iff.1 hk).2
  | some i =>
   dsimp only;rw[zca A n i hi];cases hg:(vl A.l n).gone with
   | true =>
    left;refine⟨rfl,?_⟩;unfold St.gone at hg;rw[Bool.or_eq_true] at hg;have hh0:(vl A.l n).headers=[]->d.headers? (n:Int)=none:=λhx=>by rw[hhd];unfold Cs.headers?;rw[zcw,hi,Option.bind_some,zca A n i hi,hx];rfl
    rcases hg with hg|hg
    ·have hp2:2<p:=by
      apply Classical.byContradiction;intro hp
      have:=(S.calm (by omega)).1.nr n
      rw[hg] at this;cases this
     rcases S.ba.z n hg with z|z|⟨z1,z2⟩
     ·exact .inl ⟨hp2,.inl z⟩
     ·exact .inl ⟨hp2,.inr (by rw[h1.sc.ev];exact z)⟩
     ·exact .inr ⟨hh0 z2,by rw[<-h7];exact z1,hq4 z1 z2⟩
    ·obtain⟨c1,c2⟩:=hcom hg;exact .inr ⟨hh0 c1,by rw[<-h7];exact c2,hq4 c2 c1⟩
   | false =>
    right;rw[if_neg Bool.false_ne_true];have hg2:=hg;unfold St.gone at hg;obtain⟨g1,g2⟩:=Bool.or_eq_false_iff.1 hg;by_cases hend:(vl A.l n).unread.length=0/\(vl A.l n).theirs=true
    ·rw[if_pos hend];left;obtain⟨rest,a1,-,a3⟩:=S.ba.q n g1;obtain⟨b1,b2⟩:=a3 (.inr hend.2);have ho:=S.ba.ord n;rw[hend.2] at ho;have hu:(vl A.l n).unread=[]:=List.eq_nil_of_length_eq_zero hend.1;rw[hu,ho.none,b1] at a1;have hl:=congrArg List.length a1;rw[List.length_drop] at hl
     have:=S.ba.q0 n
     refine⟨rfl,b2,?_⟩;simp at hl;omega
    ·rw[if_neg hend];right;refine⟨rfl,Ds.readN (d.find (n:Int)) most,rfl,?_⟩;obtain⟨s,hs,hr⟩:=h1.at hi g2;have hf:d.find (n:Int)=s:=by
      rcases h1.find hids n with ⟨q1,q2⟩|⟨q1,q2,q3⟩|⟨q1,i',s',q2,q3,q4,q5,q6⟩
      ·rw[hk] at q1;cases q1
      ·exfalso;rcases q3 with q3 | ⟨i',q3,q4⟩
       ·rw[hi] at q3;cases q3
       ·rcases q4 with q4|⟨-,q4,-⟩
        ·rw[g2] at q4;cases q4
        ·rw[g1] at q4;cases q4
      ·rw[q3];rw[hs] at q4;injection q4 with q4;exact q4.symm
     rw[hf];have hN:Ds.readN s most=A.readN i most.toNat:=by unfold Ds.readN Cs.readN;rw[zca A n i hi,hr.un]
     have hmin:A.readN i most.toNat=min most.toNat (vl A.l n).unread.length:=by unfold Cs.readN;rw[zca A n i hi]
     obtain⟨r1,r2,-⟩:=S.toSys.reads hi hg2 (A.readN i most.toNat) (by rw[hmin];omega);obtain⟨CA',T⟩:=S.toSys.read hi hg2 most.toNat;have M:=h1.read hi g2 hs hr g1 most.toNat;rw[hN];rw[<-hmin] at T;refine⟨r1,by rw[<-hr.un];exact r2,?_⟩;have e1:=zsu A hi h1.sc.cf most.toNat;refine⟨_,B,U,D,CA',CB,M,h2,⟨T,S.two,λhp => ?_⟩,h3,?_,?_,h6,?_,?_⟩
     ·obtain⟨a1,a2,a3,a4⟩:=S.calm hp;have hM:=zzblv A hi h1.sc.cf (S.ab.ids n (zem A.l n i hi)).2.1 (S.ba.j n (by omega)) most.toNat;have q1:=a1.mvA hM (λf hf=>by cases hf) λ_ q => .inl q
      have q2:=a2.mvB (w:=wB) hM λs q=>(S.ba.e1 s q).2;rw[List.append_nil] at q1 q2;obtain⟨i1,i2⟩:=S.toSys.strIds h1 n _ hs;refine⟨q1,{ q2 with en:=λx hx=>q2.en x ?_ },a3.read (by rw[i1];exact hs) (by rw[i1];exact i2) _,a4⟩;by_cases es:x=n
      ·subst es;rw[zfd] at hx;exact hx
      ·rw[zjo _ _ _ _ es] at hx;exact hx
     ·rw[M.sc.inn,e1]
      show A.part++down=_
      rw[<-h1.sc.inn];exact h4
     ·rw[e1];exact h5
     ·rw[e1];exact h7
     ·have e2:zbn (A.read i most.toNat).control=zbn A.control:=by
       rw[e1]
       show zbn (A.control++_)=_
       rw[zdf,List.map_append,zdf,zsw];cases (vl A.l n).theirs
       ·show _+(zbn ((wfs n _).map Fr.enc)+0)=_
        rw[zsw];rfl
       ·rfl
      rw[e2];exact h8
theorem zzbar(x:Bytes):zbn [x]<=1:=List.length_filter_le _ _
theorem LK.asked(H:LK p cl nA nB d e up down wA wB r h)(r':Nat->Bool)(hr':∀ s,r s=true->r' s=true)(hev:∀ s c,(3,s,c)∈d.ev->r' s=true) :
  LK p cl nA nB d.asked e up down wA wB r' h /\ ∀ x∈d.ev,x.1≠6/\(x.1=1->d.headers? (x.2.1:Int)=some (h x.2.1)):=by
 obtain⟨A,B,U,D,CA,CB,h1,h2,S,h3,h4,h5,h6,h7,h8⟩:=H;refine⟨⟨_,B,U,D,CA,CB,h1.asked,h2,⟨(S.toSys.knows hr').asked (by rw[<-h1.sc.ev];exact hev),S.two,λhp=>(by obtain⟨a1,a2,a3,a4⟩:=S.calm hp;exact⟨{ a1 with },{ a2 with },a3.of rfl rfl rfl rfl rfl,a4⟩)⟩,h3,h4,h5,h6,h7,h8⟩,λx hx => ?_⟩;rw[h1.sc.ev] at hx;obtain⟨a1,a2⟩:=S.ba.evs x hx;refine⟨a1,λh0 => ?_⟩;obtain⟨b1,b2⟩:=a2 h0;obtain⟨i,hi⟩:=zdq A.l x.2.1 b1;rw[h1.headers? x.2.1 λhc=>by rw[(S.ba.coming _ hc).1]];unfold Cs.headers?;rw[zcw,hi,Option.bind_some,zca A _ i hi,b2];have hne:¬ (h x.2.1).length=0:=by
  have:=S.ab.hp x.2.1
  unfold zbi at this;simp only[Bool.and_eq_true,decide_eq_true_eq] at this;omega
 rw[if_neg hne]
theorem LK.opened(H:LK p cl nA nB d e up down wA wB r h)(hd:zal)(hp:zbi hd=true)(ho:d.open? hd=0)(r':Nat->Bool)(hr:∀ s,s≠d.next->r' s=r s) :
  LK p cl d.next nB (d.opened hd) e up down wA wB r' (λs=>if s=d.next then hd else h s)/\nA<d.next/\d.next<=99/\ownB cl d.next=true:=by
 obtain⟨A,B,U,D,CA,CB,h1,h2,S,h3,h4,h5,h6,h7,h8⟩:=H;obtain⟨n1,n2,n3⟩:=zjy S.ab;have hml:d.next<=99/\d.mCount<(d.mMost:Int):=by
  unfold Ds.open? at ho;rw[hp] at ho;by_cases q1:(d.failed || d.peerLeaves || d.leaving)=true
  ·rw[if_neg (by simp),if_pos q1] at ho;cases ho
  ·rw[if_neg (by simp),if_neg q1] at ho;by_cases q2:(d.mMost:Int)<=d.mCount\/99<d.next
   ·rw[if_pos q2] at ho;cases ho
   ·omega
 have hm:=hml.1;have hmc:=hml.2;have hN:=λhp2=>(S.calm hp2).2.2.1.opened hd (by omega)
 have hn:=h1.next;rw[hn] at hr hm ⊢;have hnl:¬ hl A.l A.next:=λhx=>by
  have:=(S.ab.ids _ hx).2.2
  rw[n2] at this
  have:A.next<=A.own:=by simpa using this
  omega
 have M:=h1.opened hd hp hnl n2;have T:=S.toSys.opened hd hp hm r' hr;have e1:(A.opened hd).part=A.part/\(A.opened hd).own=A.next/\(A.opened hd).client=A.client/\(A.opened hd).control=A.control:=by rw[zls A hd hp];exact⟨rfl,rfl,rfl,rfl⟩
 refine⟨⟨_,B,U,D,CA,CB,M,h2,⟨T,S.two,λhp2 => ?_⟩,h3,?_,e1.2.1,h6,e1.2.2.1.trans h7,by rw[e1.2.2.2];exact h8⟩,by omega,hm,by rw[<-h7];exact n2⟩
 ·obtain⟨a1,a2,a3,a4⟩:=S.calm hp2;have O:=zzbfp A hd hp hnl;have q:=zzbkf a3 h1 S.toSys a1 hm;have q2:=a1.lim.1;have q3:=h1.sc.mM;refine⟨a1.opnA O n3 (by omega),a2.opnB O,hN hp2 (h1.strNone λx=>absurd (hn ▸ x) hnl) hmc,a4⟩
 rw[M.sc.inn,e1.1,<-h1.sc.inn];exact h4
theorem Sim.new(client:Bool)(n:Nat):Sim (Ds.new client n) (Cs.new client n):=by
 refine⟨⟨rfl,rfl,rfl,rfl,rfl,rfl,rfl,rfl,rfl,rfl,rfl,rfl,rfl,rfl,rfl,rfl⟩,rfl,List.nodup_nil,λk => ?_,λk=>rfl⟩;constructor
 ·intro hx;cases hx
 ·rintro ⟨s,hs,-⟩;cases hs
theorem LK.new(n m:Nat)(hn:n<=6)(hm:m<=6)(hn1:1<=n)(hm1:1<=m)(r:Nat->Bool)(h:Nat->zal)(hp:∀ s,zbi (h s)=true):LK 2 true 0 0 (Ds.new true n) (Ds.new false m) [] [] (λ_ => {}) (λ_ => {}) r h :=
 ⟨_,_,[],[],_,_,Sim.new true n,Sim.new false m,⟨Sys.new n m hn hm r h hp,Nat.le_refl _,λ_=>⟨zzbaj true n m hm1 hm,zzbaj false m n hn1 hn,zas.new true n hn,zas.new false m hm⟩⟩,rfl,rfl,rfl,rfl,rfl,by
  have h1:=zzbar (frame 4 0 0 [UInt8.ofNat n]);have h2:=zzbar (frame 4 0 0 [UInt8.ofNat m])
  show zbn [frame 4 0 0 [UInt8.ofNat n]]+zbn [frame 4 0 0 [UInt8.ofNat m]]+(0+0)<=2
  omega⟩
end Go.Proofs.YtoijpogadkogcaaGreat
