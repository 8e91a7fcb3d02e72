import Derived.Test.YtoijpogadkogcaaGreatRk
import Derived.Test.YtoijpogadkogcaaGreatQv
import Derived.Test.YtoijpogadkogcaaGreatQy
import Derived.Test.YtoijpogadkogcaaGreatRa
import Derived.Test.YtoijpogadkogcaaGreatRc
namespace Go.Proofs.YtoijpogadkogcaaGreat
open Go.RowKit
set_option maxRecDepth 100000
theorem zzbfu(f:Nat):∀ d:Ds,d.inn.length<f->(Ds.looks f d).failed=true\/(Ds.looks f d).inn.length<=69:=by
 induction f with
 | zero=>intro d h;omega
 | succ f ih =>
  intro d h;rw[Ds.looks];by_cases h1:d.failed=true\/d.inn.length<6
  ·rw[if_pos h1];rcases h1 with h1 | h1
   ·exact .inl h1
   ·exact .inr (by omega)
  ·rw[if_neg h1];dsimp only;by_cases h2:64<Cs.num d.inn 0
   ·rw[if_pos h2];exact .inl rfl
   ·rw[if_neg h2];by_cases h3:d.inn.length<6+Cs.num d.inn 0
    ·rw[if_pos h3];exact .inr (by omega)
    ·rw[if_neg h3];rcases zet { d with inn:=d.inn.drop (6+Cs.num d.inn 0) } ((d.inn.take (6+Cs.num d.inn 0)).getD 2 0).toNat ((d.inn.take (6+Cs.num d.inn 0)).getD 3 0).toNat (Cs.num (d.inn.take (6+Cs.num d.inn 0)) 4) ((d.inn.take (6+Cs.num d.inn 0)).drop 6) with k | k
     ·left;rw[zbb _ _ (.inl k)];exact k
     ·refine ih _ ?_;rw[k]
      show (d.inn.drop (6+Cs.num d.inn 0)).length<f
      rw[List.length_drop];omega
theorem zrr(d:Ds)(b:Bytes):(d.takes b).failed=true\/(d.takes b).inn.length<=69:=by
 unfold Ds.takes;split
 ·rename_i hf;exact .inl hf
 ·exact zzbfu _ _ (Nat.lt_succ_self _)
def zfy(c:Bool)(ls:List Line):Nat->Way:=if c then lwA ls else lwB ls
def wIn(c:Bool)(ls:List Line):Nat->Way:=if c then lwB ls else lwA ls
theorem zzbkk(c:Bool)(ls:List Line):zfy (!c) ls=wIn c ls:=by cases c<;>rfl
theorem zzbly(c:Bool)(ls:List Line):wIn (!c) ls=zfy c ls:=by cases c<;>rfl
section
variable {ls:List Line} {k:Nat} {t:Line}
theorem zkh(c:Bool)(hk:ls[k]? = some t)(hn:(ls.map Line.id).Nodup):zfy c ls t.id=t.out c:=by
 cases c
 ·exact zzbhz hk hn
 ·exact zzbhy hk hn
theorem zjp(c:Bool)(hk:ls[k]? = some t)(hn:(ls.map Line.id).Nodup):wIn c ls t.id=t.inn c:=by
 cases c
 ·exact zzbhy hk hn
 ·exact zzbhz hk hn
theorem znz(c:Bool)(hk:ls[k]? = some t)(hn:(ls.map Line.id).Nodup)(f:Line->Line)(hf:∀ u,(f u).id=u.id):zfy c (ls.modify k f)=zcu (zfy c ls) t.id ((f t).out c):=by
 cases c
 ·exact zzbea hk hn f hf
 ·exact zzbdz hk hn f hf
theorem zqm(c:Bool)(hk:ls[k]? = some t)(hn:(ls.map Line.id).Nodup)(f:Line->Line)(hf:∀ u,(f u).id=u.id):wIn c (ls.modify k f)=zcu (wIn c ls) t.id ((f t).inn c):=by
 cases c
 ·exact zzbdz hk hn f hf
 ·exact zzbea hk hn f hf
theorem zbu(t:Line)(c:Bool)(w:Way):(t.setOut c w).out c=w/\(t.setOut c w).inn c=t.inn c/\(t.setOut c w).reset=t.reset/\(t.setOut c w).h=t.h/\(t.setOut c w).id=t.id:=by cases c<;>exact⟨rfl,rfl,rfl,rfl,rfl⟩
theorem zdz(t:Line)(c:Bool)(w:Way):(t.setIn c w).inn c=w/\(t.setIn c w).out c=t.out c/\(t.setIn c w).reset=t.reset/\(t.setIn c w).h=t.h/\(t.setIn c w).id=t.id:=by cases c<;>exact⟨rfl,rfl,rfl,rfl,rfl⟩
end
def zcr(c:Bool)(d:Ds)(ls:List Line)(d':Ds)(ls':List Line):Prop :=
 (d'.ev=d.ev/\d'.inn=d.inn)/\(∀ s,(zfy c ls' s).sent.length+(d.stOf s).data.length=(zfy c ls s).sent.length+(d'.stOf s).data.length) /\ ∀ s,(wIn c ls' s).sent=(wIn c ls s).sent
theorem zcr.refl(c:Bool)(d:Ds)(ls:List Line):zcr c d ls d ls:=⟨⟨rfl,rfl⟩,λ_=>rfl,λ_=>rfl⟩
theorem zjf(d:Ds)(n k:Nat):(d.enter n).stOf k=d.stOf k:=by unfold Ds.enter;split<;>rfl
structure TD (c:Bool) (d e:Ds) (u v:Bytes) (ls:List Line) (p m L:Nat):Prop where
 lk:LK p c d.mLast e.mLast d e u v (zfy c ls) (wIn c ls) (lr ls) (lh ls)
 nodup:(ls.map Line.id).Nodup
 has:∀ t∈ls,1<=t.id/\t.id<=99/\t.id<=(if ownB c t.id then d.mLast else e.mLast)
 od:d.Ok m 0 50000010
 oe:e.Ok m 0 50000010
 di:d.inn.length<=69
 ei:e.inn.length<=69
 ul:u.length<=L
 vl:v.length<=L
 db:EvB d
 eb:EvB e
section
variable {c:Bool} {d e:Ds} {u v:Bytes} {ls:List Line} {p m L:Nat} {k:Nat} {t:Line}
theorem zzbkl(c:Bool)(s:Nat):ownB (!c) s = !ownB c s:=by unfold ownB;cases c<;>cases (s%2 == 1)<;>rfl
theorem TD.swap(H:TD c d e u v ls p m L):TD (!c) e d v u ls p m L:=by
 refine⟨?_,H.nodup,λt ht => ?_,H.oe,H.od,H.ei,H.di,H.vl,H.ul,H.eb,H.db⟩
 ·rw[zzbkk,zzbly];exact H.lk.swap
 ·obtain⟨h1,h2,h3⟩:=H.has t ht;refine⟨h1,h2,?_⟩;rw[zzbkl];cases ho:ownB c t.id<;>rw[ho] at h3<;>simpa using h3
theorem TD.unswap(H:TD (!c) e d v u ls p m L):TD c d e u v ls p m L:=by
 have:=H.swap
 rwa [Bool.not_not] at this
theorem TD.mono(H:TD c d e u v ls p m L){m':Nat}(hm:m'<=m):TD c d e u v ls p m' L:=⟨H.lk,H.nodup,H.has,H.od.mono hm,H.oe.mono hm,H.di,H.ei,H.ul,H.vl,H.db,H.eb⟩
theorem LK.last{cl:Bool}{nA nB:Nat}{up down:Bytes}{wA wB:Nat->Way}{r:Nat->Bool}{h:Nat->zal}(H:LK p cl nA nB d e up down wA wB r h):d.mLast=nA/\e.mLast=nB/\d.client=cl/\e.client = !cl:=by obtain⟨A,B,U,D,CA,CB,h1,h2,S,h3,h4,h5,h6,h7,h8⟩:=H;exact⟨h1.sc.mL.trans h5,h2.sc.mL.trans h6,h1.sc.cl.trans h7,by rw[h2.sc.cl,<-h7,S.ab.cl,Bool.not_not]⟩
theorem TD.line(H:TD c d e u v ls p m L)(hk:ls[k]? = some t):1<=t.id/\t.id<=99/\t.id<=(if ownB c t.id then d.mLast else e.mLast):=H.has t (List.mem_of_getElem? hk)
theorem LK.realStr{cl:Bool}{nA nB:Nat}{up down:Bytes}{wA wB:Nat->Way}{r:Nat->Bool}{h:Nat->zal}(H:LK p cl nA nB d e up down wA wB r h)(n:Nat)(hs:(d.find (n:Int)).state≠0)(h8:(d.find (n:Int)).state≠8):d.str n=some (d.find (n:Int))/\(d.find (n:Int)).id=n:=by
 obtain⟨A,B,U,D,CA,CB,h1,h2,S,-⟩:=H;rcases h1.find S.idsA n with ⟨q1,q2⟩ | ⟨q1,q2,q3⟩ | ⟨q1,i,s,q2,q3,q4,q5,q6⟩
 ·rw[q2] at hs;exact absurd rfl hs
 ·rw[q2] at h8;exact absurd rfl h8
 ·rw[q3];exact⟨q4,q6.id⟩
theorem TD.step(H:TD c d e u v ls p m L)(hk:ls[k]? = some t)(f:Line->Line)(hf:∀ x,(f x).id=x.id)(hh:(f t).h=t.h){d':Ds}{p' m':Nat}
  (S:LK p' c d.mLast e.mLast d' e u v (zcu (zfy c ls) t.id ((f t).out c)) (zcu (wIn c ls) t.id ((f t).inn c)) (λs=>if s=t.id then (f t).reset else lr ls s) (lh ls)) (ok:d'.Ok m' 0 50000010) (hm:m'<=m) (hi:d'.inn=d.inn) (hv:d'.ev=d.ev):TD c d' e u v (ls.modify k f) p' m' L:=by
 have hl:=S.last;refine⟨?_,by rw[zns _ _ _ hf];exact H.nodup,λx hx => ?_,ok,H.oe.mono hm,by rw[hi];exact H.di,H.ei,H.ul,H.vl,H.db.of hv,H.eb⟩
 ·rw[znz c hk H.nodup f hf,zqm c hk H.nodup f hf,zzbmu hk H.nodup f hf,zzbcl hk H.nodup f hf hh,hl.1];exact S
 ·obtain⟨y,hy,ey⟩:=zye hf hx
  have:=H.has y hy
  rw[ey] at this;rw[hl.1];exact this
theorem zvx(hk:ls[k]? = some t)(hn:(ls.map Line.id).Nodup):(λs=>if s=t.id then t.reset else lr ls s)=lr ls:=lr_if hk hn _ rfl
theorem zki{w:Nat->Way}{s:Nat}{x:Way}(h:w s=x):zcu w s x=w:=by rw[<-h,zzbhx]
theorem TD.write(H:TD c d e u v ls p (m+1) L)(hk:ls[k]? = some t)(hw:d.unwritable (d.find (t.id:Int))=0)(data:Bytes) :
  TD c (d.write (d.find (t.id:Int)) data) e u v (ls.modify k λx=>x.setOut c { (x.out c) with sent:=(x.out c).sent++data.take (Ds.room (d.find (t.id:Int)) data) }) p m L:=by
 have hst:(d.find (t.id:Int)).state≠0/\(d.find (t.id:Int)).state≠8:=by
  unfold Ds.unwritable at hw;constructor
  ·intro e0;rw[if_pos e0] at hw;cases hw
  ·intro e8;rw[H.lk.failed,e8] at hw;simp[zbx] at hw
 obtain⟨hs,hid⟩:=H.lk.realStr t.id hst.1 hst.2;have T:=H.lk.write t.id hw data;refine H.step hk _ (λx=>(zbu x c _).2.2.2.2) (zbu t c _).2.2.2.1 ?_ (Ds.Ok.write (s:=d.find (t.id:Int)) H.od (by rw[hid];exact hs) data) (by omega) (znk d _ data).2 (zzbau _ _ _);rw[(zbu t c _).1,(zbu t c _).2.1,(zbu t c _).2.2.1,zvx hk H.nodup,zki (zjp c hk H.nodup)];rw[zkh c hk H.nodup] at T;exact T
theorem TD.writeK(H:TD c d e u v ls p (m+1) L)(hk:ls[k]? = some t)(hw:d.unwritable (d.find (t.id:Int))=0)(data:Bytes) :
  TD c (d.write (d.find (t.id:Int)) data) e u v (ls.modify k λx=>x.setOut c { (x.out c) with sent:=(x.out c).sent++data.take (Ds.room (d.find (t.id:Int)) data) }) p m L /\
  zcr c d ls (d.write (d.find (t.id:Int)) data) (ls.modify k λx=>x.setOut c { (x.out c) with sent:=(x.out c).sent++data.take (Ds.room (d.find (t.id:Int)) data) }):=by
 refine⟨H.write hk hw data,⟨zzbau _ _ _,(znk d _ data).2⟩,λs => ?_,λs => ?_⟩
 ·have hst:(d.find (t.id:Int)).state≠0/\(d.find (t.id:Int)).state≠8:=by
   unfold Ds.unwritable at hw;constructor
   ·intro e0;rw[if_pos e0] at hw;cases hw
   ·intro e8;rw[H.lk.failed,e8] at hw;simp[zbx] at hw
  obtain⟨hs,hid⟩:=H.lk.realStr t.id hst.1 hst.2;rw[znz c hk H.nodup _ (λx=>(zbu x c _).2.2.2.2),(zbu t c _).1];have hsd:d.stOf t.id=d.find (t.id:Int):=by unfold Ds.stOf;rw[hs];rfl
  have hle:Ds.room (d.find (t.id:Int)) data<=data.length:=by unfold Ds.room;omega
  by_cases es:s=t.id
  ·rw[es,zfd,zkh c hk H.nodup,hsd];dsimp only;unfold Ds.write;split
   ·rename_i h0;rw[h0,hsd];simp
   ·rw[zjf,zcn,if_pos hid.symm];simp only[List.length_append,List.length_take];omega
  ·rw[zjo _ _ _ _ es]
   have:(d.write (d.find (t.id:Int)) data).stOf s=d.stOf s:=by
    unfold Ds.write;split
    ·rfl
    ·rw[zjf,zcn,if_neg (by rw[hid];exact es)]
   rw[this]
 ·rw[zqm c hk H.nodup _ (λx=>(zbu x c _).2.2.2.2),(zbu t c _).2.1,zki (zjp c hk H.nodup)]
theorem TD.endIt(H:TD c d e u v ls p (m+1) L)(hk:ls[k]? = some t)(hw:d.unwritable (d.find (t.id:Int))=0) :
  TD c (d.endIt (d.find (t.id:Int))) e u v (ls.modify k λx=>x.setOut c { (x.out c) with ended:=true }) p m L:=by
 have hst:(d.find (t.id:Int)).state≠0/\(d.find (t.id:Int)).state≠8:=by
  unfold Ds.unwritable at hw;constructor
  ·intro e0;rw[if_pos e0] at hw;cases hw
  ·intro e8;rw[H.lk.failed,e8] at hw;simp[zbx] at hw
 obtain⟨hs,hid⟩:=H.lk.realStr t.id hst.1 hst.2;have T:=H.lk.endIt t.id hw;refine H.step hk _ (λx=>(zbu x c _).2.2.2.2) (zbu t c _).2.2.2.1 ?_ (Ds.Ok.endIt (s:=d.find (t.id:Int)) H.od (by rw[hid];exact hs)) (by omega) (by unfold Ds.endIt;rw[zhk];rfl) (zzbav _ _);rw[(zbu t c _).1,(zbu t c _).2.1,(zbu t c _).2.2.1,zvx hk H.nodup,zki (zjp c hk H.nodup)];rw[zkh c hk H.nodup] at T;exact T
theorem TD.endItK(H:TD c d e u v ls p (m+1) L)(hk:ls[k]? = some t)(hw:d.unwritable (d.find (t.id:Int))=0) :
  TD c (d.endIt (d.find (t.id:Int))) e u v (ls.modify k λx=>x.setOut c { (x.out c) with ended:=true }) p m L/\zcr c d ls (d.endIt (d.find (t.id:Int))) (ls.modify k λx=>x.setOut c { (x.out c) with ended:=true }):=by
 refine⟨H.endIt hk hw,⟨zzbav _ _,by unfold Ds.endIt;rw[zhk];rfl⟩,λs => ?_,λs => ?_⟩
 ·have hst:(d.find (t.id:Int)).state≠0/\(d.find (t.id:Int)).state≠8:=by
   unfold Ds.unwritable at hw;constructor
   ·intro e0;rw[if_pos e0] at hw;cases hw
   ·intro e8;rw[H.lk.failed,e8] at hw;simp[zbx] at hw
  obtain⟨hs,hid⟩:=H.lk.realStr t.id hst.1 hst.2;rw[znz c hk H.nodup _ (λx=>(zbu x c _).2.2.2.2),(zbu t c _).1];have e1:((d.endIt (d.find (t.id:Int))).stOf s).data=(d.stOf s).data:=by
   unfold Ds.endIt;rw[zjf,zcn];split
   ·rename_i es;rw[es,hid];unfold Ds.stOf;rw[hs];rfl
   ·rfl
  rw[e1];by_cases es:s=t.id
  ·rw[es,zfd,zkh c hk H.nodup]
  ·rw[zjo _ _ _ _ es]
 ·rw[zqm c hk H.nodup _ (λx=>(zbu x c _).2.2.2.2),(zbu t c _).2.1,zki (zjp c hk H.nodup)]
theorem zzbin(d:Ds){x:DS}(n s:Nat)(hs:d.str x.id=some x):((d.read x n).stOf s).data=(d.stOf s).data:=by
 have hset:∀ y:DS,y.data=x.data->((d.setS x.id y).stOf s).data=(d.stOf s).data:=λy hy=>by
  rw[zcn];split
  ·rename_i es;rw[es,hy];unfold Ds.stOf;rw[hs];rfl
  ·rfl
 have hset2:∀ y z:DS,y.data=x.data->(((d.setS x.id z).setS x.id y).stOf s).data=(d.stOf s).data:=λy z hy=>by
  rw[zcn];split
  ·rename_i es;rw[es,hy];unfold Ds.stOf;rw[hs];rfl
  ·rename_i es
   rw[zcn,if_neg es]
 unfold Ds.read;dsimp only;split
 ·exact hset _ rfl
 ·split
  ·exact hset _ rfl
  ·exact hset2 _ _ rfl
theorem TD.reads(H:TD c d e u v ls p (m+3) L)(hk:ls[k]? = some t)(hev:d.ev=[]\/p<=2)(most:Int)(hm:0<=most) :
  (Ds.read? (d.find (t.id:Int)) most=6/\(t.inn c).read=0) \/
  (Ds.read? (d.find (t.id:Int)) most=7/\(t.reset=true\/(d.headers? (t.id:Int)=none/\ownB c t.id=false/\(t.inn c).read=0))) \/
  (Ds.read? (d.find (t.id:Int)) most=8/\(t.inn c).ended=true/\(t.inn c).read=(t.inn c).sent.length) \/
  (Ds.read? (d.find (t.id:Int)) most=0 /\ ∃ n:Nat,n=Ds.readN (d.find (t.id:Int)) most/\(t.inn c).read+n<=(t.inn c).sent.length/\(d.find (t.id:Int)).unread.take n=((t.inn c).sent.drop (t.inn c).read).take n /\
   TD c (d.read (d.find (t.id:Int)) n) e u v (ls.modify k λx=>x.setIn c { (x.inn c) with read:=(x.inn c).read+n }) p m L/\zcr c d ls (d.read (d.find (t.id:Int)) n) (ls.modify k λx=>x.setIn c { (x.inn c) with read:=(x.inn c).read+n })):=by
 have hr:=lr_at hk H.nodup;have hw:=zjp c hk H.nodup;rcases H.lk.readTells t.id (H.line hk).1 most hm with ⟨h1,h2⟩ | ⟨h1,h2⟩ | ⟨h1,h2,h3⟩ | ⟨h1,n,h2,h3,h4,h5⟩
 ·rw[hw] at h2;exact .inl ⟨h1,h2⟩
 ·rw[hw,hr] at h2;refine .inr (.inl ⟨h1,?_⟩);rcases h2 with ⟨hp2,h2 | ⟨x,h2⟩⟩ | h2
  ·exact .inl h2
  ·rcases hev with hev|hev
   ·rw[hev] at h2;cases h2
   ·omega
  ·exact .inr h2
 ·rw[hw] at h2 h3;exact .inr (.inr (.inl ⟨h1,h2,h3⟩))
 ·rw[hw] at h3 h4 h5;refine .inr (.inr (.inr ⟨h1,n,h2,h3,h4,?_⟩));have hst:(d.find (t.id:Int)).state≠0/\(d.find (t.id:Int)).state≠8:=by
   unfold Ds.read? at h1;constructor
   ·intro e0;rw[if_pos e0] at h1;cases h1
   ·intro e8;rw[if_neg (by rw[e8];omega),if_neg (by omega),e8] at h1;simp[zbx] at h1
  obtain⟨hs,hid⟩:=H.lk.realStr t.id hst.1 hst.2;have hle:n<=(d.find (t.id:Int)).unread.length:=by rw[h2];unfold Ds.readN;omega
  refine⟨?_,⟨zql _ _ _,?_⟩,λs => ?_,λs => ?_⟩
  rotate_left
  ·unfold Ds.read;dsimp only;split
   ·rfl
   ·split<;>rfl
  ·rw[znz c hk H.nodup _ (λx=>(zdz x c _).2.2.2.2),(zdz t c _).2.1,zki (zkh c hk H.nodup)];have e1:=zzbin d n s (by rw[hid];exact hs);rw[e1]
  ·rw[zqm c hk H.nodup _ (λx=>(zdz x c _).2.2.2.2),(zdz t c _).1];by_cases es:s=t.id
   ·rw[es,zfd,zjp c hk H.nodup]
   ·rw[zjo _ _ _ _ es]
  refine H.step hk _ (λx=>(zdz x c _).2.2.2.2) (zdz t c _).2.2.2.1 ?_ (Ds.Ok.read (s:=d.find (t.id:Int)) H.od (by rw[hid];exact hs) n hle) (by omega) ?_ (zql _ _ _)
  ·rw[(zdz t c _).1,(zdz t c _).2.1,(zdz t c _).2.2.1,zvx hk H.nodup,zki (zkh c hk H.nodup)];exact h5
  ·unfold Ds.read;dsimp only;split
   ·rfl
   ·split<;>rfl
theorem TD.carry{R:Nat}(H:TD c d e u v ls p (m+300+L+R) L)(room:Int)(hR:(d.out room).2.length<=R)(n:Int) :
  TD c (d.out room).1 (fed e (u++(d.out room).2) n) ((u++(d.out room).2).drop (min n.toNat (u++(d.out room).2).length)) v ls p m (L+R):=by
 have T:=H.lk.out room;have hul:=H.ul;have ok1:(d.out room).1.Ok m 0 50000010:=H.lk.outOk (H.od.mono (by omega)) room;have hlen:(u++(d.out room).2).length<=L+R:=by rw[List.length_append];omega
 have hin:(d.out room).1.inn=d.inn:=(zni d room).2;generalize u++(d.out room).2=U at T hlen ⊢;have hd:=(T.last).1;by_cases hn:n<=0
 ·unfold fed;rw[if_pos hn];have e0:min n.toNat U.length=0:=by omega
  rw[e0,List.drop_zero];refine⟨by rw[hd];exact T,H.nodup,λt ht=>by rw[hd];exact H.has t ht,ok1,H.oe.mono (by omega),by rw[hin];exact H.di,H.ei,hlen,by have:=H.vl;omega,H.db.of (zux _ _),H.eb⟩
 ·unfold fed;rw[if_neg hn];generalize hj:min n.toNat U.length=j;have T2:LK p c d.mLast e.mLast (d.out room).1 e (U.take j++U.drop j) v (zfy c ls) (wIn c ls) (lr ls) (lh ls):=by rw[List.take_append_drop];exact T
  have T3:=T2.takes;have hl3:=T3.last;have hf:(e.takes (U.take j)).failed=false:=T3.swap.failed;refine⟨by rw[hd,hl3.2.1];exact T3,H.nodup,λt ht=>by rw[hd,hl3.2.1];exact H.has t ht,ok1,?_,by rw[hin];exact H.di,?_,by rw[List.length_drop];omega,by have:=H.vl;omega,H.db.of (zux _ _),?_⟩
  ·have hei:=H.ei;have htl:(U.take j).length<=L+R:=by rw[List.length_take];omega
   have hcb:=H.oe.fits.ctl;exact Ds.Ok.takes _ (H.oe.mono (by omega)) (by omega)
  ·rcases zrr e (U.take j) with q|q
   ·rw[hf] at q;cases q
   ·exact q
  ·have hei:=H.ei;have htl:(U.take j).length<=L+R:=by rw[List.length_take];omega
   have hcb:=H.oe.fits.ctl;exact H.eb.takes (m:=m) (q:=0) (B:=50000010) _ (H.oe.mono (by omega)) (by omega)
theorem TD.outLen(H:TD c d e u v ls p m L)(room:Int):(d.out room).2.length<=9*(10050+p)+881100:=(H.lk.outLen (λn s hs=>H.od.fits.st n s hs) room).1
theorem zrs(room:Int):∀ (l:List (Nat×Nat×Nat×Bytes)) (o:Bytes),(o=[]\/(o.length:Int)<=room)->((Ds.outCtl room l o).2=[]\/((Ds.outCtl room l o).2.length:Int)<=room)
 | [],o,h=>h
 | (k,f,i,b)::l,o,h=>by
  rw[Ds.outCtl];split
  ·exact h
  ·rename_i hc
   refine zrs room l _ (.inr ?_);rw[List.length_append,zax];omega
theorem zzbaw{B:Cs}{CB U0 D:List Fr}{wA wB:Nat->Way}{r:Nat->Bool}{h:Nat->zal}(room:Int)(fuel:Nat):∀ (c:Ds) (A:Cs) (CA Q:List Fr),Sim c A->Sys A B (U0++Q) D CA CB wA wB r h->(encs Q=[]\/((encs Q).length:Int)<=room)->((Ds.outRing room fuel c (encs Q)).2=[]\/((Ds.outRing room fuel c (encs Q)).2.length:Int)<=room):=by
 induction fuel with
 | zero=>exact λc A CA Q k1 k2 h=>h
 | succ m ih =>
  intro c A CA Q k1 k2 h;rw[Ds.outRing];rcases k1.turned k2.mineA (room-(encs Q).length) with ⟨e1,-⟩ | ⟨b,c',A',e1,e2,M⟩
  ·rw[e1];exact h
  ·rw[e1];obtain⟨R,hR,-,S2⟩:=k2.turn _ b A' e2;have hb:(b.length:Int)<=room-(encs Q).length:=by
    have e1':=e1;unfold Ds.turned at e1';cases hk:c.ready with
    | none=>rw[hk] at e1';cases e1'
    | some k =>
     rw[hk] at e1';dsimp only at e1';unfold Ds.ready at hk;obtain⟨hlt,hp,-⟩:=List.findIdx?_eq_some_iff_getElem.1 hk;have hg:c.ring.getD k 0=c.ring[k]:=by rw[List.getD_eq_getElem?_getD,List.getElem?_eq_getElem hlt];rfl
     obtain⟨s,hs,hid,hw,hc,hf0⟩:=zzbat k1 k2 (n:=c.ring.getD k 0) (by rw[hg];exact List.getElem_mem hlt);rw[stOf_some hs] at e1';by_cases h0:(c.turn s (room-(encs Q).length)).1.length=0
     ·rw[if_pos h0] at e1';cases e1'
     ·rw[if_neg h0] at e1';injection e1' with e1'
      injection e1' with e1' _
      rw[<-e1'];have hd0:0<=c.from_:=by rw[k1.sc.fr];omega
      rcases zfj c s (room-(encs Q).length) hf0 hd0 with q|⟨-,q1,q⟩|⟨-,-,q1,q⟩|⟨-,-,n,-,-,-,-,q1,q⟩
      ·rw[q] at h0;exact absurd rfl h0
      ·rw[q];dsimp only;omega
      ·rw[q];dsimp only;rw[zax];simp only[List.length_singleton];omega
      ·rcases q with ⟨-,q⟩|⟨-,-,q⟩
       ·rw[q];unfold zic;dsimp only;rw[zax,List.length_take];omega
       ·rw[q];unfold lastT;dsimp only;rw[zax,List.length_take];omega
   have:=ih c' A' CA (Q++R) M (by rw[<-List.append_assoc];exact S2) (.inr (by rw[zew,hR,List.length_append];omega))
   rw[zew,hR] at this;exact this
theorem TD.outRoom(H:TD c d e u v ls p m L)(room:Int):(d.out room).2.length<=room.toNat:=by
 have hlk:=H.lk;generalize zfy c ls=wA at hlk;generalize wIn c ls=wB at hlk;generalize lr ls=r at hlk;generalize lh ls=h at hlk;obtain⟨A,B,U,D,CA,CB,h1,h2,S,-⟩:=hlk;have key:=znp (λc P => ∃ CA,Sys c B P D CA CB wA wB r h) (λc x rr P ⟨CA,T⟩ hx=>by
  have hc:=T.ab.ctl;rw[hx] at hc;cases CA with
  | nil=>simp at hc
  | cons f CA =>
   rw[List.map_cons] at hc;obtain⟨e1,e2⟩:=List.cons.inj hc;refine⟨f,e1.symm,CA,?_⟩;rw[e2];exact T.control) room A.control A U [] ⟨CA,by rw[List.append_nil];exact S.toSys⟩ rfl
 obtain⟨Q,⟨CA',T⟩,hQ⟩:=key;rw[zsp] at T hQ;rw[h1.sc.ctl,zij] at T hQ;dsimp only at T hQ;have M:Sim { d with ctl:=(Ds.outCtl room d.ctl []).1 } { A with control:=(Ds.outCtl room d.ctl []).1.map λf=>frame f.1 f.2.1 f.2.2.1 f.2.2.2 }:=h1.scal { h1.sc with ctl:=rfl } rfl rfl rfl rfl rfl rfl;have hl:=zrs room d.ctl [] (.inl rfl);have fin:∀ o:Bytes,(o=[]\/(o.length:Int)<=room)->o.length<=room.toNat:=λo ho=>by
  rcases ho with ho|ho
  ·rw[ho];exact Nat.zero_le _
  ·omega
 unfold Ds.out;dsimp only;split
 ·rw[hQ] at hl ⊢;exact fin _ (zzbaw room (room.toNat+1) _ _ CA' Q M T hl)
 ·exact fin _ hl
theorem Ds.Ok.opens(h:d.Ok (m+2) 0 50000010)(hd:zal)(hp:zbi hd=true)(hsd:d.side d.next=some true)(hn:d.next<=99)(hl:d.mLast<=d.next):(d.opened hd).Ok m 0 50000010:=by
 have f:=h.fits;obtain⟨hel,-,-⟩:=zff hd hp;have h1:Ds.Ok { d with mLast:=d.next } (m+2) 0 50000010:=by
  refine⟨{ f with mLast:=by show d.next<=200;omega },h.ids,h.newT,λid hi hl'=>h.newM id hi ?_,h.cm,h.ck,h.rb,h.cb⟩
  have:d.next<id:=hl'
  omega
 have h2:=h1.bump true 1 (by omega) (by omega);obtain⟨e1,e2,e3,e4,e5,-,-⟩:=zjk { d with mLast:=d.next } true 1;have fb:=zeh d.next true (by omega);have fb2:DS.Fits { Ds.begun d.next true with block:=zah hd }:={ fb with block:=hel };have hside:∀ i:Nat,(Ds.bump { d with mLast:=d.next } true 1).side i=d.side i:=λi=>by unfold Ds.side;rw[e2]
 refine Ds.Ok.enter (m:=m) ?_ _;refine⟨h2.fits.setS _ _ fb2,λn s' hn' => ?_,λid hi hl => ?_,λid hi hl => ?_,λi e b hc => ?_,h2.ck,h2.rb,h2.cb⟩
 ·rw[zck] at hn';by_cases e:n=d.next
  ·rw[if_pos e] at hn';injection hn' with hn';subst hn';exact⟨e.symm,by show (1:Nat)≠0;omega,Qt0 _⟩
  ·rw[if_neg e] at hn';exact h2.ids n s' hn'
 ·rw[zck,if_neg (λe=>by
   have:d.side id=some false:=by rw[<-hside];exact hi
   rw[e,hsd] at this;cases this)]
  exact h2.newT id hi hl
 ·rw[zck,if_neg (λe=>by
   have hl':(Ds.bump { d with mLast:=d.next } true 1).mLast<id:=hl;rw[e4] at hl'
   have:d.next<id:=hl'
   omega)]
  exact h2.newM id hi hl
 ·obtain⟨c1,c2,c3,c4,c5⟩:=h2.cm i e b hc;refine⟨?_,c2,c3,c4,c5⟩;rw[zck,if_neg (λe=>by
   have:d.side i=some false:=by rw[<-hside];exact c4
   rw[e,hsd] at this;cases this)]
  exact c1
theorem TD.opened(H:TD c d e u v ls p (m+2) L)(hd:zal)(hp:zbi hd=true)(ho:d.open? hd=0):TD c (d.opened hd) e u v (ls++[{ id:=d.next,h:=hd }]) p m L/\d.next<=99/\1<=d.next/\ownB c d.next=true/\d.str d.next=none/\d.mLast<d.next:=by
 obtain⟨T,t1,t2,t3⟩:=H.lk.opened hd hp ho (λs=>if s=d.next then false else lr ls s) (λs hs=>if_neg hs);have hl:=H.lk.last;have hT:=T.last;have hnot:d.next ∉ ls.map Line.id:=λhx=>by
  obtain⟨t,ht,et⟩:=List.mem_map.1 hx
  have:=(H.has t ht).2.2
  rw[et,t3] at this
  have:d.next<=d.mLast:=by simpa using this
  omega
 have hnone:line? ls d.next=none:=zlt ls d.next hnot;have eA:lwA (ls++[{ id:=d.next,h:=hd }])=lwA ls:=by
  funext s
  unfold lwA;rw[zhv ls { id:=d.next,h:=hd } hnot];by_cases es:s=d.next
  ·rw[if_pos es,es,hnone];rfl
  ·rw[if_neg es]
 have eB:lwB (ls++[{ id:=d.next,h:=hd }])=lwB ls:=by
  funext s
  unfold lwB;rw[zhv ls { id:=d.next,h:=hd } hnot];by_cases es:s=d.next
  ·rw[if_pos es,es,hnone];rfl
  ·rw[if_neg es]
 have er:lr (ls++[{ id:=d.next,h:=hd }])=λs=>if s=d.next then false else lr ls s:=by
  funext s
  unfold lr;rw[zhv ls { id:=d.next,h:=hd } hnot];by_cases es:s=d.next
  ·rw[if_pos es,if_pos es];rfl
  ·rw[if_neg es,if_neg es]
 have eh:lh (ls++[{ id:=d.next,h:=hd }])=λs=>if s=d.next then hd else lh ls s:=by
  funext s
  unfold lh;rw[zhv ls { id:=d.next,h:=hd } hnot];by_cases es:s=d.next
  ·rw[if_pos es,if_pos es];rfl
  ·rw[if_neg es,if_neg es]
 have hsd:d.side (d.next:Int)=some true:=by
  have hpos:0<d.next:=by omega
  unfold Ds.side;rw[if_pos (by omega),hl.2.2.1]
  have:((d.next:Int)%2 == 1)=(d.next%2 == 1):=by rw[Bool.eq_iff_iff];simp only[beq_iff_eq];omega
  rw[this];exact congrArg some t3
 refine⟨⟨?_,?_,λt ht => ?_,Ds.Ok.opens H.od hd hp hsd t2 (by omega),H.oe.mono (by omega),?_,H.ei,H.ul,H.vl,H.db.of (zxl _ _),H.eb⟩,t2,by omega,t3,H.od.newM d.next hsd (by omega),by omega⟩
 ·have eO:zfy c (ls++[{ id:=d.next,h:=hd }])=zfy c ls:=by
   cases c with
   | false=>exact eB
   | true=>exact eA
  have eI:wIn c (ls++[{ id:=d.next,h:=hd }])=wIn c ls:=by
   cases c with
   | false=>exact eA
   | true=>exact eB
  rw[hT.1,eO,eI,er,eh];exact T
 ·rw[List.map_append,List.nodup_append];refine⟨H.nodup,by simp,λa ha b hb e0 => ?_⟩;rw[List.map_cons,List.map_nil,List.mem_singleton] at hb;rw[e0,hb] at ha;exact hnot ha
 ·rcases List.mem_append.1 ht with ht|ht
  ·obtain⟨q1,q2,q3⟩:=H.has t ht;refine⟨q1,q2,?_⟩;rw[hT.1];cases hx:ownB c t.id<;>rw[hx] at q3
   ·simpa using q3
   ·have:t.id<=d.mLast:=by simpa using q3
    simp only[if_true];omega
  ·rw[List.mem_singleton.1 ht];refine⟨by show 1<=d.next;omega,t2,?_⟩
   show d.next<=(if ownB c d.next then _ else _)
   rw[t3,hT.1];exact Nat.le_refl _
 ·rw[(zme d hd).2];exact H.di
theorem zcr.opened(H:TD c d e u v ls p m L)(hd:zal)(hn:ownB c d.next=true)(hlt:d.mLast<d.next)(hs:d.str d.next=none):zcr c d ls (d.opened hd) (ls++[{ id:=d.next,h:=hd }]):=by
 have hnot:d.next ∉ ls.map Line.id:=λhx=>by
  obtain⟨t,ht,et⟩:=List.mem_map.1 hx
  have:=(H.has t ht).2.2
  rw[et,hn] at this
  have:d.next<=d.mLast:=by simpa using this
  omega
 have hnone:line? ls d.next=none:=zlt ls d.next hnot;have hA:∀ s,lwA (ls++[{ id:=d.next,h:=hd }]) s=lwA ls s:=λs=>by
  unfold lwA;rw[zhv ls { id:=d.next,h:=hd } hnot];by_cases es:s=d.next
  ·rw[if_pos es,es,hnone];rfl
  ·rw[if_neg es]
 have hB:∀ s,lwB (ls++[{ id:=d.next,h:=hd }]) s=lwB ls s:=λs=>by
  unfold lwB;rw[zhv ls { id:=d.next,h:=hd } hnot];by_cases es:s=d.next
  ·rw[if_pos es,es,hnone];rfl
  ·rw[if_neg es]
 refine⟨⟨zxl _ _,(zme d hd).2⟩,λs => ?_,λs => ?_⟩
 ·have e1:((d.opened hd).stOf s).data=(d.stOf s).data:=by
   unfold Ds.opened;dsimp only;rw[zjf,zcn];split
   ·rename_i es;rw[es];unfold Ds.stOf;rw[hs];rfl
   ·have:(Ds.bump { d with mLast:=d.next } true 1).stOf s=d.stOf s:=rfl
    rw[this]
  rw[e1];cases c
  ·show (lwB _ s).sent.length+_=(lwB ls s).sent.length+_;rw[hB]
  ·show (lwA _ s).sent.length+_=(lwA ls s).sent.length+_;rw[hA]
 ·cases c
  ·show (lwA _ s).sent=_;rw[hA];rfl
  ·show (lwB _ s).sent=_;rw[hB];rfl
def brk(ev:List (Nat×Nat×Nat))(id:Nat):Bool:=ev.any λx=>x.1 == 3 && x.2.1 == id
def marks(ev:List (Nat×Nat×Nat))(t:Line):Line:={ t with reset:=t.reset || brk ev t.id }
theorem zoa(ls:List Line)(f:Line->Line)(hf:∀ t,(f t).id=t.id)(s:Nat):line? (ls.map f) s=(line? ls s).map f:=by
 unfold line?
 induction ls with
 | nil=>rfl
 | cons t ls ih =>
  rw[List.map_cons,List.find?_cons,List.find?_cons,hf];cases (t.id == s)
  ·exact ih
  ·rfl
theorem TD.asked(H:TD c d e u v ls p m L):TD c d.asked e u v (ls.map (marks d.ev)) p m L /\ ∀ x∈d.ev,x.1≠6/\(x.1=1->d.headers? (x.2.1:Int)=some (lh ls x.2.1)):=by
 have hid:∀ t:Line,(marks d.ev t).id=t.id:=λ_=>rfl;have hrl:∀ s,lr (ls.map (marks d.ev)) s=(lr ls s || brk d.ev s):=λs=>by
  unfold lr;rw[zoa _ _ hid];cases hx:line? ls s with
  | none=>rfl
  | some t =>
   have:t.id=s:=by
    have:=List.find?_some hx
    simpa using this
   show (t.reset || brk d.ev t.id)=_
   rw[this];rfl
 obtain⟨T,hev⟩:=H.lk.asked (lr (ls.map (marks d.ev))) (λs hs=>by rw[hrl,hs];rfl) (λs x hx=>by
  rw[hrl]
  have:brk d.ev s=true:=by unfold brk;rw[List.any_eq_true];exact⟨_,hx,by simp⟩
  rw[this,Bool.or_true])
 refine⟨⟨?_,?_,λt ht => ?_,H.od.asked,H.oe,H.di,H.ei,H.ul,H.vl,(λx hx=>by cases hx),H.eb⟩,hev⟩
 ·have eA:lwA (ls.map (marks d.ev))=lwA ls:=by
   funext s
   unfold lwA;rw[zoa _ _ hid];cases line? ls s<;>rfl
  have eB:lwB (ls.map (marks d.ev))=lwB ls:=by
   funext s
   unfold lwB;rw[zoa _ _ hid];cases line? ls s<;>rfl
  have eh:lh (ls.map (marks d.ev))=lh ls:=by
   funext s
   unfold lh;rw[zoa _ _ hid];cases line? ls s<;>rfl
  have eO:zfy c (ls.map (marks d.ev))=zfy c ls:=by
   cases c with
   | false=>exact eB
   | true=>exact eA
  have eI:wIn c (ls.map (marks d.ev))=wIn c ls:=by
   cases c with
   | false=>exact eA
   | true=>exact eB
  rw[eO,eI,eh];exact T
 ·rw[List.map_map];exact H.nodup
 ·obtain⟨t0,h0,rfl⟩:=List.mem_map.1 ht;exact H.has t0 h0
end
def SentAt(own:LN->Res)(k:Nat)(v:Value)(b:Bytes):Prop :=
 own (.e k) = .row 5 1 v b.length (zab b)\/(b=word /\ ∃ gs,v = .slice (some ⟨gs,0,none⟩) 4 4/\own (.e k) = .obj gs (.cells #[.int .u8 119,.int .u8 111,.int .u8 114,.int .u8 100] 5 (4,5)))
def zik(t:Line)(vc vs vh:Value):List Value:=zdb t.id (t.id%2 == 1) vc t.client.read t.client.ended vs t.server.read t.server.ended t.reset vh
def zqa(own:LN->Res)(xs:List Value)(k:Nat)(t:Line):Prop :=
 ∃ vc vs vh,(∀ j,j<10->xs[10*k+j]? = (zik t vc vs vh)[j]?)/\SentAt own (3*k+1) vc t.client.sent/\SentAt own (3*k+2) vs t.server.sent/\own (.e (3*k)) = .row 122 2 vh t.h.length (zap t.h)
structure LS (own:LN->Res) (ls:List Line) (xs:List Value):Prop where
 len:xs.length=10*ls.length
 at_:∀ k t,ls[k]? = some t->zqa own xs k t
 free:∀ k,3*ls.length<=k->k<1000->own (.e k) = .none
theorem SentAt.alike{own own':LN->Res}{k:Nat}{v:Value}{b:Bytes}(h:SentAt own k v b)(e:own' (.e k)=own (.e k)):SentAt own' k v b:=by unfold SentAt at h ⊢;rw[e];exact h
theorem zqa.alike{own own':LN->Res}{xs xs':List Value}{k:Nat}{t:Line}(h:zqa own xs k t)(e:∀ i,i=3*k\/i=3*k+1\/i=3*k+2->own' (.e i)=own (.e i))(ex:∀ j,j<10->xs'[10*k+j]? = xs[10*k+j]?):zqa own' xs' k t:=by obtain⟨vc,vs,vh,h1,h2,h3,h4⟩:=h;exact⟨vc,vs,vh,λj hj=>(ex j hj).trans (h1 j hj),h2.alike (e _ (.inr (.inl rfl))),h3.alike (e _ (.inr (.inr rfl))),(e _ (.inl rfl)).trans h4⟩
theorem LS.alike{own own':LN->Res}{ls:List Line}{xs:List Value}(h:LS own ls xs)(e:∀ i,own' (.e i)=own (.e i)):LS own' ls xs :=
 ⟨h.len,λk t hk=>(h.at_ k t hk).alike (λi _=>e i) (λ_ _=>rfl),λk hk h0=>(e k).trans (h.free k hk h0)⟩
theorem LS.mod{own own':LN->Res}{ls:List Line}{xs xs':List Value}(h:LS own ls xs){k:Nat}{t:Line}(hk:ls[k]? = some t)(f:Line->Line)(hl:xs'.length=xs.length)(hx:∀ j,(j<10*k\/10*k+10<=j)->xs'[j]? = xs[j]?)(ho:∀ i,(i<3*k\/3*k+3<=i)->own' (.e i)=own (.e i))(ht:zqa own' xs' k (f t)):LS own' (ls.modify k f) xs':=by
 have hkl:k<ls.length:=(List.getElem?_eq_some_iff.1 hk).1;refine⟨by rw[hl,List.length_modify];exact h.len,λi s hs => ?_,λi hi h0 => ?_⟩
 ·rw[List.getElem?_modify] at hs;by_cases e:k=i
  ·subst e;rw[hk] at hs;simp only[if_true,Option.map_eq_map,Option.map_some,Option.some.injEq] at hs;rw[<-hs];exact ht
  ·simp only[if_neg e,Option.map_eq_map,Option.map_id'] at hs;exact(h.at_ i s hs).alike (λj hj=>ho j (by omega)) (λj hj=>hx _ (by omega))
 ·rw[List.length_modify] at hi;rw[ho i (by omega)];exact h.free i hi h0
theorem LS.add{own own':LN->Res}{ls:List Line}{xs:List Value}(h:LS own ls xs)(t:Line)(vc vs vh:Value)(ho:∀ i,i<3*ls.length->own' (.e i)=own (.e i))(hf:∀ i,3*ls.length+3<=i->own' (.e i)=own (.e i))(h1:SentAt own' (3*ls.length+1) vc t.client.sent)(h2:SentAt own' (3*ls.length+2) vs t.server.sent)(h3:own' (.e (3*ls.length)) = .row 122 2 vh t.h.length (zap t.h)):LS own' (ls++[t]) (xs++zik t vc vs vh):=by
 have hlen:=h.len;refine⟨by rw[List.length_append,List.length_append,hlen];simp[zik,zdb];omega,λk s hs => ?_,λk hk h0 => ?_⟩
 ·by_cases e:k<ls.length
  ·rw[List.getElem?_append_left e] at hs;exact(h.at_ k s hs).alike (λj hj=>ho j (by omega)) (λj hj=>List.getElem?_append_left (by omega))
  ·have hk:k=ls.length:=by
    have:=(List.getElem?_eq_some_iff.1 hs).1
    rw[List.length_append,List.length_singleton] at this;omega
   rw[hk,List.getElem?_append_right (Nat.le_refl _),Nat.sub_self] at hs;simp only[List.getElem?_cons_zero,Option.some.injEq] at hs;rw[<-hs,hk];refine⟨vc,vs,vh,λj hj => ?_,h1,h2,h3⟩;rw[List.getElem?_append_right (by omega)];congr 1;omega
 ·rw[List.length_append,List.length_singleton] at hk;rw[hf k (by omega)];exact h.free k (by omega) h0
theorem SentAt.isBytes{own:LN->Res}{wb w:World}{k:Nat}{v:Value}{b:Bytes}(h:SentAt own k v b)(hs:Sep wb w own):zae w v b:=by
 rcases h with h|⟨rfl,gs,rfl,h⟩
 ·exact OwnAt.isBytes (hs.get h)
 ·refine⟨_,4,rfl,Nat.le_refl _,by simp[maxLen],.inr ⟨gs,0,rfl,λi hi => ?_⟩⟩;have hg:w.heap[gs]? = some (.cells #[.int .u8 119,.int .u8 111,.int .u8 114,.int .u8 100] 5 (4,5)):=by
   have:=hs.ok (.e k)
   rw[h] at this;exact this
  have hi4:i<4:=hi;have hc:∀ j,w.cell? ⟨gs,j,none⟩=(#[.int .u8 119,.int .u8 111,.int .u8 114,.int .u8 100]:Array Value)[j]?:=λj=>by simp[World.cell?,hg]
  match i,hi4 with
  | 0,_=>exact hc 0
  | 1,_=>exact hc 1
  | 2,_=>exact hc 2
  | 3,_=>exact hc 3
theorem SentAt.slice{own:LN->Res}{wb w:World}{k:Nat}{v:Value}{b:Bytes}(h:SentAt own k v b)(hs:Sep wb w own):∃ a cap,v = .slice a b.length cap:=by obtain⟨a,cap,e,-⟩:=h.isBytes hs;exact⟨a,cap,e⟩
theorem zla{P:Program}{ops:Array Oper}{o:Oper}{a:Act}{w wb:World}{K:Act->World->Prop}{Q:Exit->Act->World->Prop}{E:Prop}{own:LN->Res}(hS:Sep wb w own)
  (hg:o.guard=none) (s x:Operand) (t tx:TypeId) (hop:o.op=Op.call { callee:=Callee.builtin Builtin.append,args:=#[s,x],argTypes:=#[t,tx] })
  (i:TypeInfo) (ht:P.underlying t=some (.slice 5)) (hi:P.info? 5=some i) (hz:i.zero=some (.int .u8 0)) (hsize:i.size=1) (hby:i.bytes=1)
  (k:Nat) (v:Value) (b:Bytes) (hs:a.eval s=v) (hk:SentAt own k v b)
  (y:Value) (nb:Bytes) (hx:a.eval x=y) (hsrc:Src P 1 tx y nb.length (zab nb) w) (h63:b.length+nb.length<=1000000)
  (hK:∀ v' w' own',Sep wb w' own'->SentAt own' k v' (b++nb)->(∀ n,n ≠ .e k->own' n=own n)->K (a.put o.dst v') w') :
  if Region.wanted o (yielded ops a.tmps)=true then Oper.wp P o a w K Q else E:=by
 have key:∃ v' w' own',(Builtin.append_ #[t,tx] o.type #[v,y]).run P w = .ok v' w'/\Sep wb w' own'/\SentAt own' k v' (b++nb) /\ ∀ n,n ≠ .e k->own' n=own n:=by
  rcases hk with h|⟨rfl,gs,rfl,h⟩
  ·obtain⟨v',w',hr,h2,h3⟩:=zjq (P:=P) w t tx o.type 5 i (.int .u8 0) 1 1 ht hi hz hsize hby rfl v b.length (zab b) (hS.get h) y nb.length (zab nb) hsrc (by unfold maxLen;omega) (by omega);have e1:b.length+nb.length=(b++nb).length:=List.length_append.symm;have h2':=zbv h2 e1 (zbe b nb).symm;exact⟨v',w',_,hr,hS.grew h h3 h2',.inl (zag _ _ _),λn hn=>zac _ _ hn⟩
  ·have hgs:w.heap[gs]? = some (.cells #[.int .u8 119,.int .u8 111,.int .u8 114,.int .u8 100] 5 (4,5)):=by
    have:=hS.ok (.e k)
    rw[h] at this;exact this
   by_cases hm:nb.length=0
   ·have hn:nb=[]:=List.eq_nil_of_length_eq_zero hm;subst hn;refine⟨.slice (some ⟨gs,0,none⟩) 4 4,w,own,?_,hS,?_,λ_ _=>rfl⟩
    ·have hc:=hsrc.cells;have hl:=hsrc.len;simp only[List.length_nil] at hc hl;rcases hsrc.kind with ⟨e',hk⟩ | hk<;>simp[Builtin.append_,run_underlying ht,run_underlying hk,sizeOf,typeInfo,hi,hsize,hl,hc,zab,storeCells]
    ·rw[List.append_nil];exact .inr ⟨rfl,gs,rfl,h⟩
   ·have hw4:word.length=4:=rfl;have holds:∀ j u,(zab word)[j]? = some u->w.drew.cell? ((⟨gs,0,none⟩:Addr).add j)=some u:=λj u hj=>by
     have hcell:∀ j,w.cell? ⟨gs,j,none⟩=(#[.int .u8 119,.int .u8 111,.int .u8 114,.int .u8 100]:Array Value)[j]?:=λj=>by simp[World.cell?,hgs]
     have e:(⟨gs,0,none⟩:Addr).add j=⟨gs,j,none⟩:=by rw[zea];simp
     rw[e]
     show w.cell? _=_
     rw[hcell];have e2:zab word=[.int .u8 119,.int .u8 111,.int .u8 114,.int .u8 100]:=rfl;rw[e2] at hj;rw[<-hj];simp
    have hr:=run_append_grow_src (P:=P) w t tx o.type 5 i (.int .u8 0) ht hi hz (some ⟨gs,0,none⟩) 4 4 (zab word) (run_firstCells_some w.drew i.size 4 ⟨gs,0,none⟩ 4 4 (zab word) (by rw[hsize];rfl) holds) y nb.length (zab nb) (by rw[hsize];exact hsrc) (by omega) (by omega) (growslice_fits (by omega) (by rw[hby];omega));have hge:=grownCap_ge w (4+nb.length) 4 5;have hcm:grownCap w (4+nb.length) 4 5<=maxLen:=grownCap_le_maxLen w (4+nb.length) 4 5 (by unfold maxLen;omega);have hlen:(zab word++zab nb).length=4+nb.length:=by simp[zab,hw4]
    have hO:OwnAt (w.drew.alloc (.cells ((zab word++zab nb).toArray++Builtin.zeroCells (Value.int .u8 0).cells (grownCap w (4+nb.length) 4 5-(4+nb.length))) 5)) 5 1 (.slice (some ⟨w.heap.size,0,none⟩) (4+nb.length) (grownCap w (4+nb.length) 4 5)) (4+nb.length) (zab word++zab nb):=by
     refine⟨by rw[hlen,Nat.mul_one],.inr ⟨w.heap.size,0,_,_,rfl,heap_alloc_new w.drew _,hge,hcm,?_,?_⟩⟩
     ·simp only[Array.size_append,List.size_toArray,size_zeroCells,hlen]
      have:(Value.int IntKind.u8 0).cells.size=1:=rfl
      rw[this];omega
     ·simp only[Array.toList_append,List.drop_zero,Nat.mul_one];rw[<-hlen];exact List.take_left
    have e1:4+nb.length=(word++nb).length:=by rw[List.length_append,hw4]
    have hO':=zbv hO e1 (zbe word nb).symm;have hE:Ext w (w.drew.alloc (.cells ((zab word++zab nb).toArray++Builtin.zeroCells (Value.int .u8 0).cells (grownCap w (4+nb.length) 4 5-(4+nb.length))) 5)):=(Ext.refl w).drew.alloc _;refine⟨_,_,_,hr,(hS.drop (.e k)).add (.e k) hE hO' (λb hb => ?_),.inl (zag _ _ _),λn hn=>(zac _ _ hn).trans (zac _ _ hn)⟩;simp only[Value.ownBlock,Option.some.injEq] at hb;omega
 obtain⟨v',w',own',hr,h1,h2,h3⟩:=key;have hw:Region.wanted o (yielded ops a.tmps)=true:=by simp[Region.wanted,hg]
 rw[if_pos hw];unfold Oper.wp;simp[execOp,hop,resolve,invoke,builtin,hs,hx,hr,Result.andThen];exact hK v' w' own' h1 h2 h3
def wo(c:Bool):Nat:=if c then 2 else 5
def wi(c:Bool):Nat:=if c then 5 else 2
section
variable {own:LN->Res} {gl gx gy:Nat} {dx dy:Ds} {vu vd vl:Value} {up down:Bytes} {nl:Nat} {xs:List Value} {lv:Bool} {wb w:World}
set_option maxHeartbeats 1600000 in
theorem zdl(c:Bool)(w:World)(c0:w.cell? ⟨gl,0,none⟩=some (.pointer (some ⟨gx,0,none⟩)))(c1:w.cell? ⟨gl,1,none⟩=some (.pointer (some ⟨gy,0,none⟩))) :
  Calls Tryz.prog 16 #[.pointer (some ⟨gl,0,none⟩),.bool c] w λe w'=>e = .returned (.pointer (some ⟨if c then gx else gy,0,none⟩))/\w'=w:=by
 cases c
 ·go_enter Tryz.func16,Tryz.ntmps16
  go_wp2
  go_ret
  exact⟨rfl,rfl⟩
 ·go_enter Tryz.func16,Tryz.ntmps16
  go_wp2
  go_ret
  exact⟨rfl,rfl⟩
set_option maxHeartbeats 1600000 in
theorem zfn(a o:Nat)(c:Bool)(w:World) :
  Calls Tryz.prog 15 #[.pointer (some ⟨a,o,none⟩),.bool c] w λe w'=>e = .returned (.tuple #[.pointer (some ⟨a,o+wo c,none⟩),.pointer (some ⟨a,o+wi c,none⟩)])/\Ext w w':=by
 cases c
 ·go_enter Tryz.func15,Tryz.ntmps15
  go_wp2
  go_quiet (fail)
  all_goals
   go_wp2
   go_ret2
   exact⟨rfl,zay w _⟩
 ·go_enter Tryz.func15,Tryz.ntmps15
  go_wp2
  go_quiet (fail)
  all_goals
   go_wp2
   go_ret2
   exact⟨rfl,zay w _⟩
end
theorem TD.newStr{c:Bool}{d e:Ds}{u v:Bytes}{ls:List Line}{p m L:Nat}(H:TD c d e u v ls p m L):d.str d.next=none/\ls.length<=99:=by
 have hlk:=H.lk;have hl:=hlk.last;constructor
 ·generalize zfy c ls=wA at hlk;generalize wIn c ls=wB at hlk;generalize lr ls=r at hlk;generalize lh ls=h at hlk;obtain⟨A,B,U,D,CA,CB,h1,h2,S,-⟩:=hlk;obtain⟨n1,n2,n3⟩:=zjy S.ab;have hn:=h1.next;have hml:=h1.sc.mL;have hcl:=h1.sc.cl;refine H.od.newM d.next ?_ (by omega);unfold Ds.side;rw[if_pos (by omega),hcl];have e:((d.next:Int)%2 == 1)=(d.next%2 == 1):=by
   rw[Bool.eq_iff_iff];simp only[beq_iff_eq];omega
  rw[e,hn];exact congrArg some n2
 ·have h1:=zny _ H.nodup 100 (λx hx=>by
   obtain⟨t,ht,rfl⟩:=List.mem_map.1 hx
   have:=H.has t ht
   omega)
  rw[List.length_map] at h1;have h2:0 ∉ ls.map Line.id:=λhx=>by
   obtain⟨t,ht,e⟩:=List.mem_map.1 hx
   have:=H.has t ht
   omega
  have h3:=zny (0::ls.map Line.id) (List.nodup_cons.2 ⟨h2,H.nodup⟩) 100 (λx hx=>by
   rcases List.mem_cons.1 hx with rfl|hx
   ·omega
   ·obtain⟨t,ht,rfl⟩:=List.mem_map.1 hx
    have:=H.has t ht
    omega)
  rw[List.length_cons,List.length_map] at h3;omega
end Go.Proofs.YtoijpogadkogcaaGreat
