import Derived.Test.YtoijpogadkogcaaGreatQv
import Derived.Test.YtoijpogadkogcaaGreatQw
namespace Go.Proofs.YtoijpogadkogcaaGreat
open Go.RowKit
set_option maxRecDepth 100000
theorem zff(m:zal)(h:zbi m=true):(zah m).length<=1000/\zah m≠[]/\m.length<=8:=by simp only[zbi,ziv,Bool.and_eq_true,decide_eq_true_eq,List.all_eq_true] at h;obtain⟨⟨h1,h2⟩,h3⟩:=h;obtain⟨a1,a2⟩:=zlf m h3;refine⟨by omega,λe => ?_,by omega⟩;rw[e] at a2;have a3:m.length<=0:=a2;omega
theorem znj(m:zal)(h:zbi m=true):∀ p∈m,p.1.length<=maxLen/\p.2.length<=maxLen:=by
 simp only[zbi,ziv,Bool.and_eq_true,decide_eq_true_eq,List.all_eq_true] at h;intro p hp
 have:=zhx p (h.2 p hp)
 unfold maxLen;omega
section
variable {N:Type} {own:N->Res} {nm:DN->N} {g:Nat} {d:Ds} {v:DV} {wb w:World}
theorem zaa.setB{own1:Option N->Res}(h:zaa own1 (λx=>some (nm x)) g d v)(hs:Sep wb w own1){s:DS}(hn:d.str s.id=some s)(b:Bytes)(hne:b≠[])(vb:Value)(h0:own1 none = .row 5 1 vb b.length (zab b)) :
  ∃ own',Sep wb (w.setCell ⟨v.ptr s.id,6,none⟩ vb) own'/\zaa own' nm g (d.setS s.id { s with block:=b }) { v with sv:=λk=>if k=s.id then { v.sv s.id with vB:=vb } else v.sv k }/\zai nm (λn=>own1 (some n)) own':=by
 have hu:=h.unlift (nm:=nm);have s1:=hs.sink (nm (.block s.id));rw[h0] at s1;have c1:upd (λn=>own1 (some n)) (nm (.block s.id)) (.row 5 1 vb b.length (zab b)) (nm (.st s.id)) = .obj (v.ptr s.id) (.cells (zba g s (v.sv s.id)) 94 (0,0)):=by rw[zad hu.inj,if_neg (by simp)];exact hu.st hn
 have s2:=s1.setObj c1 6 vb;have ehdr:=hu.hdr hn;have edata:=hu.data hn;have eunread:=hu.unread hn;refine⟨_,s2,?_,((zai.refl nm _).upd _ _).upd _ _⟩;refine hu.modS hn { s with block:=b } { v.sv s.id with vB:=vb } _ ?_ ?_ ?_ ?_ ?_ ?_ rfl rfl rfl (λe=>absurd e hne) (λe=>hu.nilH _ _ hn e)
 ·rw[zag];rfl
 ·rw[zad hu.inj,if_neg (by simp),zad hu.inj,if_neg (by simp)];exact ehdr
 ·rw[zad hu.inj,if_neg (by simp),zad hu.inj,if_pos rfl]
 ·rw[zad hu.inj,if_neg (by simp),zad hu.inj,if_neg (by simp)];exact edata
 ·rw[zad hu.inj,if_neg (by simp),zad hu.inj,if_neg (by simp)];exact eunread
 ·intro y h0' _ h1' _ _;rw[zad hu.inj,if_neg h0',zad hu.inj,if_neg h1']
theorem zzbdr(d:Ds):(if d.mLast=0 then d.fm else (d.mLast:Int)+2)=(d.next:Int):=by
 unfold Ds.next Ds.fm;by_cases e:d.mLast=0
 ·rw[if_pos e,if_pos e];split<;>rfl
 ·rw[if_neg e,if_neg e];omega
theorem zya(d:Ds)(n:Nat):(d.enter n).failed=d.failed:=by unfold Ds.enter;split<;>rfl
def ROpen{N:Type}(nm:DN->N)(g:Nat)(wb:World)(own:N->Res)(d:Ds)(v:DV)(hd:zal)(e:Ending)(w':World):Prop :=
 (d.open? hd=0/\e = .returned (.tuple #[.int .i64 (d.next:Int),.int .i64 0])/\zaf nm g wb own d v w' (d.opened hd)) \/
 (d.open? hd≠0/\e = .returned (.tuple #[.int .i64 0,.int .i64 (d.open? hd:Int)])/\zaf nm g wb own d v w' d)
theorem zzbhi(d:Ds)(hd:zal):d.opened hd=((({ d with mLast:=d.next }:Ds).keep true d.next).setS d.next { Ds.begun d.next true with block:=zah hd }).enter d.next:=by unfold Ds.opened Ds.keep;dsimp only;rw[zjj]
set_option maxHeartbeats 6400000 in
theorem zzbfc(h:zaa own nm g d v)(hs:Sep wb w own)(hf:d.Fits 3)(hnew:d.str d.next=none)(vh:Value)(hd:zal)(hp:zbq w vh hd)(hsz:∀ p∈hd,p.1.length<=maxLen/\p.2.length<=maxLen) :
  Calls Tryz.prog 29 #[.pointer (some ⟨g,0,none⟩),vh] w (ROpen nm g wb own d v hd):=by
 have kp:=zzbjf vh hd w hp hsz;obtain⟨ah,ch,hvh,-,-,-⟩:=hp;subst hvh;have hml:=hf.mLast
 go_enter Tryz.func29,Tryz.ntmps29
 go_wp2_with fail
 refine kp.mono ?_;rintro e w1 ⟨he1,⟨hpk,vp,rfl,how⟩ | ⟨hpk,rfl⟩⟩
 ·have S1:=hs.ext he1;have kn:=zti g 0 d.fm d.mLast w1 (h.c0 S1) (h.c1 S1) (by omega);rw[zzbdr] at kn;have hOp:=OwnAt.ofOwns how;have hfr:∀ b,vp.ownBlock=some b->w.heap.size<=b:=λb hb=>by
   rcases how.2 with ⟨e,_⟩|⟨g',cap,cur,e,hle,_⟩
   ·rw[e] at hb;simp[Value.ownBlock] at hb
   ·rw[e] at hb;simp only[Value.ownBlock,Option.some.injEq] at hb;omega
  have SL:=hs.liftRow he1 hOp hfr;have HL:=h.lift (.row 5 1 vp (zah hd).length (zab (zah hd)));obtain⟨ap,cp,hvp,-,-⟩:=hOp.slice;obtain⟨hel,hne,-⟩:=zff hd hpk;have HPK:=hide hpk;have g20:=h.c20 S1;have g19:=h.c19 S1;have g18:=h.c18 S1;have hnx:d.next<=202:=by unfold Ds.next;split<;>(try split)<;>omega
  clear how hfr hOp hpk;subst hvp;have HLE:=hide (h.left S1);by_cases hgone:d.failed=true\/d.peerLeaves=true\/d.leaving=true
  ·have HO:Hid (d.open? hd=5):=by
    show _=_
    unfold Ds.open?;rw[if_neg (by rw[HPK.out];simp),if_pos (by rcases hgone with e | e | e<;>simp[e])]
   have fin:ROpen nm g wb own d v hd (.returned (.tuple #[.int .i64 0,.int .i64 5])) w1:=.inr ⟨by rw[HO.out];omega,by rw[HO.out];rfl,HLE.out⟩;have HFIN:=hide fin;clear fin;cases e1:d.failed with
   | true =>
    rw[e1] at g20;clear hgone e1
    go_wp2_with fail
    refine kn.mono ?_;rintro e w2 ⟨rfl,hw⟩;replace hw:=hw.symm;subst hw
    go_wp2
    go_ret2
    exact HFIN.out
   | false =>
    rw[e1] at g20;cases e2:d.peerLeaves with
    | true =>
     rw[e2] at g19;clear hgone e1 e2
     go_wp2_with fail
     refine kn.mono ?_;rintro e w2 ⟨rfl,hw⟩;replace hw:=hw.symm;subst hw
     go_wp2
     go_ret2
     exact HFIN.out
    | false =>
     rw[e2] at g19;have e3:d.leaving=true:=by
      rcases hgone with e|e|e
      ·rw[e1] at e;cases e
      ·rw[e2] at e;cases e
      ·exact e
     rw[e3] at g18;clear hgone e1 e2 e3
     go_wp2_with fail
     refine kn.mono ?_;rintro e w2 ⟨rfl,hw⟩;replace hw:=hw.symm;subst hw
     go_wp2
     go_ret2
     exact HFIN.out
  ·have e1:d.failed=false:=by cases e:d.failed;rfl;exact absurd (.inl e) hgone
   have e2:d.peerLeaves=false:=by cases e:d.peerLeaves;rfl;exact absurd (.inr (.inl e)) hgone
   have e3:d.leaving=false:=by cases e:d.leaving;rfl;exact absurd (.inr (.inr e)) hgone
   rw[e1] at g20;rw[e2] at g19;rw[e3] at g18;have hgb:(d.failed || d.peerLeaves || d.leaving)=false:=by rw[e1,e2,e3];rfl
   have kf:=ztj g 0 d.mCount d.mMost w1 (h.c3 S1) (h.c2 S1);have HLX:=hide (λ(u:World) (hu:Ext w1 u)=>h.left (S1.ext hu));clear HLE hgone e1 e2 e3;by_cases hmany:(d.mMost:Int)<=d.mCount\/99<d.next
   ·have HO:Hid (d.open? hd=4):=by
     show _=_
     unfold Ds.open?;rw[if_neg (by rw[HPK.out];simp),if_neg (by rw[hgb];simp),if_pos hmany]
    by_cases hm:(d.mMost:Int)<=d.mCount
    ·have hm':decide ((d.mMost:Int)<=d.mCount)=true:=by simp[hm]
     rw[hm'] at kf;clear hm hm' hmany hgb
     go_wp2_with fail
     refine kn.mono ?_;rintro e w2 ⟨rfl,hw⟩;replace hw:=hw.symm;subst hw
     go_wp2_with fail
     refine kf.mono ?_;rintro e w3 ⟨rfl,he3⟩
     go_wp2
     go_ret2
     exact .inr ⟨by rw[HO.out];omega,by rw[HO.out];rfl,HLX.out w3 he3⟩
    ·have hm':decide ((d.mMost:Int)<=d.mCount)=false:=by simp;omega
     have h99:(99:Int)<(d.next:Int):=by omega
     rw[hm'] at kf;clear hm hm' hmany hgb
     go_wp2_with fail
     refine kn.mono ?_;rintro e w2 ⟨rfl,hw⟩;replace hw:=hw.symm;subst hw
     go_wp2_with fail
     refine kf.mono ?_;rintro e w3 ⟨rfl,he3⟩
     go_wp2
     go_ret2
     exact .inr ⟨by rw[HO.out];omega,by rw[HO.out];rfl,HLX.out w3 he3⟩
   ·have HO:Hid (d.open? hd=0):=by
     show _=_
     unfold Ds.open?;rw[if_neg (by rw[HPK.out];simp),if_neg (by rw[hgb];simp),if_neg hmany]
    have hm':decide ((d.mMost:Int)<=d.mCount)=false:=by simp;omega
    have h99:¬ (99:Int)<(d.next:Int):=by omega
    have h99n:d.next<=99:=by omega
    rw[hm'] at kf;have F1:Ds.Fits { d with mLast:=d.next } 3:=⟨by show d.next<=200;omega,hf.tLast,hf.mMost,hf.tMost,hf.mCount0,hf.mCount1,hf.tCount0,hf.tCount1,hf.from0,hf.from1,hf.to0,hf.to1,hf.ctl,hf.ring,hf.ev,hf.inn,hf.pings,hf.coming,hf.bodies,hf.st⟩;have F2:=F1.keep true d.next (by omega);have fb:=zeh d.next true (by omega);have fbb:DS.Fits { Ds.begun d.next true with block:=zah hd }:=⟨fb.id,fb.state,fb.from0,fb.from1,fb.to0,fb.to1,fb.headers,hel,fb.data,fb.code⟩;have F3:=F2.setS d.next _ fbb;have HF3:=hide F3;have HNE:=hide hne;clear hmany hgb hm' F2 F3 fb fbb hne
    go_wp2_with fail
    refine kn.mono ?_;rintro e w2 ⟨rfl,hw⟩;replace hw:=hw.symm;subst hw
    go_wp2_with fail
    refine kf.mono ?_;rintro e w3 ⟨rfl,he3⟩;have SA:=SL.ext he3;have gA1:=HL.c1 SA;have tA1:=HL.thaw SA 1;have SB:=SA.setObj HL.conn 1 (.int .i64 (d.next:Int));rw[show (zbc d v).setIfInBounds 1 (.int .i64 (d.next:Int))=zbc { d with mLast:=d.next } v from rfl] at SB;have HB:=zaa.scal (d':={ d with mLast:=d.next }) HL rfl rfl rfl rfl rfl;have EB:=(zai.refl (λx=>some (nm x)) (lift own (.row 5 1 (.slice ap (zah hd).length cp) (zah hd).length (zab (zah hd))))).upd .conn (.obj g (.cells (zbc { d with mLast:=d.next } v) 105 (0,0)));obtain⟨WB,hWB⟩:∃ WB,w3.setCell ⟨g,1,none⟩ (.int .i64 (d.next:Int))=WB:=⟨_,rfl⟩;rw[hWB] at SB;have kk:=zzbjk HB SB (F1.mono (by omega)) hnew (by omega);clear SA SB HB F1
    go_wp2_with fail
    refine kk.mono ?_;rintro e w4 ⟨p,rfl,own4,v4,S4,H4,E4,r4,i4,p4,hp4⟩;have n0:own4 none = .row 5 1 (.slice ap (zah hd).length cp) (zah hd).length (zab (zah hd)):=((E4 none (λx e=>by cases e)).trans (EB none (λx e=>by cases e))).trans rfl;obtain⟨own5,S5,H5,E5⟩:=H4.setB S4 (s:=Ds.begun d.next true) (zgb _ true d.next) (zah hd) HNE.out _ n0;rw[show v4.ptr (Ds.begun d.next true).id=p from hp4] at S5;have t6:=H4.sthaw S4 (zgb _ true d.next) 6;have f6:=H4.s6 S4 (zgb _ true d.next);rw[hp4] at t6 f6;obtain⟨W5,hW5⟩:∃ W5,w4.setCell ⟨p,6,none⟩ (.slice ap (zah hd).length cp)=W5:=⟨_,rfl⟩;rw[hW5] at S5;have n5:=zdt (({ d with mLast:=d.next }:Ds).keep true d.next) d.next { Ds.begun d.next true with block:=zah hd };have ke:=zfu H5 S5 (HF3.out.mono (by omega)) (n:=d.next) n5;dsimp only at ke;rw[hp4] at ke;have E15:zai nm own own5:=λn hn=>((E5 n hn).trans ((E4 (some n) (λx e=>hn x (by injection e))).trans (EB (some n) (λx e=>hn x (by injection e)))))
    have HP:=hide (And.intro hp4 (And.intro r4 (And.intro i4 (And.intro p4 E15))));clear S4 H4 S5 H5 E4 E5 E15 n0 n5 EB kk
    go_wp2_with fail
    refine ke.mono ?_;rintro e w6 ⟨rfl,hL⟩;obtain⟨q1,q2,q3,q4,q5⟩:=HP.out;have HLF:=hide (hL.trans (own:=own) (d:=d) (v:=v) q5 q2 (λhx=>q3 (by rw[zya] at hx;exact hx)) (λk hk=>⟨(q4 k hk).1,zbf _ _ _ k (q4 k hk).2⟩));clear hL
    go_wp2
    go_ret2
    exact .inl ⟨HO.out,rfl,by rw[zzbhi];exact HLF.out⟩
 ·have HLE:=hide (h.left (hs.ext he1));have HO:Hid (d.open? hd=2):=by show _=_;unfold Ds.open?;rw[if_pos hpk]
  have S1:=hs.ext he1;have kn:=zti g 0 d.fm d.mLast w1 (h.c0 S1) (h.c1 S1) (by omega);rw[zzbdr] at kn;clear hpk
  go_wp2_with fail
  refine kn.mono ?_;rintro e w2 ⟨rfl,hw⟩;replace hw:=hw.symm;subst hw
  go_wp2
  go_ret2
  exact .inr ⟨by rw[HO.out];omega,by rw[HO.out];rfl,HLE.out⟩
end
end Go.Proofs.YtoijpogadkogcaaGreat
