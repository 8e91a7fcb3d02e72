import Derived.Test.YtoijpogadkogcaaGreatQm
import Derived.Test.YtoijpogadkogcaaGreatQn
import Derived.Test.YtoijpogadkogcaaGreatQb
namespace Go.Proofs.YtoijpogadkogcaaGreat
open Go.RowKit
set_option maxRecDepth 100000
theorem Sep.moveOut{N:Type}{own:N->Res}{wb w:World}(h:Sep wb w own){n:N}{r:Res}(hn:own n=r):Sep wb w (lift (upd own n .none) r):=by
 refine⟨h.base,λm => ?_,λa b k ha hb => ?_,λm k hm => ?_⟩
 ·cases m with
  | none=>rw[<-hn];exact h.ok n
  | some m =>
   by_cases e:m=n
   ·subst e;show (upd own m .none m).ok w;rw[zag];trivial
   ·show (upd own n .none m).ok w;rw[zac _ _ e];exact h.ok m
 ·cases a with
  | none =>
   cases b with
   | none=>rfl
   | some b =>
    have hb':(upd own n .none b).has k:=hb;by_cases e:b=n
    ·subst e;rw[zag] at hb';exact hb'.elim
    ·rw[zac _ _ e] at hb';have ha':(own n).has k:=by rw[hn];exact ha
     exact absurd (h.apart b n k hb' ha') e
  | some a =>
   have ha':(upd own n .none a).has k:=ha;by_cases e:a=n
   ·subst e;rw[zag] at ha';exact ha'.elim
   ·rw[zac _ _ e] at ha';cases b with
    | none =>
     have hb':(own n).has k:=by rw[hn];exact hb
     exact absurd (h.apart a n k ha' hb') e
    | some b =>
     have hb':(upd own n .none b).has k:=hb;by_cases e2:b=n
     ·subst e2;rw[zag] at hb';exact hb'.elim
     ·rw[zac _ _ e2] at hb';rw[h.apart a b k ha' hb']
 ·cases m with
  | none=>exact h.low n k (by rw[hn];exact hm)
  | some m =>
   have hm':(upd own n .none m).has k:=hm;by_cases e:m=n
   ·subst e;rw[zag] at hm';exact hm'.elim
   ·rw[zac _ _ e] at hm';exact h.low m k hm'
section
variable {N:Type} {own:N->Res} {nm:DN->N} {g:Nat} {d:Ds} {v:DV} {wb w:World}
theorem zaa.blk(h:zaa own nm g d v){i:Nat}{e:Bool}{b:Bytes}(hc:d.coming=some (i,e,b)):own (nm .blk) = .obj v.gb (.cells #[.int .i64 (i:Int),.bool e,v.vK] 158 (0,0)):=by rw[h.res];simp only[zao,hc]
theorem zaa.blkb(h:zaa own nm g d v){i:Nat}{e:Bool}{b:Bytes}(hc:d.coming=some (i,e,b)):own (nm .blkb) = .row 5 1 v.vK b.length (zab b):=by rw[h.res];simp only[zao,hc]
theorem zaa.setComing(h:zaa own nm g d v){i:Nat}{e:Bool}{b:Bytes}(hc:d.coming=some (i,e,b))(b':Bytes)(x:Value) :
  zaa (upd (upd own (nm .blkb) (.row 5 1 x b'.length (zab b'))) (nm .blk) (.obj v.gb (.cells (#[.int .i64 (i:Int),.bool e,v.vK].setIfInBounds 2 x) 158 (0,0)))) nm g { d with coming:=some (i,e,b') } { v with vK:=x }:=by
 refine⟨h.inj,λy => ?_,h.frl,h.mapM,h.mapT,⟨h.wf.ids,h.wf.rings⟩,h.nilB,h.nilH⟩;rw[zad h.inj,zad h.inj,h.res];cases y<;>simp only[zao,reduceCtorEq,if_false,if_true]
 ·simp only[zbc,zgo,hc];rfl
 ·rfl
theorem zzbeo(h:zaa own nm g d v)(hs:Sep wb w own){i:Nat}{e:Bool}{b:Bytes}(hc:d.coming=some (i,e,b)) :
  ∃ own',Sep wb (w.setCell ⟨g,16,none⟩ (.pointer none)) (lift own' (.obj v.gb (.cells #[.int .i64 (i:Int),.bool e,v.vK] 158 (0,0))))/\zaa own' nm g { d with coming:=none } v/\zai nm own own':=by
 have s1:=(hs.drop (nm .blkb)).moveOut ((zad h.inj own .blkb .blk .none).trans ((if_neg (by simp)).trans (h.blk hc)));have c1:lift (upd (upd own (nm .blkb) .none) (nm .blk) .none) (.obj v.gb (.cells #[.int .i64 (i:Int),.bool e,v.vK] 158 (0,0))) (some (nm .conn)) = .obj g (.cells (zbc d v) 105 (0,0)):=by
  show upd (upd own (nm .blkb) .none) (nm .blk) .none (nm .conn)=_
  rw[zad h.inj,if_neg (by simp),zad h.inj,if_neg (by simp)];exact h.conn
 have s2:=s1.setObj c1 16 (.pointer none);have e2:upd (lift (upd (upd own (nm .blkb) .none) (nm .blk) .none) (.obj v.gb (.cells #[.int .i64 (i:Int),.bool e,v.vK] 158 (0,0)))) (some (nm .conn)) (.obj g (.cells ((zbc d v).setIfInBounds 16 (.pointer none)) 105 (0,0))) =
   lift (upd (upd (upd own (nm .blkb) .none) (nm .blk) .none) (nm .conn) (.obj g (.cells ((zbc d v).setIfInBounds 16 (.pointer none)) 105 (0,0)))) (.obj v.gb (.cells #[.int .i64 (i:Int),.bool e,v.vK] 158 (0,0))):=by
  funext m
  cases m with
  | none=>rw[zac _ _ (by simp)];rfl
  | some m =>
   by_cases em:m=nm .conn
   ·subst em;rw[zag];show _=upd _ (nm .conn) _ (nm .conn);rw[zag]
   ·rw[zac _ _ (by simpa using em)];show upd _ (nm .blk) .none m=upd _ (nm .conn) _ m;rw[zac _ _ em]
 rw[e2] at s2;refine⟨_,s2,?_,(((zai.refl nm own).upd _ _).upd _ _).upd _ _⟩;refine⟨h.inj,λy => ?_,h.frl,h.mapM,h.mapT,⟨h.wf.ids,h.wf.rings⟩,h.nilB,h.nilH⟩;rw[zad h.inj,zad h.inj,zad h.inj,h.res];cases y<;>simp only[zao,reduceCtorEq,if_false,if_true]
 rfl
end
def swap2{M:Type}(own:Option (Option M)->Res):Option (Option M)->Res
 | none=>own (some none)
 | some none=>own none
 | some (some m)=>own (some (some m))
def zyf{M:Type}:Option (Option M)->Option (Option M)
 | none=>some none
 | some none=>none
 | some (some m)=>some (some m)
theorem zzbgt{M:Type}(a b:Option (Option M))(h:zyf a=zyf b):a=b:=by rcases a with _ | _ | a<;>rcases b with _ | _ | b<;>simp_all [zyf]
theorem zsg{M:Type}(own:Option (Option M)->Res)(n:Option (Option M)):swap2 own n=own (zyf n):=by rcases n with _ | _ | n<;>rfl
theorem Sep.swap{M:Type}{own:Option (Option M)->Res}{wb w:World}(h:Sep wb w own):Sep wb w (swap2 own) :=
 ⟨h.base,λn=>by rw[zsg];exact h.ok _,λa b k ha hb=>by rw[zsg] at ha hb;exact zzbgt a b (h.apart _ _ k ha hb),λn k hn=>by rw[zsg] at hn;exact h.low _ k hn⟩
theorem ztu(l:List UInt8)(m:zal)(h:unpacks l=some m):m≠[]/\m.length<=8:=by
 unfold unpacks at h;split at h
 ·cases h
 ·rename_i hc
  obtain⟨h1,_,_,h4⟩:=zzbjc 8 l m h;exact⟨h4 (λe=>hc (.inl (by rw[e];simp))),h1⟩
section
variable {N:Type} {own:N->Res} {nm:DN->N} {g:Nat} {d:Ds} {v:DV} {wb w:World}
set_option maxHeartbeats 6400000 in
theorem zjt(h:zaa own nm g d v)(hs:Sep wb w own)(hf:d.Fits 6)(kind flags fid:Nat)(vb:Value)(body:Bytes)(hb:∀ u,v.rp.ok u->zae u vb body)(hbl:body.length<=64)(hfl:flags<=255)(id:Nat)(fin:Bool)(sofar:Bytes)(hco:d.coming=some (id,fin,sofar))(hsl:sofar.length<=1000)(hn:d.str id=none)(hid:id<=65535) :
  Calls Tryz.prog 139 #[.pointer (some ⟨g,0,none⟩),frV kind flags fid vb] w λe w'=>e = .returned (.tuple #[])/\zaf nm g wb own d v w' (d.takeHeaders id fin (flags/2%2 == 1) sofar body):=by
 obtain⟨ab,kb,hvb,hkb1,hkb2,-⟩:=hb w (hs.get (h.res .inn));obtain⟨n,hnl⟩:∃ n,body.length=n:=⟨_,rfl⟩;rw[hnl] at hvb hkb1 hbl;subst hvb;have HN:=hide hnl;have S0:=hs.liftObj (frO kind flags fid (.slice ab n kb));have H0:=h.lift (.obj w.heap.size (frO kind flags fid (.slice ab n kb)));obtain⟨W0,hW0⟩:∃ W0,w.alloc (frO kind flags fid (.slice ab n kb))=W0:=⟨_,rfl⟩;rw[hW0] at S0;have hW0':w.alloc (.cells #[.int .i64 (kind:Int),.int .i64 (flags:Int),.int .i64 (fid:Int),.slice ab n kb] 111)=W0:=hW0;obtain⟨bx,hbx⟩:∃ bx,w.heap.size=bx:=⟨_,rfl⟩;rw[hbx] at S0 H0;have b0:W0.cell? ⟨bx,0,none⟩=some (.int .i64 (kind:Int)):=S0.cell (n:=none) rfl 0;have b1:W0.cell? ⟨bx,1,none⟩=some (.int .i64 (flags:Int)):=S0.cell (n:=none) rfl 1;have b2:W0.cell? ⟨bx,2,none⟩=some (.int .i64 (fid:Int)):=S0.cell (n:=none) rfl 2;have b3:W0.cell? ⟨bx,3,none⟩=some (.slice ab n kb):=S0.cell (n:=none) rfl 3;unfold frV;clear hnl hW0;obtain⟨i0,hi0,hz0,hz1,hz2⟩:=zbk Tryz.infoU;have f16:W0.cell? ⟨g,16,none⟩=some (.pointer (some ⟨v.gb,0,none⟩)):=by rw[H0.c16 S0];simp only[zgo,hco]
 have q2:W0.cell? ⟨v.gb,2,none⟩=some v.vK:=S0.cell (H0.blk hco) 2;obtain⟨aK,cK,hK,-,-⟩:=(S0.get (H0.blkb hco)).slice;rw[hK] at q2;have S0d:=S0.ext (Ext.refl W0).drew;have hsrc:=zed (hb W0.drew (S0d.get (H0.res .inn)));rw[HN.out] at hsrc;have hOK:OwnAt W0.drew 5 1 (.slice aK sofar.length cK) sofar.length (zab sofar):=by rw[<-hK];exact S0d.get (H0.blkb hco)
 have HK:=hide hK;obtain⟨NB,hNB⟩:∃ NB,sofar++body=NB:=⟨_,rfl⟩;have HLW:Hid (NB.length=sofar.length+n):=by show _=_;rw[<-hNB,List.length_append,HN.out]
 have HCB:Hid (zab NB=zab sofar++zab body):=by show _=_;rw[<-hNB,zbe]
 have hlB:NB.length<=1064:=by rw[HLW.out];omega
 have F1:Ds.Fits { d with coming:=some (id,fin,NB) } 6:=⟨hf.mLast,hf.tLast,hf.mMost,hf.tMost,hf.mCount0,hf.mCount1,hf.tCount0,hf.tCount1,hf.from0,hf.from1,hf.to0,hf.to1,hf.ctl,hf.ring,hf.ev,hf.inn,hf.pings,λi e b hc=>(by cases hc;exact⟨hid,hlB⟩),hf.bodies,hf.st⟩;have F2:Ds.Fits { d with coming:=none } 6:=⟨hf.mLast,hf.tLast,hf.mMost,hf.tMost,hf.mCount0,hf.mCount1,hf.tCount0,hf.tCount1,hf.from0,hf.from1,hf.to0,hf.to1,hf.ctl,hf.ring,hf.ev,hf.inn,hf.pings,λi e b hc=>(by cases hc),hf.bodies,hf.st⟩;have HTH:Hid (d.takeHeaders id fin (flags/2%2 == 1) sofar body=if 1000<NB.length then ({ d with coming:=some (id,fin,NB) }:Ds).fail 3 else if (flags/2%2 == 1)=false then { d with coming:=some (id,fin,NB) } else match unpacks NB with
   | none=>({ d with coming:=some (id,fin,NB) }:Ds).fail 5
   | some h=>if (d.tMost:Int)<=d.tCount\/d.leaving=true then ({ d with coming:=none }:Ds).refuse id else ({ d with coming:=none }:Ds).accept id fin h):=by
  show _=_
  unfold Ds.takeHeaders;rw[hNB];rfl
 clear hK hNB
 go_enter Tryz.func139,Tryz.ntmps139
 go_wp2_with fail
 go_region_law (
  refine zgr rfl (.tmp 15) (.tmp 17) 34 34 rfl 5 i0 (.int .u8 0) 1 1 Tryz.underlying34 hi0 hz0 hz1 hz2 rfl (.slice aK sofar.length cK) sofar.length (zab sofar) ?_ hOK (.slice ab n kb) n (zab body) ?_ hsrc ?_ ?_ ?_
  ·simp[Act.eval]
  ·simp[Act.eval]
  ·unfold maxLen;omega
  ·omega
  intro v5 w5 hO5 hG5;have hO6:=zbv hO5 HLW.out.symm HCB.out.symm;rw[<-HK.out] at hG5;obtain⟨a5,k5,hv5,_,_⟩:=hO6.slice;subst hv5;have S5:=S0d.grew (H0.blkb hco) hG5 hO6;have c5:=(zad H0.inj _ .blkb .blk (.row 5 1 (.slice a5 NB.length k5) NB.length (zab NB))).trans ((if_neg (by simp)).trans (H0.blk hco));have t2:w5.frozen? ⟨v.gb,2,none⟩=false:=S5.thaw c5 2;have f2':w5.cell? ⟨v.gb,2,none⟩=some v.vK:=S5.cell c5 2;clear hG5 hO5)
 all_goals
  have S2:=S5.setObj c5 2 (.slice a5 NB.length k5);have H2:=H0.setComing hco NB (.slice a5 NB.length k5);obtain⟨W2,hW2⟩:∃ W2,w5.setCell ⟨v.gb,2,none⟩ (.slice a5 NB.length k5)=W2:=⟨_,rfl⟩;rw[hW2] at S2;have E2:zai (λx=>some (nm x)) (lift own (.obj bx (frO kind flags fid (.slice ab n kb)))) _:=((zai.refl _ _).upd .blkb (.row 5 1 (.slice a5 NB.length k5) NB.length (zab NB))).upd .blk (.obj v.gb (.cells (#[.int .i64 (id:Int),.bool fin,v.vK].setIfInBounds 2 (.slice a5 NB.length k5)) 158 (0,0)));have p2:W2.cell? ⟨v.gb,2,none⟩=some (.slice a5 NB.length k5):=S2.cell (H2.blk rfl) 2;have hbox:=E2.kept;have r0:W2.cell? ⟨bx,0,none⟩=some (.int .i64 (kind:Int)):=S2.cell hbox 0;have r1:W2.cell? ⟨bx,1,none⟩=some (.int .i64 (flags:Int)):=S2.cell hbox 1;have r2:W2.cell? ⟨bx,2,none⟩=some (.int .i64 (fid:Int)):=S2.cell hbox 2;have r3:W2.cell? ⟨bx,3,none⟩=some (.slice ab n kb):=S2.cell hbox 3;clear S5 c5 t2 f2' S0 S0d H0 hOK hsrc;by_cases hbig:1000<NB.length
  ·have hbig':(1000:Int)<(NB.length:Int):=by omega
   have kx:=zaq H2 S2 (F1.mono (by omega)) 3
   go_wp2_with fail
   refine kx.mono ?_;rintro e w3 ⟨rfl,hL⟩;have HL:=hide (show zaf nm g wb own d v w3 (d.takeHeaders id fin (flags/2%2 == 1) sofar body) from by rw[HTH.out,if_pos hbig];exact(hL.trans (own:=lift own (.obj bx (frO kind flags fid (.slice ab n kb)))) (d:=d) (v:=v) E2 rfl (λ_=>rfl) (λ_ hk=>⟨rfl,hk⟩)).unlift);clear hL
   go_wp2
   refine bodyPost_ret (results_none rfl _ _ _) rfl ?_;exact⟨rfl,HL.out⟩
  have hbig':¬ (1000:Int)<(NB.length:Int):=by omega
  have kh:=zzbkz W2 kind flags fid ab n kb hfl;cases hwh:(flags/2%2 == 1) with
  | false =>
   rw[hwh] at kh
   go_wp2_with fail
   refine kh.mono ?_;rintro e w3 ⟨rfl,he3⟩;have HL:=hide (show zaf nm g wb own d v w3 (d.takeHeaders id fin (flags/2%2 == 1) sofar body) from by
    rw[HTH.out,if_neg hbig,hwh,if_pos rfl];exact zaf.unlift (r:=(.obj bx (frO kind flags fid (.slice ab n kb)))) ⟨_,_,S2.ext he3,H2,E2,rfl,λ_=>rfl,λ_ hk=>⟨rfl,hk⟩⟩)
   go_wp2
   refine bodyPost_ret (results_none rfl _ _ _) rfl ?_;exact⟨rfl,HL.out⟩
  | true =>
   rw[hwh] at kh
   go_wp2_with fail
   refine kh.mono ?_;rintro e w3 ⟨rfl,he3⟩;have S3:=S2.ext he3;have p3:=he3.cell p2;have ku:=zzbei (.slice a5 NB.length k5) NB w3 ((S3.get (H2.blkb rfl)).isBytes)
   go_wp2_with fail
   refine ku.mono ?_;rintro e w4 ⟨he4,hu⟩;have S4:=S3.ext he4;rcases hu with ⟨m,vh,hum,rfl,hOh⟩ | ⟨hum,rfl⟩
   ·obtain⟨hne,hm8⟩:=ztu NB m hum;have hOh':OwnAt w4 122 2 vh m.length (zap m):=OwnAt.ofOwns hOh;have S4h:=S3.liftRow he4 hOh' (λb hb=>(hOh.lt b hb).1);have H4:=H2.lift (.row 122 2 vh m.length (zap m));obtain⟨own5,S5,H5,E5⟩:=zzbeo H4 S4h (i:=id) (e:=fin) (b:=NB) rfl;have E25:=E2.trans E5.unlift;have S6:=S5.swap;have e6:swap2 (lift own5 (.obj v.gb (.cells #[.int .i64 (id:Int),.bool fin,.slice a5 NB.length k5] 158 (0,0))))=lift (lift (λm=>own5 (some m)) (.obj v.gb (.cells #[.int .i64 (id:Int),.bool fin,.slice a5 NB.length k5] 158 (0,0)))) (.row 122 2 vh m.length (zap m)):=by
     funext q
     rcases q with _|_|q
     ·exact E5.kept
     ·rfl
     ·rfl
    dsimp only at S6;rw[e6] at S6;have H6:=(H5.unlift (nm:=λx=>some (nm x))).lift (.obj v.gb (.cells #[.int .i64 (id:Int),.bool fin,.slice a5 NB.length k5] 158 (0,0)));have f16':=H2.c16 S4;have t16:=H2.thaw S4 16;obtain⟨W6,hW6⟩:∃ W6,w4.setCell ⟨g,16,none⟩ (.pointer none)=W6:=⟨_,rfl⟩;rw[hW6] at S6;have H7:=H6.lift (.row 122 2 vh m.length (zap m));have kfu:=ztj g 5 d.tCount d.tMost W6 (H7.c8 S6) (H7.c7 S6);obtain⟨ah,ch,hvh,-,-⟩:=hOh'.slice;have hC0:∀ w7,Ext W6 w7->w7.cell? ⟨v.gb,0,none⟩=some (.int .i64 (id:Int))/\w7.cell? ⟨g,18,none⟩=some (.bool d.leaving):=λw7 he7=>⟨(S6.ext he7).cell (n:=some none) rfl 0,H7.c18 (S6.ext he7)⟩;have kre:∀ w7,Ext W6 w7->Calls Tryz.prog 176 #[.pointer (some ⟨g,0,none⟩),.int .i64 (id:Int)] w7 λe w'=>e = .returned (.tuple #[])/\zaf nm g wb own d v w' (({ d with coming:=none }:Ds).refuse id):=λw7 he7=>(zzc H7 (S6.ext he7) (F2.mono (by omega)) hn hid).mono (by
     rintro e w' ⟨rfl,hL⟩;exact⟨rfl,(hL.unlift.unlift.trans (own:=lift own (.obj bx (frO kind flags fid (.slice ab n kb)))) (d:=d) (v:=v) E25 rfl (λ_=>rfl) (λ_ hk=>⟨rfl,hk⟩)).unlift⟩)
    have kac:∀ w7,Ext W6 w7->Calls Tryz.prog 177 #[.pointer (some ⟨g,0,none⟩),.pointer (some ⟨v.gb,0,none⟩),vh] w7 λe w'=>e = .returned (.tuple #[])/\zaf nm g wb own d v w' (({ d with coming:=none }:Ds).accept id fin m):=λw7 he7=>(zzd H6 vh m hne (by omega) (S6.ext he7) (F2.mono (by omega)) hn hid fin none v.gb _ rfl (λx e=>by cases e)).mono (by
     rintro e w' ⟨rfl,hL⟩;exact⟨rfl,(hL.unlift.trans (own:=lift own (.obj bx (frO kind flags fid (.slice ab n kb)))) (d:=d) (v:=v) E25 rfl (λ_=>rfl) (λ_ hk=>⟨rfl,hk⟩)).unlift⟩)
    have HC0:=hide hC0;have KRE:=hide kre;have KAC:=hide kac;rw[hvh] at KAC;have HUM:=hide hum;have HB:=hide hbig;have HW:=hide hwh;clear hC0 kre kac S4h H4 S5 H5 E5 S6 e6 H6 H7 S4 S3 S2 H2 hOh hOh' hum;rw[hvh];by_cases hfull:(d.tMost:Int)<=d.tCount
    ·rw[decide_eq_true hfull] at kfu;have HR:Hid (d.takeHeaders id fin (flags/2%2 == 1) sofar body=({ d with coming:=none }:Ds).refuse id):=by show _=_;rw[HTH.out,if_neg HB.out,HW.out,if_neg (by simp),HUM.out];dsimp only;rw[if_pos (.inl hfull)]
     go_wp2_with fail
     refine kfu.mono ?_;rintro e w7 ⟨rfl,he7⟩;obtain⟨g0,g18⟩:=HC0.out w7 he7
     go_wp2_with fail
     refine(KRE.out w7 he7).mono ?_;rintro e w8 ⟨rfl,hL⟩;have HL:=hide (show zaf nm g wb own d v w8 (d.takeHeaders id fin (flags/2%2 == 1) sofar body) from by rw[HR.out];exact hL);clear hL
     go_wp2
     refine bodyPost_ret (results_none rfl _ _ _) rfl ?_;exact⟨rfl,HL.out⟩
    rw[decide_eq_false hfull] at kfu;cases hlv:d.leaving with
    | true =>
     have HR:Hid (d.takeHeaders id fin (flags/2%2 == 1) sofar body=({ d with coming:=none }:Ds).refuse id):=by show _=_;rw[HTH.out,if_neg HB.out,HW.out,if_neg (by simp),HUM.out];dsimp only;rw[if_pos (.inr hlv)]
     go_wp2_with fail
     refine kfu.mono ?_;rintro e w7 ⟨rfl,he7⟩;obtain⟨g0,g18⟩:=HC0.out w7 he7;rw[hlv] at g18
     go_wp2_with fail
     refine(KRE.out w7 he7).mono ?_;rintro e w8 ⟨rfl,hL⟩;have HL:=hide (show zaf nm g wb own d v w8 (d.takeHeaders id fin (flags/2%2 == 1) sofar body) from by rw[HR.out];exact hL);clear hL
     go_wp2
     refine bodyPost_ret (results_none rfl _ _ _) rfl ?_;exact⟨rfl,HL.out⟩
    | false =>
     have HR:Hid (d.takeHeaders id fin (flags/2%2 == 1) sofar body=({ d with coming:=none }:Ds).accept id fin m):=by show _=_;rw[HTH.out,if_neg HB.out,HW.out,if_neg (by simp),HUM.out];dsimp only;rw[if_neg (by rw[hlv];simp;omega)]
     go_wp2_with fail
     refine kfu.mono ?_;rintro e w7 ⟨rfl,he7⟩;obtain⟨g0,g18⟩:=HC0.out w7 he7;rw[hlv] at g18
     go_wp2_with fail
     refine(KAC.out w7 he7).mono ?_;rintro e w8 ⟨rfl,hL⟩;have HL:=hide (show zaf nm g wb own d v w8 (d.takeHeaders id fin (flags/2%2 == 1) sofar body) from by rw[HR.out];exact hL);clear hL
     go_wp2
     go_end0
     exact⟨rfl,HL.out⟩
   ·have kx:=zaq H2 S4 (F1.mono (by omega)) 5
    go_wp2_with fail
    refine kx.mono ?_;rintro e w6 ⟨rfl,hL⟩;have HL:=hide (show zaf nm g wb own d v w6 (d.takeHeaders id fin (flags/2%2 == 1) sofar body) from by rw[HTH.out,if_neg hbig,hwh,if_neg (by simp),hum];exact(hL.trans (own:=lift own (.obj bx (frO kind flags fid (.slice ab n kb)))) (d:=d) (v:=v) E2 rfl (λ_=>rfl) (λ_ hk=>⟨rfl,hk⟩)).unlift);clear hL
    go_wp2
    refine bodyPost_ret (results_none rfl _ _ _) rfl ?_;exact⟨rfl,HL.out⟩
end
section
variable {N:Type} {own:N->Res} {nm:DN->N} {g:Nat} {d:Ds} {v:DV} {wb w:World}
set_option maxHeartbeats 6400000 in
theorem zpk(h:zaa own nm g d v)(hs:Sep wb w own)(hf:d.Fits 6)(kind flags id:Nat)(vb:Value)(body:Bytes)(hb:∀ u,v.rp.ok u->zae u vb body)(hbl:body.length<=64)(hfl:flags<=255)(hcm:∀ i e b,d.coming=some (i,e,b)->d.str i=none/\b.length<=1000/\i<=65535) :
  Calls Tryz.prog 95 #[.pointer (some ⟨g,0,none⟩),frV kind flags id vb] w λe w'=>e = .returned (.tuple #[])/\zaf nm g wb own d v w' (d.doMore (flags/2%2 == 1) body):=by
 obtain⟨ab,kb,hvb,hkb1,hkb2,-⟩:=hb w (hs.get (h.res .inn));obtain⟨n,hnl⟩:∃ n,body.length=n:=⟨_,rfl⟩;have hbl':=hbl;rw[hnl] at hvb hkb1 hbl;subst hvb;have HN:=hide hnl;have S0:=hs.liftObj (frO kind flags id (.slice ab n kb));have H0:=h.lift (.obj w.heap.size (frO kind flags id (.slice ab n kb)));obtain⟨W0,hW0⟩:∃ W0,w.alloc (frO kind flags id (.slice ab n kb))=W0:=⟨_,rfl⟩;rw[hW0] at S0;have hW0':w.alloc (.cells #[.int .i64 (kind:Int),.int .i64 (flags:Int),.int .i64 (id:Int),.slice ab n kb] 111)=W0:=hW0;obtain⟨bx,hbx⟩:∃ bx,w.heap.size=bx:=⟨_,rfl⟩;rw[hbx] at S0 H0;have b0:W0.cell? ⟨bx,0,none⟩=some (.int .i64 (kind:Int)):=S0.cell (n:=none) rfl 0;have b1:W0.cell? ⟨bx,1,none⟩=some (.int .i64 (flags:Int)):=S0.cell (n:=none) rfl 1;have b2:W0.cell? ⟨bx,2,none⟩=some (.int .i64 (id:Int)):=S0.cell (n:=none) rfl 2;have b3:W0.cell? ⟨bx,3,none⟩=some (.slice ab n kb):=S0.cell (n:=none) rfl 3;unfold frV;clear hnl hW0;have f16:=H0.c16 S0;cases hco:d.coming with
 | none =>
  have HR:d.doMore (flags/2%2 == 1) body=d.fail 1:=by unfold Ds.doMore;rw[hco]
  simp only[zgo,hco] at f16;have kx:=zaq H0 S0 (hf.mono (by omega)) 1;clear hco
  go_enter Tryz.func95,Tryz.ntmps95
  go_wp2_with fail
  refine kx.mono ?_;rintro e w3 ⟨rfl,hL⟩;have HL:=hide (show zaf nm g wb own d v w3 (d.doMore (flags/2%2 == 1) body) from by rw[HR];exact hL.unlift);clear hL HR
  go_wp2
  refine bodyPost_ret (results_none rfl _ _ _) rfl ?_;exact⟨rfl,HL.out⟩
 | some c =>
  obtain⟨i,e,b⟩:=c;obtain⟨c1,c2,c3⟩:=hcm i e b hco;have HR:d.doMore (flags/2%2 == 1) body=d.takeHeaders i e (flags/2%2 == 1) b body:=by unfold Ds.doMore;rw[hco]
  simp only[zgo,hco] at f16;have kx:=zjt H0 S0 hf kind flags id (.slice ab n kb) body hb hbl' hfl i e b hco c2 c1 c3;unfold frV at kx;clear hco
  go_enter Tryz.func95,Tryz.ntmps95
  go_wp2_with fail
  refine kx.mono ?_;rintro e w3 ⟨rfl,hL⟩;have HL:=hide (show zaf nm g wb own d v w3 (d.doMore (flags/2%2 == 1) body) from by rw[HR];exact hL.unlift);clear hL HR
  go_wp2
  go_end0
  exact⟨rfl,HL.out⟩
end
end Go.Proofs.YtoijpogadkogcaaGreat
