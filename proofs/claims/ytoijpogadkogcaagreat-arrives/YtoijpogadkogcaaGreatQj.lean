import Derived.Test.YtoijpogadkogcaaGreatQi
namespace Go.Proofs.YtoijpogadkogcaaGreat
open Go.RowKit
set_option maxRecDepth 100000
theorem ziq{w:World}{b o n k:Nat}{l:Bytes}(h:zae w (.slice (some ⟨b,o,none⟩) n k) l)(i:Nat)(hi:i<l.length):w.cell? ⟨b,o+i,none⟩=some (.int .u8 ((l.getD i 0).toNat:Int)):=by
 obtain⟨a,cap,e,_,_,h3⟩:=h;rcases h3 with h3 | ⟨b',o',e',hc⟩
 ·rw[h3] at hi;simp at hi
 ·subst e';simp only[Value.slice.injEq,Option.some.injEq,Addr.mk.injEq] at e;obtain⟨⟨rfl,rfl,_⟩,_,_⟩:=e;exact hc i hi
theorem zne{w:World}{a:Option Addr}{n k:Nat}{l:Bytes}(h:zae w (.slice a n k) l)(hl:0<l.length):∃ b o,a=some ⟨b,o,none⟩:=by
 obtain⟨a',cap,e,_,_,h3⟩:=h;rcases h3 with h3 | ⟨b',o',e',hc⟩
 ·rw[h3] at hl;simp at hl
 ·subst e';simp only[Value.slice.injEq] at e;exact⟨b',o',e.1⟩
theorem zzbla(b:Bytes)(h:b.length=2):∃ x y,b=[x,y]:=by
 match b,h with
 | [x,y],_=>exact⟨x,y,rfl⟩
section
variable {N:Type} {own:N->Res} {nm:DN->N} {g:Nat} {d:Ds} {v:DV} {wb w:World}
theorem zzbem(d:Ds)(v:DV)(x:Nat):(zbc d v).setIfInBounds 2 (.int .i64 (x:Int))=zbc { d with mMost:=x } v:=rfl
theorem zzben(d:Ds)(v:DV):(zbc d v).setIfInBounds 19 (.bool true)=zbc { d with peerLeaves:=true } v:=rfl
theorem Ds.Fits.most{d:Ds}{m:Nat}(h:d.Fits m)(x:Nat)(hx:x<=255):Ds.Fits { d with mMost:=x } m :=
 ⟨h.mLast,h.tLast,hx,h.tMost,h.mCount0,h.mCount1,h.tCount0,h.tCount1,h.from0,h.from1,h.to0,h.to1,h.ctl,h.ring,h.ev,h.inn,h.pings,h.coming,h.bodies,h.st⟩
theorem Ds.Fits.left{d:Ds}{m:Nat}(h:d.Fits m):Ds.Fits { d with peerLeaves:=true } m :=
 ⟨h.mLast,h.tLast,h.mMost,h.tMost,h.mCount0,h.mCount1,h.tCount0,h.tCount1,h.from0,h.from1,h.to0,h.to1,h.ctl,h.ring,h.ev,h.inn,h.pings,h.coming,h.bodies,h.st⟩
set_option maxHeartbeats 6400000 in
theorem zsf(h:zaa own nm g d v)(hs:Sep wb w own)(hf:d.Fits 4)(kind flags id:Nat)(vb:Value)(body:Bytes)(hb:∀ u,v.rp.ok u->zae u vb body)(hbl:body.length<=64)(hfl:flags<=255) :
  Calls Tryz.prog 97 #[.pointer (some ⟨g,0,none⟩),frV kind flags id vb] w λe w'=>e = .returned (.tuple #[])/\zaf nm g wb own d v w' (d.doSettings (flags%2 == 1) id body):=by
 obtain⟨ab,kb,hvb,hkb1,hkb2,-⟩:=hb w (hs.get (h.res .inn));obtain⟨n,hnl⟩:∃ n,body.length=n:=⟨_,rfl⟩;rw[hnl] at hvb hkb1 hbl;subst hvb;have HN:=hide hnl;have S0:=hs.liftObj (frO kind flags id (.slice ab n kb));have H0:=h.lift (.obj w.heap.size (frO kind flags id (.slice ab n kb)));obtain⟨W0,hW0⟩:∃ W0,w.alloc (frO kind flags id (.slice ab n kb))=W0:=⟨_,rfl⟩;rw[hW0] at S0;have hW0':w.alloc (.cells #[.int .i64 (kind:Int),.int .i64 (flags:Int),.int .i64 (id:Int),.slice ab n kb] 111)=W0:=hW0;obtain⟨bx,hbx⟩:∃ bx,w.heap.size=bx:=⟨_,rfl⟩;rw[hbx] at S0 H0;have b0:W0.cell? ⟨bx,0,none⟩=some (.int .i64 (kind:Int)):=S0.cell (n:=none) rfl 0;have b1:W0.cell? ⟨bx,1,none⟩=some (.int .i64 (flags:Int)):=S0.cell (n:=none) rfl 1;have b2:W0.cell? ⟨bx,2,none⟩=some (.int .i64 (id:Int)):=S0.cell (n:=none) rfl 2;have b3:W0.cell? ⟨bx,3,none⟩=some (.slice ab n kb):=S0.cell (n:=none) rfl 3;unfold frV;clear hnl hW0;by_cases h0:id=0
 ·have h0b:((id:Int) != 0)=false:=by simp;omega
  have HZ:=hide h0;clear h0;have kh:=zip W0 kind flags id ab n kb hfl;cases hfin:(flags%2 == 1) with
  | true =>
   rw[hfin] at kh;by_cases hpos:0<n
   ·have HR:d.doSettings true id body=d.fail 3:=by unfold Ds.doSettings;rw[HN.out,if_neg (by rw[HZ.out];simp),if_pos rfl,if_pos hpos]
    have hpos':(0:Int)<(n:Int):=by omega
    go_enter Tryz.func97,Tryz.ntmps97
    go_wp2_with fail
    refine kh.mono ?_;rintro e w2 ⟨rfl,he⟩;have S2:=S0.ext he;have c3:=he.cell b3;have kx:=zaq H0 S2 (hf.mono (by omega)) 3
    go_wp2_with fail
    refine kx.mono ?_;rintro e w3 ⟨rfl,hL⟩;have HL:=hide (show zaf nm g wb own d v w3 (d.doSettings true id body) from by rw[HR];exact hL.unlift);clear hL HR
    go_wp2
    go_end0
    exact⟨rfl,HL.out⟩
   ·have hn0:n=0:=by omega
    have HR:d.doSettings true id body=d:=by unfold Ds.doSettings;rw[HN.out,if_neg (by rw[HZ.out];simp),if_pos rfl,if_neg hpos]
    subst hn0
    go_enter Tryz.func97,Tryz.ntmps97
    go_wp2_with fail
    refine kh.mono ?_;rintro e w2 ⟨rfl,he⟩;have S2:=S0.ext he;have c3:=he.cell b3;have HL:=hide (show zaf nm g wb own d v w2 (d.doSettings true id body) from by rw[HR];exact(H0.left S2).unlift);clear HR
    go_wp2
    go_end0
    exact⟨rfl,HL.out⟩
  | false =>
   rw[hfin] at kh;by_cases h1:n=1
   ·subst h1;obtain⟨gb,ob,rfl⟩:=zne (hb W0 (S0.get (H0.res .inn))) (by rw[HN.out];omega);obtain⟨x,hx⟩:∃ x,(body.getD 0 0).toNat=x:=⟨_,rfl⟩;have hx2:x<=255:=by rw[<-hx];have:=(body.getD 0 0).toNat_lt;omega
    have HX:=hide hx;clear hx;by_cases h6:6<x
    ·have HR:d.doSettings false id body=d.fail 1:=by unfold Ds.doSettings;rw[HN.out,HX.out,if_neg (by rw[HZ.out];simp),if_neg (by simp),if_neg (by simp),if_pos h6]
     go_enter Tryz.func97,Tryz.ntmps97
     go_wp2_with fail
     refine kh.mono ?_;rintro e w2 ⟨rfl,he⟩;have S2:=S0.ext he;have c3:=he.cell b3;have cx:=ziq (hb w2 (S2.get (H0.res .inn))) 0 (by rw[HN.out];omega);rw[HX.out,Nat.add_zero] at cx;have kx:=zaq H0 S2 (hf.mono (by omega)) 1
     go_wp2_with fail
     refine kx.mono ?_;rintro e w3 ⟨rfl,hL⟩;have HL:=hide (show zaf nm g wb own d v w3 (d.doSettings false id body) from by rw[HR];exact hL.unlift);clear hL HR
     go_wp2
     go_end0
     exact⟨rfl,HL.out⟩
    ·have HR:d.doSettings false id body=({ d with mMost:=x }:Ds).lay 4 1 0 []:=by unfold Ds.doSettings;rw[HN.out,HX.out,if_neg (by rw[HZ.out];simp),if_neg (by simp),if_neg (by simp),if_neg h6]
     go_enter Tryz.func97,Tryz.ntmps97
     go_wp2_with fail
     refine kh.mono ?_;rintro e w2 ⟨rfl,he⟩;have S2:=S0.ext he;have c3:=he.cell b3;have cx:=ziq (hb w2 (S2.get (H0.res .inn))) 0 (by rw[HN.out];omega);rw[HX.out,Nat.add_zero] at cx;have t2:=H0.thaw S2 2;have f2:=H0.c2 S2;have S3:=S2.setObj H0.conn 2 (.int .i64 (x:Int));rw[zzbem] at S3;have H3:=zaa.scal (d':={ d with mMost:=x }) H0 rfl rfl rfl rfl rfl;have F3:=(hf.mono (show 1<=4 by omega)).most x hx2;have kx:=zga H3 4 1 0 [] (.slice none 0 0) (S3.nilRow (some (nm (.fr (v.b+d.ctl.length)))) 5 1) F3
     go_wp2_with fail
     refine kx.mono ?_;rintro e w3 ⟨rfl,hL⟩;have HL:=hide (show zaf nm g wb own d v w3 (d.doSettings false id body) from by rw[HR];exact(zaf.trans (own:=lift own (.obj bx (frO kind flags id (.slice (some ⟨gb,ob,none⟩) 1 kb)))) (d:=d) (v:=v) hL ((zai.refl _ _).upd _ _) rfl (λ_=>rfl) (λ_ hn=>⟨rfl,hn⟩)).unlift);clear hL HR
     go_wp2
     go_end0
     exact⟨rfl,HL.out⟩
   ·have HR:d.doSettings false id body=d.fail 3:=by unfold Ds.doSettings;rw[HN.out,if_neg (by rw[HZ.out];simp),if_neg (by simp),if_pos h1]
    have h1':((n:Int) != 1)=true:=by simp;omega
    go_enter Tryz.func97,Tryz.ntmps97
    go_wp2_with fail
    refine kh.mono ?_;rintro e w2 ⟨rfl,he⟩;have S2:=S0.ext he;have c3:=he.cell b3;have kx:=zaq H0 S2 (hf.mono (by omega)) 3
    go_wp2_with fail
    refine kx.mono ?_;rintro e w3 ⟨rfl,hL⟩;have HL:=hide (show zaf nm g wb own d v w3 (d.doSettings false id body) from by rw[HR];exact hL.unlift);clear hL HR
    go_wp2
    go_end0
    exact⟨rfl,HL.out⟩
 ·have HR:d.doSettings (flags%2 == 1) id body=d.fail 1:=by unfold Ds.doSettings;rw[if_pos h0]
  have h0':((id:Int) != 0)=true:=by simp;omega
  have kx:=zaq H0 S0 (hf.mono (by omega)) 1
  go_enter Tryz.func97,Tryz.ntmps97
  go_wp2_with fail
  refine kx.mono ?_;rintro e w3 ⟨rfl,hL⟩;have HL:=hide (show zaf nm g wb own d v w3 (d.doSettings (flags%2 == 1) id body) from by rw[HR];exact hL.unlift);clear hL HR
  go_wp2
  go_end0
  exact⟨rfl,HL.out⟩
set_option maxHeartbeats 6400000 in
theorem zyz(h:zaa own nm g d v)(hs:Sep wb w own)(hf:d.Fits 4)(kind flags id:Nat)(vb:Value)(body:Bytes)(hb:∀ u,v.rp.ok u->zae u vb body)(hbl:body.length<=64)(hfl:flags<=255) :
  Calls Tryz.prog 98 #[.pointer (some ⟨g,0,none⟩),frV kind flags id vb] w λe w'=>e = .returned (.tuple #[])/\zaf nm g wb own d v w' (d.doPing (flags%2 == 1) id body):=by
 obtain⟨ab,kb,hvb,hkb1,hkb2,-⟩:=hb w (hs.get (h.res .inn));obtain⟨n,hnl⟩:∃ n,body.length=n:=⟨_,rfl⟩;rw[hnl] at hvb hkb1 hbl;subst hvb;have HN:=hide hnl;have S0:=hs.liftObj (frO kind flags id (.slice ab n kb));have H0:=h.lift (.obj w.heap.size (frO kind flags id (.slice ab n kb)));obtain⟨W0,hW0⟩:∃ W0,w.alloc (frO kind flags id (.slice ab n kb))=W0:=⟨_,rfl⟩;rw[hW0] at S0;have hW0':w.alloc (.cells #[.int .i64 (kind:Int),.int .i64 (flags:Int),.int .i64 (id:Int),.slice ab n kb] 111)=W0:=hW0;obtain⟨bx,hbx⟩:∃ bx,w.heap.size=bx:=⟨_,rfl⟩;rw[hbx] at S0 H0;have b0:W0.cell? ⟨bx,0,none⟩=some (.int .i64 (kind:Int)):=S0.cell (n:=none) rfl 0;have b1:W0.cell? ⟨bx,1,none⟩=some (.int .i64 (flags:Int)):=S0.cell (n:=none) rfl 1;have b2:W0.cell? ⟨bx,2,none⟩=some (.int .i64 (id:Int)):=S0.cell (n:=none) rfl 2;have b3:W0.cell? ⟨bx,3,none⟩=some (.slice ab n kb):=S0.cell (n:=none) rfl 3;unfold frV;clear hnl hW0;by_cases h0:id=0
 ·have h0b:((id:Int) != 0)=false:=by simp;omega
  have HZ:=hide h0;clear h0;by_cases h2:n=2
  ·subst h2;have kh:=zip W0 kind flags id ab 2 kb hfl;obtain⟨gb,ob,rfl⟩:=zne (hb W0 (S0.get (H0.res .inn))) (by rw[HN.out];omega);cases hfin:(flags%2 == 1) with
   | true =>
    rw[hfin] at kh;have HR:d.doPing true id body=d.tell 4 0 (Cs.num body 0):=by unfold Ds.doPing;rw[HN.out,if_neg (by rw[HZ.out];simp),if_neg (by simp),if_pos rfl]
    go_enter Tryz.func98,Tryz.ntmps98
    go_wp2_with fail
    refine kh.mono ?_;rintro e w2 ⟨rfl,he⟩;have S2:=S0.ext he;have c3:=he.cell b3;have k2:=zde w2 _ body (hb w2 (S2.get (H0.res .inn))) (by rw[HN.out];omega)
    go_wp2_with fail
    refine k2.mono ?_;rintro e w4 ⟨rfl,he4⟩;have S4:=S2.ext he4;have kx:=zgq H0 S4 (hf.mono (by omega)) 4 0 (Cs.num body 0)
    go_wp2_with fail
    refine kx.mono ?_;rintro e w3 ⟨rfl,hL⟩;have HL:=hide (show zaf nm g wb own d v w3 (d.doPing true id body) from by rw[HR];exact hL.unlift);clear hL HR
    go_wp2
    go_end0
    exact⟨rfl,HL.out⟩
   | false =>
    rw[hfin] at kh;have HR:d.doPing false id body=d.lay 5 1 0 body:=by unfold Ds.doPing;rw[HN.out,if_neg (by rw[HZ.out];simp),if_neg (by simp),if_neg (by simp)]
    obtain⟨x,hx⟩:∃ x,(body.getD 0 0).toNat=x:=⟨_,rfl⟩;obtain⟨y,hy⟩:∃ y,(body.getD 1 0).toNat=y:=⟨_,rfl⟩;have HC:Hid (zab body=[.int .u8 (x:Int),.int .u8 (y:Int)]):=by
     show _=_
     obtain⟨p,q,rfl⟩:=zzbla body HN.out;rw[<-hx,<-hy];rfl
    have HX:=hide hx;have HY:=hide hy;clear hx hy
    go_enter Tryz.func98,Tryz.ntmps98
    go_wp2_with fail
    refine kh.mono ?_;rintro e w2 ⟨rfl,he⟩;have S2:=S0.ext he;have c3:=he.cell b3;have cx:=ziq (hb w2 (S2.get (H0.res .inn))) 0 (by rw[HN.out];omega);have cy:=ziq (hb w2 (S2.get (H0.res .inn))) 1 (by rw[HN.out];omega);rw[HX.out,Nat.add_zero] at cx;rw[HY.out] at cy
    go_wp2_with fail
    go_region_with (go_at_call 69;refine(zga H0 5 1 0 body _ (S2.add (some (nm (.fr (v.b+d.ctl.length)))) ((Ext.refl w2).alloc _).drew (zbv ((zqd (w:=w2) (T:=5) (cs:=#[.int .u8 (x:Int),.int .u8 (y:Int)]) rfl HC.out.symm (by simp[maxLen])).ext (Ext.refl _).drew) HN.out.symm rfl) (zho w2 2 2 rfl)) (hf.mono (by omega))).mono ?_;rintro e w3 ⟨rfl,hL⟩)
    all_goals
     have HL:=hide (show zaf nm g wb own d v w3 (d.doPing false id body) from by rw[HR];exact hL.unlift);clear hL HR
     go_wp2
     go_end0
     exact⟨rfl,HL.out⟩
  ·have HR:d.doPing (flags%2 == 1) id body=d.fail 3:=by unfold Ds.doPing;rw[HN.out,if_neg (by rw[HZ.out];simp),if_pos h2]
   have h2':((n:Int) != 2)=true:=by simp;omega
   have kx:=zaq H0 S0 (hf.mono (by omega)) 3
   go_enter Tryz.func98,Tryz.ntmps98
   go_wp2_with fail
   refine kx.mono ?_;rintro e w3 ⟨rfl,hL⟩;have HL:=hide (show zaf nm g wb own d v w3 (d.doPing (flags%2 == 1) id body) from by rw[HR];exact hL.unlift);clear hL HR
   go_wp2
   go_end0
   exact⟨rfl,HL.out⟩
 ·have HR:d.doPing (flags%2 == 1) id body=d.fail 1:=by unfold Ds.doPing;rw[if_pos h0]
  have h0':((id:Int) != 0)=true:=by simp;omega
  have kx:=zaq H0 S0 (hf.mono (by omega)) 1
  go_enter Tryz.func98,Tryz.ntmps98
  go_wp2_with fail
  refine kx.mono ?_;rintro e w3 ⟨rfl,hL⟩;have HL:=hide (show zaf nm g wb own d v w3 (d.doPing (flags%2 == 1) id body) from by rw[HR];exact hL.unlift);clear hL HR
  go_wp2
  go_end0
  exact⟨rfl,HL.out⟩
end
end Go.Proofs.YtoijpogadkogcaaGreat
