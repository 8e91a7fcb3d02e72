import Derived.Test.YtoijpogadkogcaaGreatQj
import Derived.Deep.RegionHeld3
namespace Go.Proofs.YtoijpogadkogcaaGreat
open Go.RowKit
set_option maxRecDepth 100000
section
variable {N:Type} {own:N->Res} {nm:DN->N} {g:Nat} {d:Ds} {v:DV} {wb w:World}
set_option maxHeartbeats 6400000 in
theorem zza(h:zaa own nm g d v)(hs:Sep wb w own)(hf:d.Fits 4)(kind flags id:Nat)(vb:Value)(body:Bytes)(hb:∀ u,v.rp.ok u->zae u vb body)(hbl:body.length<=64) :
  Calls Tryz.prog 99 #[.pointer (some ⟨g,0,none⟩),frV kind flags id vb] w λe w'=>e = .returned (.tuple #[])/\zaf nm g wb own d v w' (d.doAway id body):=by
 obtain⟨ab,kb,hvb,hkb1,hkb2,-⟩:=hb w (hs.get (h.res .inn));obtain⟨n,hnl⟩:∃ n,body.length=n:=⟨_,rfl⟩;rw[hnl] at hvb hkb1 hbl;subst hvb;have HN:=hide hnl;have S0:=hs.liftObj (frO kind flags id (.slice ab n kb));have H0:=h.lift (.obj w.heap.size (frO kind flags id (.slice ab n kb)));obtain⟨W0,hW0⟩:∃ W0,w.alloc (frO kind flags id (.slice ab n kb))=W0:=⟨_,rfl⟩;rw[hW0] at S0;have hW0':w.alloc (.cells #[.int .i64 (kind:Int),.int .i64 (flags:Int),.int .i64 (id:Int),.slice ab n kb] 111)=W0:=hW0;obtain⟨bx,hbx⟩:∃ bx,w.heap.size=bx:=⟨_,rfl⟩;rw[hbx] at S0 H0;have b0:W0.cell? ⟨bx,0,none⟩=some (.int .i64 (kind:Int)):=S0.cell (n:=none) rfl 0;have b1:W0.cell? ⟨bx,1,none⟩=some (.int .i64 (flags:Int)):=S0.cell (n:=none) rfl 1;have b2:W0.cell? ⟨bx,2,none⟩=some (.int .i64 (id:Int)):=S0.cell (n:=none) rfl 2;have b3:W0.cell? ⟨bx,3,none⟩=some (.slice ab n kb):=S0.cell (n:=none) rfl 3;unfold frV;clear hnl hW0;by_cases h0:id=0
 ·have h0b:((id:Int) != 0)=false:=by simp;omega
  have HZ:=hide h0;clear h0;by_cases h2:n=3
  ·subst h2;obtain⟨gb,ob,rfl⟩:=zne (hb W0 (S0.get (H0.res .inn))) (by rw[HN.out];omega);obtain⟨x,hx⟩:∃ x,(body.getD 2 0).toNat=x:=⟨_,rfl⟩;have hx2:x<=255:=by rw[<-hx];have:=(body.getD 2 0).toNat_lt;omega
   have hwx:IntKind.i64.wrap (x:Int)=(x:Int):=zhh _ (by omega) (by omega);have HX:=hide hx;clear hx;have HR:d.doAway id body=({ d with peerLeaves:=true }:Ds).tell 5 (Cs.num body 0) x:=by unfold Ds.doAway;rw[HN.out,HX.out,if_neg (by rw[HZ.out];simp),if_neg (by simp)]
   have t19:=H0.thaw S0 19;have f19:=H0.c19 S0;have S1:=S0.setObj H0.conn 19 (.bool true);rw[zzben] at S1;have H1:=zaa.scal (d':={ d with peerLeaves:=true }) H0 rfl rfl rfl rfl rfl;have F1:=(hf.mono (show 1<=4 by omega)).left;have E1:zai (λx=>some (nm x)) (lift own (.obj bx (frO kind flags id (.slice (some ⟨gb,ob,none⟩) 3 kb)))) _:=(zai.refl _ _).upd .conn (.obj g (.cells (zbc { d with peerLeaves:=true } v) 105 (0,0)));obtain⟨W1,hW1⟩:∃ W1,W0.setCell ⟨g,19,none⟩ (.bool true)=W1:=⟨_,rfl⟩;rw[hW1] at S1;have c3:W1.cell? ⟨bx,3,none⟩=some (.slice (some ⟨gb,ob,none⟩) 3 kb):=S1.cell E1.kept 3;have S1d:=S1.ext (Ext.refl W1).drew;have cx:W1.cell? ⟨gb,ob+2,none⟩=some (.int .u8 (x:Int)):=by rw[<-HX.out];exact ziq (hb W1 (S1.get (H1.res .inn))) 2 (by rw[HN.out];omega)
   have k2:=zde W1.drew _ body (hb W1.drew (S1d.get (H1.res .inn))) (by rw[HN.out];omega);generalize Cs.num body 0=y at *;have c3d:W1.drew.cell? ⟨bx,3,none⟩=some (.slice (some ⟨gb,ob,none⟩) 3 kb):=c3;have cxd:W1.drew.cell? ⟨gb,ob+2,none⟩=some (.int .u8 (x:Int)):=cx;have cc:∀ w2,Ext W1.drew w2->w2.cell? ⟨bx,3,none⟩=some (.slice (some ⟨gb,ob,none⟩) 3 kb)/\w2.cell? ⟨gb,ob+2,none⟩=some (.int .u8 (x:Int)):=λw2 he2=>⟨he2.cell c3d,he2.cell cxd⟩;have kt:∀ w2,Ext W1.drew w2->Calls Tryz.prog 92 #[.pointer (some ⟨g,0,none⟩),.int .i64 5,.int .i64 (y:Int),.int .i64 (x:Int)] w2 λe w'=>e = .returned (.tuple #[])/\zaf nm g wb own d v w' (d.doAway id body):=λw2 he2=>(zgq H1 (S1d.ext he2) F1 5 y x).mono (by
    rintro e w' ⟨rfl,hL⟩;refine⟨rfl,?_⟩;rw[HR];exact(zaf.trans (own:=lift own (.obj bx (frO kind flags id (.slice (some ⟨gb,ob,none⟩) 3 kb)))) (d:=d) (v:=v) hL E1 rfl (λ_=>rfl) (λ_ hn=>⟨rfl,hn⟩)).unlift)
   have CC:=hide cc;have KT:=hide kt;clear cc kt S1 S1d H1 S0 H0 HR c3d cxd E1
   go_enter Tryz.func99,Tryz.ntmps99
   go_wp2_with fail
   go_region_with (first | (go_at_call 91;refine k2.mono ?_;rintro e w2 ⟨rfl,he2⟩;obtain⟨g3,gx⟩:=CC.out w2 he2) | (go_at_call 92;refine(KT.out w2 he2).mono ?_;rintro e w3 ⟨rfl,hL⟩))
   all_goals
    go_wp2
    go_end0
    exact⟨rfl,hL⟩
  ·have HR:d.doAway id body=d.fail 3:=by unfold Ds.doAway;rw[HN.out,if_neg (by rw[HZ.out];simp),if_pos h2]
   have h2':((n:Int) != 3)=true:=by simp;omega
   have kx:=zaq H0 S0 (hf.mono (by omega)) 3
   go_enter Tryz.func99,Tryz.ntmps99
   go_wp2_with fail
   refine kx.mono ?_;rintro e w3 ⟨rfl,hL⟩;have HL:=hide (show zaf nm g wb own d v w3 (d.doAway id body) from by rw[HR];exact hL.unlift);clear hL HR
   go_wp2
   go_end0
   exact⟨rfl,HL.out⟩
 ·have HR:d.doAway id body=d.fail 1:=by unfold Ds.doAway;rw[if_pos h0]
  have h0':((id:Int) != 0)=true:=by simp;omega
  have kx:=zaq H0 S0 (hf.mono (by omega)) 1
  go_enter Tryz.func99,Tryz.ntmps99
  go_wp2_with fail
  refine kx.mono ?_;rintro e w3 ⟨rfl,hL⟩;have HL:=hide (show zaf nm g wb own d v w3 (d.doAway id body) from by rw[HR];exact hL.unlift);clear hL HR
  go_wp2
  go_end0
  exact⟨rfl,HL.out⟩
end
theorem zzbbn(d:Ds)(s:DS):(d.drop s).failed=d.failed:=by
 unfold Ds.drop;dsimp only;split
 ·show ((d.setS s.id _).place _).failed=_
  rw[zkn];rfl
 ·rw[zkn];rfl
theorem zzblb(d:Ds)(s:DS):∃ t,(d.drop s).str s.id=some t/\t.id=s.id:=by
 unfold Ds.drop;dsimp only;split
 ·exact⟨_,zdt _ _ _,rfl⟩
 ·refine⟨{ s with block:=[],data:=[] },?_,rfl⟩;rw[zpe];exact zdt _ _ _
theorem Ds.Fits.drop{d:Ds}{m:Nat}(h:d.Fits (m+3)){s:DS}(fs:s.Fits):(d.drop s).Fits m:=by
 have h1:(d.setS s.id { s with block:=[],data:=[] }).Fits (m+3):=h.setS _ _ fs.clear;have h2:=h1.place (m:=m+2) { s with block:=[],data:=[] };have q:=fs.to1;have q0:=fs.to0;unfold Ds.drop;dsimp only;split
 ·exact(h2.setS s.id _ fs.clear.clearU).give0 _ (by omega)
 ·exact h2.mono (by omega)
section
variable {N:Type} {own:N->Res} {nm:DN->N} {g:Nat} {d:Ds} {v:DV} {wb w:World}
set_option maxHeartbeats 6400000 in
theorem zxv(h:zaa own nm g d v)(hs:Sep wb w own)(hf:d.Fits 6)(kind flags id:Nat)(vb:Value)(body:Bytes)(hb:∀ u,v.rp.ok u->zae u vb body)(hbl:body.length<=64)(hid:id<=65535) :
  Calls Tryz.prog 96 #[.pointer (some ⟨g,0,none⟩),frV kind flags id vb] w λe w'=>e = .returned (.tuple #[])/\zaf nm g wb own d v w' (d.doReset id body):=by
 have h1:-9223372036854775808<=(id:Int):=by omega
 have h2:(id:Int)<=9223372036854775807:=by omega
 obtain⟨ab,kb,hvb,hkb1,hkb2,-⟩:=hb w (hs.get (h.res .inn));obtain⟨n,hnl⟩:∃ n,body.length=n:=⟨_,rfl⟩;rw[hnl] at hvb hkb1 hbl;subst hvb;have HN:=hide hnl;have S0:=hs.liftObj (frO kind flags id (.slice ab n kb));have H0:=h.lift (.obj w.heap.size (frO kind flags id (.slice ab n kb)));obtain⟨W0,hW0⟩:∃ W0,w.alloc (frO kind flags id (.slice ab n kb))=W0:=⟨_,rfl⟩;rw[hW0] at S0;have hW0':w.alloc (.cells #[.int .i64 (kind:Int),.int .i64 (flags:Int),.int .i64 (id:Int),.slice ab n kb] 111)=W0:=hW0;obtain⟨bx,hbx⟩:∃ bx,w.heap.size=bx:=⟨_,rfl⟩;rw[hbx] at S0 H0;have b0:W0.cell? ⟨bx,0,none⟩=some (.int .i64 (kind:Int)):=S0.cell (n:=none) rfl 0;have b1:W0.cell? ⟨bx,1,none⟩=some (.int .i64 (flags:Int)):=S0.cell (n:=none) rfl 1;have b2:W0.cell? ⟨bx,2,none⟩=some (.int .i64 (id:Int)):=S0.cell (n:=none) rfl 2;have b3:W0.cell? ⟨bx,3,none⟩=some (.slice ab n kb):=S0.cell (n:=none) rfl 3;unfold frV;clear hnl hW0;cases hr:d.real id with
 | none =>
  obtain⟨z,hz,hz2⟩:=zkg d id;have efind:=zhq hr;rw[hz] at efind;obtain⟨W1,hW1⟩:∃ W1,W0.alloc (.cells (zcl z) 94)=W1:=⟨_,rfl⟩;have kf:=zdx H0 S0 h1 h2 hr hz hW1;have S1:=S0.liftObj (.cells (zcl z) 94);rw[hW1] at S1;have H1:=H0.lift (.obj W0.heap.size (.cells (zcl z) 94));have zz:W1.cell? ⟨W0.heap.size,2,none⟩=some (.int .i64 (z:Int)):=S1.cell (n:=none) rfl 2;have d3:W1.cell? ⟨bx,3,none⟩=some (.slice ab n kb):=S1.cell (n:=some none) rfl 3;clear hW1;rcases hz2 with rfl | rfl
  ·have HR:d.doReset id body=d.fail 1:=by unfold Ds.doReset;rw[efind];rfl
   have kx:=zaq H1 S1 (hf.mono (by omega)) 1;clear hr hz efind
   go_enter Tryz.func96,Tryz.ntmps96
   go_wp2_with fail
   refine kf.mono ?_;rintro e w2 ⟨rfl,hw⟩;replace hw:=hw.symm;subst hw
   go_wp2_with fail
   refine kx.mono ?_;rintro e w3 ⟨rfl,hL⟩;have HL:=hide (show zaf nm g wb own d v w3 (d.doReset id body) from by rw[HR];exact hL.unlift.unlift);clear hL HR
   go_wp2
   go_end0
   exact⟨rfl,HL.out⟩
  ·by_cases hn1:n=1
   ·have HR:d.doReset id body=d:=by unfold Ds.doReset;rw[efind,HN.out];dsimp only;rw[if_neg (by simp),if_neg (by simp[hn1]),if_neg (by simp[zan]),if_pos (by simp)]
    have kt:=zix 8 (by omega) W1;have h1b:((n:Int) != 1)=false:=by simp;omega
    clear hr hz efind hn1
    go_enter Tryz.func96,Tryz.ntmps96
    go_wp2_with fail
    refine kf.mono ?_;rintro e w2 ⟨rfl,hw⟩;replace hw:=hw.symm;subst hw
    go_wp2_with fail
    refine kt.mono ?_;rintro e w2 ⟨rfl,hw⟩;replace hw:=hw.symm;subst hw;have HL:=hide (show zaf nm g wb own d v W1 (d.doReset id body) from by rw[HR];exact(H1.left S1).unlift.unlift);clear HR
    go_wp2
    go_end0
    exact⟨rfl,HL.out⟩
   ·have HR:d.doReset id body=d.fail 3:=by unfold Ds.doReset;rw[efind,HN.out];dsimp only;rw[if_neg (by simp),if_pos hn1]
    have kx:=zaq H1 S1 (hf.mono (by omega)) 3;have h1b:((n:Int) != 1)=true:=by simp;omega
    clear hr hz efind hn1
    go_enter Tryz.func96,Tryz.ntmps96
    go_wp2_with fail
    refine kf.mono ?_;rintro e w2 ⟨rfl,hw⟩;replace hw:=hw.symm;subst hw
    go_wp2_with fail
    refine kx.mono ?_;rintro e w3 ⟨rfl,hL⟩;have HL:=hide (show zaf nm g wb own d v w3 (d.doReset id body) from by rw[HR];exact hL.unlift.unlift);clear hL HR
    go_wp2
    go_end0
    exact⟨rfl,HL.out⟩
 | some s =>
  have hst:=zhi h hr;have fs:=hf.st _ _ hst;have efind:=zfe hr;have kf:=zer H0 S0 h1 h2 hr;have f2:W0.cell? ⟨v.ptr s.id,2,none⟩=some (.int .i64 (s.state:Int)):=H0.s2 S0 hst;by_cases hz:s.state=0
  ·have HR:d.doReset id body=d.fail 1:=by unfold Ds.doReset;rw[efind];dsimp only;rw[if_pos hz]
   have kx:=zaq H0 S0 (hf.mono (by omega)) 1;rw[hz] at f2;clear hr efind
   go_enter Tryz.func96,Tryz.ntmps96
   go_wp2_with fail
   refine kf.mono ?_;rintro e w2 ⟨rfl,hw⟩;replace hw:=hw.symm;subst hw
   go_wp2_with fail
   refine kx.mono ?_;rintro e w3 ⟨rfl,hL⟩;have HL:=hide (show zaf nm g wb own d v w3 (d.doReset id body) from by rw[HR];exact hL.unlift);clear hL HR
   go_wp2
   go_end0
   exact⟨rfl,HL.out⟩
  have hzb:((s.state:Int) == 0)=false:=by simp;omega
  by_cases hn1:n=1
  ·have h1b:((n:Int) != 1)=false:=by simp;omega
   have HN1:=hide hn1;have kt:=zix s.state fs.state W0;cases htl:zan s.state with
   | true =>
    have HR:d.doReset id body=d.move s 7:=by unfold Ds.doReset;rw[efind,HN.out];dsimp only;rw[if_neg hz,if_neg (by simp[hn1]),if_pos htl]
    rw[htl] at kt;have kx:=zcp H0 S0 (hf.mono (by omega)) hst 7 (by omega);clear hr efind hn1
    go_enter Tryz.func96,Tryz.ntmps96
    go_wp2_with fail
    refine kf.mono ?_;rintro e w2 ⟨rfl,hw⟩;replace hw:=hw.symm;subst hw
    go_wp2_with fail
    refine kt.mono ?_;rintro e w2 ⟨rfl,hw⟩;replace hw:=hw.symm;subst hw
    go_wp2_with fail
    refine kx.mono ?_;rintro e w3 ⟨rfl,hL⟩;have HL:=hide (show zaf nm g wb own d v w3 (d.doReset id body) from by rw[HR];exact hL.unlift);clear hL HR
    go_wp2
    go_end0
    exact⟨rfl,HL.out⟩
   | false =>
    rw[htl] at kt;by_cases h48:s.state=4\/s.state=8
    ·have HR:d.doReset id body=d:=by unfold Ds.doReset;rw[efind,HN.out];dsimp only;rw[if_neg hz,if_neg (by simp[hn1]),if_neg (by rw[htl];simp),if_pos h48]
     rcases h48 with h4|h8
     ·have h4b:((s.state:Int) != 4)=false:=by simp;omega
      clear hr efind hn1 h4
      go_enter Tryz.func96,Tryz.ntmps96
      go_wp2_with fail
      refine kf.mono ?_;rintro e w2 ⟨rfl,hw⟩;replace hw:=hw.symm;subst hw
      go_wp2_with fail
      refine kt.mono ?_;rintro e w2 ⟨rfl,hw⟩;replace hw:=hw.symm;subst hw;have HL:=hide (show zaf nm g wb own d v W0 (d.doReset id body) from by rw[HR];exact(H0.left S0).unlift);clear HR
      go_wp2
      go_end0
      exact⟨rfl,HL.out⟩
     ·have h4b:((s.state:Int) != 4)=true:=by simp;omega
      have h8b:((s.state:Int) != 8)=false:=by simp;omega
      clear hr efind hn1 h8
      go_enter Tryz.func96,Tryz.ntmps96
      go_wp2_with fail
      refine kf.mono ?_;rintro e w2 ⟨rfl,hw⟩;replace hw:=hw.symm;subst hw
      go_wp2_with fail
      refine kt.mono ?_;rintro e w2 ⟨rfl,hw⟩;replace hw:=hw.symm;subst hw;have HL:=hide (show zaf nm g wb own d v W0 (d.doReset id body) from by rw[HR];exact(H0.left S0).unlift);clear HR
      go_wp2
      go_end0
      exact⟨rfl,HL.out⟩
    ·have h4b:((s.state:Int) != 4)=true:=by simp;omega
     have h8b:((s.state:Int) != 8)=true:=by simp;omega
     obtain⟨gb,ob,rfl⟩:=zne (hb W0 (S0.get (H0.res .inn))) (by rw[HN.out];omega);obtain⟨x,hx⟩:∃ x,(body.getD 0 0).toNat=x:=⟨_,rfl⟩;have hx2:x<=255:=by rw[<-hx];have:=(body.getD 0 0).toNat_lt;omega
     have hwx:IntKind.i64.wrap (x:Int)=(x:Int):=zhh _ (by omega) (by omega);have HX:=hide hx;have HR:d.doReset id body=((d.move s 8).drop (Ds.moved s 8)).tell 3 s.id x:=by unfold Ds.doReset;rw[efind,HN.out,hx];dsimp only;rw[if_neg hz,if_neg (by simp[hn1]),if_neg (by rw[htl];simp),if_neg h48]
     have km:=zcp H0 S0 (hf.mono (by omega)) hst 8 (by omega);have FM:(d.move s 8).Fits 5:=Ds.Fits.move (m:=5) hf fs (by omega);have NM:(d.move s 8).str s.id=some (Ds.moved s 8):=zse d s 8;have FD:((d.move s 8).drop (Ds.moved s 8)).Fits 2:=Ds.Fits.drop (m:=2) FM (fs.moved (by omega));obtain⟨t,ht,hti⟩:=zzblb (d.move s 8) (Ds.moved s 8);have hfm:(d.move s 8).failed=d.failed:=zma d s 8;have hfd:((d.move s 8).drop (Ds.moved s 8)).failed=d.failed:=(zzbbn _ _).trans hfm;have HFM:=hide hfm;have HFD:=hide hfd;clear hr efind hn1 h48 hx hfm hfd
     go_enter Tryz.func96,Tryz.ntmps96
     go_wp2_with fail
     refine kf.mono ?_;rintro e w2 ⟨rfl,hw⟩;replace hw:=hw.symm;subst hw
     go_wp2_with fail
     refine kt.mono ?_;rintro e w2 ⟨rfl,hw⟩;replace hw:=hw.symm;subst hw
     go_wp2_with fail
     refine km.mono ?_;rintro e w2 ⟨rfl,own2,v2,S2,H2,E2,r2,i2,p2⟩;have hp:=(p2 s.id (by rw[hst];rfl)).1;have kd:=zzbej (s:=Ds.moved s 8) H2 S2 (FM.mono (by omega)) NM;rw[show v2.ptr (Ds.moved s 8).id=v.ptr s.id from hp] at kd;clear S2 H2
     go_wp2_with fail
     refine kd.mono ?_;rintro e w3 ⟨rfl,own3,v3,S3,H3,E3,r3,i3,p3⟩;have hp3:v3.ptr s.id=v.ptr s.id:=((p3 s.id (by rw[NM];rfl)).1).trans hp;have E23:=E2.trans E3;have hbox:=E23.kept;have c3:w3.cell? ⟨bx,3,none⟩=some (.slice (some ⟨gb,ob,none⟩) n kb):=S3.cell hbox 3;have g0:=H3.s0 S3 (n:=s.id) ht;rw[hp3,hti] at g0;have g0':w3.cell? ⟨v.ptr s.id,0,none⟩=some (.int .i64 (s.id:Int)):=g0;have S3d:=S3.ext (Ext.refl w3).drew;have cx:=ziq (hb w3 (by have:=S3.get (H3.res .inn);rw[show zao g _ v3 .inn=v3.rp from rfl,r3,r2] at this;exact this)) 0 (by rw[HN.out,HN1.out];omega);rw[HX.out,Nat.add_zero] at cx;have hn1':(0:Int)<(n:Int):=by have:=HN1.out;omega
     have kt3:=zgq H3 S3d (FD.mono (by omega)) 3 s.id x;have HKL:=hide (λw4 (hL:zaf (λx=>some (nm x)) g wb own3 ((d.move s 8).drop (Ds.moved s 8)) v3 w4 (((d.move s 8).drop (Ds.moved s 8)).tell 3 s.id x))=>(show zaf nm g wb own d v w4 (d.doReset id body) from by
      rw[HR];exact(hL.trans (own:=lift own (.obj bx (frO kind flags id (.slice (some ⟨gb,ob,none⟩) n kb)))) (d:=d) (v:=v) E23 (r3.trans r2) (λhx=>(i3 hx).trans (i2 (by rw[HFM.out,<-HFD.out];exact hx))) (λk hk=>⟨(p3 k (p2 k hk).2).1.trans (p2 k hk).1,(p3 k (p2 k hk).2).2⟩)).unlift))
     clear S3 H3 g0 hbox E23 HR
     go_wp2_with fail
     go_region_with (go_at_call 92;refine kt3.mono ?_;rintro e w4 ⟨rfl,hL⟩)
     all_goals
      have HL:=hide (HKL.out w4 hL);clear hL
      go_wp2
      go_end0
      exact⟨rfl,HL.out⟩
  ·have HR:d.doReset id body=d.fail 3:=by unfold Ds.doReset;rw[efind,HN.out];dsimp only;rw[if_neg hz,if_pos hn1]
   have kx:=zaq H0 S0 (hf.mono (by omega)) 3;have h1b:((n:Int) != 1)=true:=by simp;omega
   clear hr efind hn1
   go_enter Tryz.func96,Tryz.ntmps96
   go_wp2_with fail
   refine kf.mono ?_;rintro e w2 ⟨rfl,hw⟩;replace hw:=hw.symm;subst hw
   go_wp2_with fail
   refine kx.mono ?_;rintro e w3 ⟨rfl,hL⟩;have HL:=hide (show zaf nm g wb own d v w3 (d.doReset id body) from by rw[HR];exact hL.unlift);clear hL HR
   go_wp2
   go_end0
   exact⟨rfl,HL.out⟩
end
end Go.Proofs.YtoijpogadkogcaaGreat
