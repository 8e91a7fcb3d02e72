import Derived.Test.YtoijpogadkogcaaGreatQo
namespace Go.Proofs.YtoijpogadkogcaaGreat
open Go.RowKit
set_option maxRecDepth 100000
section
variable {N:Type} {own:N->Res} {nm:DN->N} {g:Nat} {d:Ds} {v:DV} {wb w:World}
theorem zzbbo(d:Ds)(v:DV)(x:Nat):(zbc d v).setIfInBounds 6 (.int .i64 (x:Int))=zbc { d with tLast:=x } v:=rfl
theorem zaa.beginComing(h:zaa own nm g d v)(i:Nat)(e:Bool)(q:Nat) :
  zaa (upd (upd (upd own (nm .blk) (.obj q (.cells #[.int .i64 (i:Int),.bool e,.slice none 0 0] 158 (0,0)))) (nm .blkb) (.row 5 1 (.slice none 0 0) 0 [])) (nm .conn) (.obj g (.cells ((zbc d v).setIfInBounds 16 (.pointer (some ⟨q,0,none⟩))) 105 (0,0)))) nm g { d with coming:=some (i,e,[]) } { v with gb:=q,vK:=.slice none 0 0 }:=by
 refine⟨h.inj,λy => ?_,h.frl,h.mapM,h.mapT,⟨h.wf.ids,h.wf.rings⟩,h.nilB,h.nilH⟩;rw[zad h.inj,zad h.inj,zad h.inj,h.res];cases y<;>simp only[zao,reduceCtorEq,if_false,if_true]
 ·rfl
 ·rfl
set_option maxHeartbeats 6400000 in
theorem zze(h:zaa own nm g d v)(hs:Sep wb w own)(hf:d.Fits 6)(kind flags id:Nat)(vb:Value)(body:Bytes)(hb:∀ u,v.rp.ok u->zae u vb body)(hbl:body.length<=64)(hfl:flags<=255)(hid:id<=65535)(hst0:∀ n s,d.str n=some s->s.state≠0)(hnew:d.side id=some false->d.tLast<id->d.str id=none) :
  Calls Tryz.prog 94 #[.pointer (some ⟨g,0,none⟩),frV kind flags id vb] w λe w'=>e = .returned (.tuple #[])/\zaf nm g wb own d v w' (d.doOpen (flags%2 == 1) (flags/2%2 == 1) id body):=by
 obtain⟨ab,kb,hvb,hkb1,hkb2,-⟩:=hb w (hs.get (h.res .inn));obtain⟨n,hnl⟩:∃ n,body.length=n:=⟨_,rfl⟩;have hbl':=hbl;rw[hnl] at hvb hkb1 hbl;subst hvb;have HN:=hide hnl;have S0:=hs.liftObj (frO kind flags id (.slice ab n kb));have H0:=h.lift (.obj w.heap.size (frO kind flags id (.slice ab n kb)));obtain⟨W0,hW0⟩:∃ W0,w.alloc (frO kind flags id (.slice ab n kb))=W0:=⟨_,rfl⟩;rw[hW0] at S0;have hW0':w.alloc (.cells #[.int .i64 (kind:Int),.int .i64 (flags:Int),.int .i64 (id:Int),.slice ab n kb] 111)=W0:=hW0;obtain⟨bx,hbx⟩:∃ bx,w.heap.size=bx:=⟨_,rfl⟩;rw[hbx] at S0 H0;have b0:W0.cell? ⟨bx,0,none⟩=some (.int .i64 (kind:Int)):=S0.cell (n:=none) rfl 0;have b1:W0.cell? ⟨bx,1,none⟩=some (.int .i64 (flags:Int)):=S0.cell (n:=none) rfl 1;have b2:W0.cell? ⟨bx,2,none⟩=some (.int .i64 (id:Int)):=S0.cell (n:=none) rfl 2;have b3:W0.cell? ⟨bx,3,none⟩=some (.slice ab n kb):=S0.cell (n:=none) rfl 3;unfold frV;clear hnl hW0;have h1:-9223372036854775808<=(id:Int):=by omega
 have h2:(id:Int)<=9223372036854775807:=by omega
 have S0d:=S0.ext (Ext.refl W0).drew;have ko:=zly g 5 d.ft id W0.drew (H0.c5 S0d) (ft_12 d);rw[zqx] at ko;by_cases hsd:d.side id=some false
 ·rw[decide_eq_true hsd] at ko;by_cases hlt:d.tLast<id
  ·have hkn:d.known id=false:=by unfold Ds.known;rw[hsd];exact decide_eq_false (by show ¬ (id:Int)<=(d.tLast:Int);omega)
   have hre:d.real id=none:=by unfold Ds.real;rw[hsd];exact if_neg (by show ¬ (id:Int)<=(d.tLast:Int);omega)
   obtain⟨W1,hW1⟩:∃ W1,W0.drew.alloc (.cells (zcl 0) 94)=W1:=⟨_,rfl⟩;have kf:=zdx H0 S0d h1 h2 hre (z:=0) (by rw[hkn];rfl) hW1;have HR:d.doOpen (flags%2 == 1) (flags/2%2 == 1) id body=({ d with tLast:=id }:Ds).takeHeaders id (flags%2 == 1) (flags/2%2 == 1) [] body:=by unfold Ds.doOpen;rw[if_pos ⟨hsd,hlt⟩]
   have S1:=S0d.ext ((Ext.refl W0.drew).alloc (.cells (zcl 0) 94));rw[hW1] at S1;have hze:W1.cell? ⟨W0.heap.size,2,none⟩=some (.int .i64 0):=(zmn W0.drew 0 hW1).2.1;have d1:W1.cell? ⟨bx,1,none⟩=some (.int .i64 (flags:Int)):=S1.cell (n:=none) rfl 1;have d0:W1.cell? ⟨bx,0,none⟩=some (.int .i64 (kind:Int)):=S1.cell (n:=none) rfl 0;have d2:W1.cell? ⟨bx,2,none⟩=some (.int .i64 (id:Int)):=S1.cell (n:=none) rfl 2;have d3:W1.cell? ⟨bx,3,none⟩=some (.slice ab n kb):=S1.cell (n:=none) rfl 3;have f6:=H0.c6 S1;have t6:=H0.thaw S1 6;have S2:=S1.setObj H0.conn 6 (.int .i64 (id:Int));rw[zzbbo] at S2;have H2:=zaa.scal (d':={ d with tLast:=id }) H0 rfl rfl rfl rfl rfl;have E2:zai (λx=>some (nm x)) (lift own (.obj bx (frO kind flags id (.slice ab n kb)))) _:=(zai.refl _ _).upd .conn (.obj g (.cells (zbc { d with tLast:=id } v) 105 (0,0)));obtain⟨W2,hW2⟩:∃ W2,W1.setCell ⟨g,6,none⟩ (.int .i64 (id:Int))=W2:=⟨_,rfl⟩;rw[hW2] at S2;have e0:W2.cell? ⟨bx,0,none⟩=some (.int .i64 (kind:Int)):=S2.cell E2.kept 0;have e1:W2.cell? ⟨bx,1,none⟩=some (.int .i64 (flags:Int)):=S2.cell E2.kept 1;have e2:W2.cell? ⟨bx,2,none⟩=some (.int .i64 (id:Int)):=S2.cell E2.kept 2;have e3:W2.cell? ⟨bx,3,none⟩=some (.slice ab n kb):=S2.cell E2.kept 3;have kh:=zip W2.drew kind flags id ab n kb hfl;have S2d:=S2.ext (Ext.refl W2).drew;have F2:Ds.Fits { d with tLast:=id,coming:=some (id,(flags%2 == 1),[]) } 6:=⟨hf.mLast,hid,hf.mMost,hf.tMost,hf.mCount0,hf.mCount1,hf.tCount0,hf.tCount1,hf.from0,hf.from1,hf.to0,hf.to1,hf.ctl,hf.ring,hf.ev,hf.inn,hf.pings,λi e b hc=>(by cases hc;exact⟨hid,by simp⟩),hf.bodies,hf.st⟩;have KA:Hid (∀ w3,Ext W2.drew w3 -> ∀ ob,(w3.alloc ob).cell? ⟨g,16,none⟩=some (zgo d v)/\(w3.alloc ob).frozen? ⟨g,16,none⟩=false):=λw3 he ob=>⟨H2.c16 ((S2d.ext he).ext ((Ext.refl w3).alloc ob)),H2.thaw ((S2d.ext he).ext ((Ext.refl w3).alloc ob)) 16⟩;have KC:Hid (∀ w3,Ext W2.drew w3->w3.cell? ⟨bx,2,none⟩=some (.int .i64 (id:Int))):=λw3 he=>(S2d.ext he).cell E2.kept 2;have KB:Hid (∀ w3,Ext W2.drew w3 -> ∃ own5,Sep wb ((w3.alloc (.cells #[.int .i64 (id:Int),.bool (flags%2 == 1),.slice none 0 0] 158)).setCell ⟨g,16,none⟩ (.pointer (some ⟨w3.heap.size,0,none⟩))) own5/\zaa own5 (λx=>some (nm x)) g { d with tLast:=id,coming:=some (id,(flags%2 == 1),[]) } { v with gb:=w3.heap.size,vK:=.slice none 0 0 }/\zai (λx=>some (nm x)) (lift own (.obj bx (frO kind flags id (.slice ab n kb)))) own5):=λw3 he=>by have s3:=((S2d.ext he).addObj (some (nm .blk)) (.cells #[.int .i64 (id:Int),.bool (flags%2 == 1),.slice none 0 0] 158)).nilRow (some (nm .blkb)) 5 1;have c3:=(zad H2.inj (upd _ (some (nm .blk)) (.obj w3.heap.size (.cells #[.int .i64 (id:Int),.bool (flags%2 == 1),.slice none 0 0] 158))) .blkb .conn (.row 5 1 (.slice none 0 0) 0 [])).trans ((if_neg (by simp)).trans ((zad H2.inj _ .blk .conn (.obj w3.heap.size (.cells #[.int .i64 (id:Int),.bool (flags%2 == 1),.slice none 0 0] 158))).trans ((if_neg (by simp)).trans H2.conn)));have s4:=s3.setObj c3 16 (.pointer (some ⟨w3.heap.size,0,none⟩));exact⟨_,s4,H2.beginComing id (flags%2 == 1) w3.heap.size,((E2.upd _ _).upd _ _).upd _ _⟩
   have hstn:=hnew hsd hlt;have HH:=hide (λw5 own5 vv (S5:Sep wb w5 own5) (H5:zaa own5 (λx=>some (nm x)) g { d with tLast:=id,coming:=some (id,(flags%2 == 1),[]) } { v with gb:=vv,vK:=.slice none 0 0 }) (E5:zai (λx=>some (nm x)) (lift own (.obj bx (frO kind flags id (.slice ab n kb)))) own5)=>(zjt H5 S5 F2 kind flags id (.slice ab n kb) body hb hbl' hfl id (flags%2 == 1) [] rfl (by simp) hstn hid).mono (R':=λe w'=>e = .returned (.tuple #[])/\zaf nm g wb own d v w' (d.doOpen (flags%2 == 1) (flags/2%2 == 1) id body)) (by
    rintro e w' ⟨rfl,hL⟩;refine⟨rfl,?_⟩;rw[HR];exact(zaf.trans (own:=lift own (.obj bx (frO kind flags id (.slice ab n kb)))) (d:=d) (v:=v) hL E5 rfl (λ_=>rfl) (λ_ hk=>⟨rfl,hk⟩)).unlift))
   clear hW1 S0 S0d S2 S2d H2 HR hb;generalize hfe:(flags%2 == 1)=fe at *
   go_enter Tryz.func94,Tryz.ntmps94
   go_wp2_with fail
   go_region_with (first | (go_at_call 81;refine ko.mono ?_;rintro e w1 ⟨rfl,hw⟩;replace hw:=hw.symm;subst hw) | (go_at_call 39;refine kf.mono ?_;rintro e w1 ⟨rfl,hw⟩;replace hw:=hw.symm;subst hw))
   all_goals
    go_wp2_with fail
    go_region_with (go_at_call 137;refine kh.mono ?_;rintro e w3 ⟨rfl,he3⟩;have x2:=KC.out w3 he3;have a16:=λob=>(KA.out w3 he3 ob).1;have t16:=λob=>(KA.out w3 he3 ob).2)
    all_goals
     obtain⟨own5,S5,H5,E5⟩:=KB.out w3 he3;obtain⟨gq,hgq⟩:∃ gq,w3.heap.size=gq:=⟨_,rfl⟩;rw[hgq] at S5 H5;obtain⟨W5,hW5⟩:∃ W5,(w3.alloc (.cells #[.int .i64 (id:Int),.bool fe,.slice none 0 0] 158)).setCell ⟨g,16,none⟩ (.pointer (some ⟨gq,0,none⟩))=W5:=⟨_,rfl⟩;rw[hW5] at S5;have kt:=HH.out W5 own5 gq S5 H5 E5;unfold frV at kt;have c0:W5.cell? ⟨bx,0,none⟩=some (.int .i64 (kind:Int)):=S5.cell E5.kept 0;have c1:W5.cell? ⟨bx,1,none⟩=some (.int .i64 (flags:Int)):=S5.cell E5.kept 1;have c2:W5.cell? ⟨bx,2,none⟩=some (.int .i64 (id:Int)):=S5.cell E5.kept 2;have c3:W5.cell? ⟨bx,3,none⟩=some (.slice ab n kb):=S5.cell E5.kept 3;rw[hgq,hW5];clear S5 H5 E5 KA KB KC HH hgq hW5 hW2 x2 a16 t16
     go_wp2_with fail
     refine kt.mono ?_;rintro e w6 ⟨rfl,hL⟩;have HL:=hide hL;clear hL kt
     go_wp2
     go_end0
     exact⟨rfl,HL.out⟩
  ·have HR:d.doOpen (flags%2 == 1) (flags/2%2 == 1) id body=d.fail 1:=by unfold Ds.doOpen;rw[if_neg (λe=>hlt e.2)]
   cases hr:d.real id with
   | none =>
    have hkn:d.known id=true:=by unfold Ds.known;rw[hsd];exact decide_eq_true (by show (id:Int)<=(d.tLast:Int);omega)
    obtain⟨W1,hW1⟩:∃ W1,W0.drew.alloc (.cells (zcl 8) 94)=W1:=⟨_,rfl⟩;have kf:=zdx H0 S0d h1 h2 hr (z:=8) (by rw[hkn];rfl) hW1;have hze:W1.cell? ⟨W0.heap.size,2,none⟩=some (.int .i64 8):=(zmn W0.drew 8 hW1).2.1;have S1:=S0d.ext ((Ext.refl W0.drew).alloc (.cells (zcl 8) 94));rw[hW1] at S1;have kx:=zaq H0 S1 (hf.mono (by omega)) 1;clear hW1 hr hkn
    go_enter Tryz.func94,Tryz.ntmps94
    go_wp2_with fail
    go_region_with (first | (go_at_call 81;refine ko.mono ?_;rintro e w1 ⟨rfl,hw⟩;replace hw:=hw.symm;subst hw) | (go_at_call 39;refine kf.mono ?_;rintro e w1 ⟨rfl,hw⟩;replace hw:=hw.symm;subst hw))
    all_goals
     go_wp2_with fail
     refine kx.mono ?_;rintro e w3 ⟨rfl,hL⟩;have HL:=hide (show zaf nm g wb own d v w3 (d.doOpen (flags%2 == 1) (flags/2%2 == 1) id body) from by rw[HR];exact hL.unlift);clear hL HR
     go_wp2
     refine bodyPost_ret (results_none rfl _ _ _) rfl ?_;exact⟨rfl,HL.out⟩
   | some s =>
    have hst:=zhi h hr;have kf:=zer H0 S0d h1 h2 hr;have f2:W0.cell? ⟨v.ptr s.id,2,none⟩=some (.int .i64 (s.state:Int)):=H0.s2 S0 hst;have hne:((s.state:Int) != 0)=true:=by have:=hst0 _ _ hst;simp;omega
    have kx:=zaq H0 S0d (hf.mono (by omega)) 1;clear hr hst
    go_enter Tryz.func94,Tryz.ntmps94
    go_wp2_with fail
    go_region_with (first | (go_at_call 81;refine ko.mono ?_;rintro e w1 ⟨rfl,hw⟩;replace hw:=hw.symm;subst hw) | (go_at_call 39;refine kf.mono ?_;rintro e w1 ⟨rfl,hw⟩;replace hw:=hw.symm;subst hw))
    all_goals
     go_wp2_with fail
     refine kx.mono ?_;rintro e w3 ⟨rfl,hL⟩;have HL:=hide (show zaf nm g wb own d v w3 (d.doOpen (flags%2 == 1) (flags/2%2 == 1) id body) from by rw[HR];exact hL.unlift);clear hL HR
     go_wp2
     refine bodyPost_ret (results_none rfl _ _ _) rfl ?_;exact⟨rfl,HL.out⟩
 ·rw[decide_eq_false hsd] at ko;have HR:d.doOpen (flags%2 == 1) (flags/2%2 == 1) id body=d.fail 1:=by unfold Ds.doOpen;rw[if_neg (λe=>hsd e.1)]
  have kx:=zaq H0 S0d (hf.mono (by omega)) 1
  go_enter Tryz.func94,Tryz.ntmps94
  go_wp2_with fail
  first | go_region_with (go_at_call 81;refine ko.mono ?_;rintro e w1 ⟨rfl,hw⟩;replace hw:=hw.symm;subst hw) | fail
  all_goals
   go_wp2_with fail
   refine kx.mono ?_;rintro e w3 ⟨rfl,hL⟩;have HL:=hide (show zaf nm g wb own d v w3 (d.doOpen (flags%2 == 1) (flags/2%2 == 1) id body) from by rw[HR];exact hL.unlift);clear hL HR
   go_wp2
   refine bodyPost_ret (results_none rfl _ _ _) rfl ?_;exact⟨rfl,HL.out⟩
end
end Go.Proofs.YtoijpogadkogcaaGreat
