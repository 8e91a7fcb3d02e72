import Derived.Test.YtoijpogadkogcaaGreatQj
namespace Go.Proofs.YtoijpogadkogcaaGreat
open Go.RowKit
set_option maxRecDepth 100000
theorem zzb(b:Bytes):Cs.num b 0<=65535:=by
 unfold Cs.num
 have:=(b.getD 0 0).toNat_lt
 have:=(b.getD (0+1) 0).toNat_lt
 omega
section
variable {N:Type} {own:N->Res} {nm:DN->N} {g:Nat} {d:Ds} {v:DV} {wb w:World}
set_option maxHeartbeats 6400000 in
theorem zvm(h:zaa own nm g d v)(hs:Sep wb w own)(hf:d.Fits 4)(kind flags id:Nat)(vb:Value)(body:Bytes)(hb:∀ u,v.rp.ok u->zae u vb body)(hid:id<=65535) :
  Calls Tryz.prog 100 #[.pointer (some ⟨g,0,none⟩),frV kind flags id vb] w λe w'=>e = .returned (.tuple #[])/\zaf nm g wb own d v w' (d.doWindow id body):=by
 have h1:-9223372036854775808<=(id:Int):=by omega
 have h2:(id:Int)<=9223372036854775807:=by omega
 obtain⟨ab,kb,hvb,hkb1,hkb2,-⟩:=hb w (hs.get (h.res .inn));obtain⟨n,hnl⟩:∃ n,body.length=n:=⟨_,rfl⟩;rw[hnl] at hvb hkb1;subst hvb;have HN:=hide hnl;have S0:=hs.liftObj (frO kind flags id (.slice ab n kb));have H0:=h.lift (.obj w.heap.size (frO kind flags id (.slice ab n kb)));obtain⟨W0,hW0⟩:∃ W0,w.alloc (frO kind flags id (.slice ab n kb))=W0:=⟨_,rfl⟩;rw[hW0] at S0;have hW0':w.alloc (.cells #[.int .i64 (kind:Int),.int .i64 (flags:Int),.int .i64 (id:Int),.slice ab n kb] 111)=W0:=hW0;obtain⟨bx,hbx⟩:∃ bx,w.heap.size=bx:=⟨_,rfl⟩;rw[hbx] at S0 H0;have b0:W0.cell? ⟨bx,0,none⟩=some (.int .i64 (kind:Int)):=S0.cell (n:=none) rfl 0;have b1:W0.cell? ⟨bx,1,none⟩=some (.int .i64 (flags:Int)):=S0.cell (n:=none) rfl 1;have b2:W0.cell? ⟨bx,2,none⟩=some (.int .i64 (id:Int)):=S0.cell (n:=none) rfl 2;have b3:W0.cell? ⟨bx,3,none⟩=some (.slice ab n kb):=S0.cell (n:=none) rfl 3;unfold frV;clear hnl hW0;cases hr:d.real id with
 | none =>
  obtain⟨z,hz,hz2⟩:=zkg d id;have efind:=zhq hr;rw[hz] at efind;obtain⟨W1,hW1⟩:∃ W1,W0.alloc (.cells (zcl z) 94)=W1:=⟨_,rfl⟩;have kf:=zdx H0 S0 h1 h2 hr hz hW1;have S1:=S0.liftObj (.cells (zcl z) 94);rw[hW1] at S1;have H1:=H0.lift (.obj W0.heap.size (.cells (zcl z) 94));have zz:W1.cell? ⟨W0.heap.size,2,none⟩=some (.int .i64 (z:Int)):=S1.cell (n:=none) rfl 2;have d2:W1.cell? ⟨bx,2,none⟩=some (.int .i64 (id:Int)):=S1.cell (n:=some none) rfl 2;have d3:W1.cell? ⟨bx,3,none⟩=some (.slice ab n kb):=S1.cell (n:=some none) rfl 3;clear hW1;rcases hz2 with rfl | rfl
  ·by_cases hi0:id=0
   ·have hi0b:((id:Int) != 0)=false:=by simp;omega
    have hi0c:((id:Int) == 0)=true:=by simp;omega
    have HZ:=hide hi0;clear hi0;by_cases hn2:n=2
    ·have h2b:((n:Int) != 2)=false:=by simp;omega
     have HN2:=hide hn2;by_cases hy0:Cs.num body 0=0
     ·have HR:d.doWindow id body=d.fail 1:=by unfold Ds.doWindow;rw[efind,HN.out];dsimp only;rw[if_neg (by simp[HZ.out]),if_neg (by simp[hn2]),if_pos hy0]
      have k2:=zde W1 _ body (hb W1 (S1.get (H1.res .inn))) (by rw[HN.out];omega);rw[hy0] at k2;clear hr efind hn2
      go_enter Tryz.func100,Tryz.ntmps100
      go_wp2_with fail
      refine kf.mono ?_;rintro e w2 ⟨rfl,hw⟩;replace hw:=hw.symm;subst hw
      go_wp2_with fail
      refine k2.mono ?_;rintro e w4 ⟨rfl,he4⟩;have kx:=zaq H1 (S1.ext he4) (hf.mono (by omega)) 1
      go_wp2_with fail
      refine kx.mono ?_;rintro e w3 ⟨rfl,hL⟩;have HL:=hide (show zaf nm g wb own d v w3 (d.doWindow id body) from by rw[HR];exact hL.unlift.unlift);clear hL HR
      go_wp2
      go_end0
      exact⟨rfl,HL.out⟩
     ·have k2:=zde W1 _ body (hb W1 (S1.get (H1.res .inn))) (by rw[HN.out];omega);have hyle:=zzb body;obtain⟨y,hy⟩:∃ y,Cs.num body 0=y:=⟨_,rfl⟩;have hy0b:((y:Int) == 0)=false:=by simp;omega
      have HR:d.doWindow id body=(if 1000<d.from_+y then d.fail 2 else { d with from_:=d.from_+y }):=by unfold Ds.doWindow;rw[efind,HN.out];dsimp only;rw[hy];rw[if_neg (by simp[HZ.out]),if_neg (by simp[hn2]),if_neg (by omega),if_pos HZ.out]
      rw[hy] at k2 hyle;have HY:=hide hy;clear hr efind hy hy0 hn2
      go_enter Tryz.func100,Tryz.ntmps100
      go_wp2_with fail
      refine kf.mono ?_;rintro e w2 ⟨rfl,hw⟩;replace hw:=hw.symm;subst hw
      go_wp2_with fail
      refine k2.mono ?_;rintro e w4 ⟨rfl,he4⟩;have S4:=S1.ext he4;have c3:=he4.cell d3;have c2:=he4.cell d2
      go_wp2_with fail
      have S4d:=S4.ext (Ext.refl w4).drew;have k5:=zde w4.drew _ body (hb w4.drew (S4d.get (H1.res .inn))) (by rw[HN.out,HN2.out];omega);rw[HY.out] at k5;have KW:=hide (λw5 (he:Ext w4.drew w5)=>zyw H1 (S4d.ext he) (hf.mono (by omega)) y hyle);clear S4 S4d
      go_region_with (first | (go_at_call 91;refine k5.mono ?_;rintro e w5 ⟨rfl,he5⟩) | (go_at_call 140;refine(KW.out w5 he5).mono ?_;rintro e w6 ⟨rfl,hL⟩))
      all_goals
       have HL:=hide (show zaf nm g wb own d v w6 (d.doWindow id body) from by rw[HR];exact hL.unlift.unlift);clear hL HR
       go_wp2
       go_end0
       exact⟨rfl,HL.out⟩
    ·have HR:d.doWindow id body=d.fail 3:=by unfold Ds.doWindow;rw[efind,HN.out];dsimp only;rw[if_neg (by simp[HZ.out]),if_pos hn2]
     have kx:=zaq H1 S1 (hf.mono (by omega)) 3;have h2b:((n:Int) != 2)=true:=by simp;omega
     clear hr efind hn2
     go_enter Tryz.func100,Tryz.ntmps100
     go_wp2_with fail
     refine kf.mono ?_;rintro e w2 ⟨rfl,hw⟩;replace hw:=hw.symm;subst hw
     go_wp2_with fail
     refine kx.mono ?_;rintro e w3 ⟨rfl,hL⟩;have HL:=hide (show zaf nm g wb own d v w3 (d.doWindow id body) from by rw[HR];exact hL.unlift.unlift);clear hL HR
     go_wp2
     go_end0
     exact⟨rfl,HL.out⟩
   ·have hi0b:((id:Int) != 0)=true:=by simp;omega
    have HR:d.doWindow id body=d.fail 1:=by unfold Ds.doWindow;rw[efind];dsimp only;rw[if_pos ⟨hi0,rfl⟩]
    have kx:=zaq H1 S1 (hf.mono (by omega)) 1;clear hr hz efind
    go_enter Tryz.func100,Tryz.ntmps100
    go_wp2_with fail
    refine kf.mono ?_;rintro e w2 ⟨rfl,hw⟩;replace hw:=hw.symm;subst hw
    go_wp2_with fail
    refine kx.mono ?_;rintro e w3 ⟨rfl,hL⟩;have HL:=hide (show zaf nm g wb own d v w3 (d.doWindow id body) from by rw[HR];exact hL.unlift.unlift);clear hL HR
    go_wp2
    go_end0
    exact⟨rfl,HL.out⟩
  ·have hi0:id≠0:=λe=>by
    subst e
    have:d.known ((0:Nat):Int)=false:=by unfold Ds.known Ds.side;rfl
    rw[this] at hz;simp at hz
   have hi0b:((id:Int) != 0)=true:=by simp;omega
   have hi0c:((id:Int) == 0)=false:=by simp;omega
   by_cases hn2:n=2
   ·have h2b:((n:Int) != 2)=false:=by simp;omega
    have HN2:=hide hn2;by_cases hy0:Cs.num body 0=0
    ·have HR:d.doWindow id body=d.fail 1:=by unfold Ds.doWindow;rw[efind,HN.out];dsimp only;rw[if_neg (by simp),if_neg (by simp[hn2]),if_pos hy0]
     have k2:=zde W1 _ body (hb W1 (S1.get (H1.res .inn))) (by rw[HN.out];omega);rw[hy0] at k2;clear hr efind hn2
     go_enter Tryz.func100,Tryz.ntmps100
     go_wp2_with fail
     refine kf.mono ?_;rintro e w2 ⟨rfl,hw⟩;replace hw:=hw.symm;subst hw
     go_wp2_with fail
     refine k2.mono ?_;rintro e w4 ⟨rfl,he4⟩;have kx:=zaq H1 (S1.ext he4) (hf.mono (by omega)) 1
     go_wp2_with fail
     refine kx.mono ?_;rintro e w3 ⟨rfl,hL⟩;have HL:=hide (show zaf nm g wb own d v w3 (d.doWindow id body) from by rw[HR];exact hL.unlift.unlift);clear hL HR
     go_wp2
     go_end0
     exact⟨rfl,HL.out⟩
    ·have k2:=zde W1 _ body (hb W1 (S1.get (H1.res .inn))) (by rw[HN.out];omega);have hyle:=zzb body;obtain⟨y,hy⟩:∃ y,Cs.num body 0=y:=⟨_,rfl⟩;have hy0b:((y:Int) == 0)=false:=by simp;omega
     have HR:d.doWindow id body=d:=by unfold Ds.doWindow;rw[efind,HN.out];dsimp only;rw[if_neg (by simp),if_neg (by simp[hn2]),if_neg hy0,if_neg hi0,if_neg (by simp[zaw])]
     rw[hy] at k2;clear hr efind hy hy0 hn2
     go_enter Tryz.func100,Tryz.ntmps100
     go_wp2_with fail
     refine kf.mono ?_;rintro e w2 ⟨rfl,hw⟩;replace hw:=hw.symm;subst hw
     go_wp2_with fail
     refine k2.mono ?_;rintro e w4 ⟨rfl,he4⟩;have c2:=he4.cell d2;have c3:=he4.cell d3;have zz4:=he4.cell zz;have ks:=ziw 8 (by omega) w4;have S4:=S1.ext he4
     go_wp2_with fail
     refine ks.mono ?_;rintro e w6 ⟨rfl,hw⟩;replace hw:=hw.symm;subst hw;have HL:=hide (show zaf nm g wb own d v w4 (d.doWindow id body) from by rw[HR];exact(H1.left S4).unlift.unlift);clear HR
     go_wp2
     go_end0
     exact⟨rfl,HL.out⟩
   ·have HR:d.doWindow id body=d.fail 3:=by unfold Ds.doWindow;rw[efind,HN.out];dsimp only;rw[if_neg (by simp),if_pos hn2]
    have kx:=zaq H1 S1 (hf.mono (by omega)) 3;have h2b:((n:Int) != 2)=true:=by simp;omega
    clear hr efind hn2
    go_enter Tryz.func100,Tryz.ntmps100
    go_wp2_with fail
    refine kf.mono ?_;rintro e w2 ⟨rfl,hw⟩;replace hw:=hw.symm;subst hw
    go_wp2_with fail
    refine kx.mono ?_;rintro e w3 ⟨rfl,hL⟩;have HL:=hide (show zaf nm g wb own d v w3 (d.doWindow id body) from by rw[HR];exact hL.unlift.unlift);clear hL HR
    go_wp2
    go_end0
    exact⟨rfl,HL.out⟩
 | some s =>
  have hst:=zhi h hr;have fs:=hf.st _ _ hst;have efind:=zfe hr;have kf:=zer H0 S0 h1 h2 hr;have f2:W0.cell? ⟨v.ptr s.id,2,none⟩=some (.int .i64 (s.state:Int)):=H0.s2 S0 hst;have hi0:id≠0:=λe=>by subst e;unfold Ds.real Ds.side at hr;simp at hr
  have hi0b:((id:Int) != 0)=true:=by simp;omega
  have hi0c:((id:Int) == 0)=false:=by simp;omega
  by_cases hz:s.state=0
  ·have HR:d.doWindow id body=d.fail 1:=by unfold Ds.doWindow;rw[efind];dsimp only;rw[if_pos ⟨hi0,hz⟩]
   have kx:=zaq H0 S0 (hf.mono (by omega)) 1;rw[hz] at f2;clear hr efind
   go_enter Tryz.func100,Tryz.ntmps100
   go_wp2_with fail
   refine kf.mono ?_;rintro e w2 ⟨rfl,hw⟩;replace hw:=hw.symm;subst hw
   go_wp2_with fail
   refine kx.mono ?_;rintro e w3 ⟨rfl,hL⟩;have HL:=hide (show zaf nm g wb own d v w3 (d.doWindow id body) from by rw[HR];exact hL.unlift);clear hL HR
   go_wp2
   go_end0
   exact⟨rfl,HL.out⟩
  have hzb:((s.state:Int) == 0)=false:=by simp;omega
  by_cases hn2:n=2
  ·have h2b:((n:Int) != 2)=false:=by simp;omega
   have HN2:=hide hn2;by_cases hy0:Cs.num body 0=0
   ·have HR:d.doWindow id body=d.fail 1:=by unfold Ds.doWindow;rw[efind,HN.out];dsimp only;rw[if_neg (by simp[hz]),if_neg (by simp[hn2]),if_pos hy0]
    have k2:=zde W0 _ body (hb W0 (S0.get (H0.res .inn))) (by rw[HN.out];omega);rw[hy0] at k2;clear hr efind hn2
    go_enter Tryz.func100,Tryz.ntmps100
    go_wp2_with fail
    refine kf.mono ?_;rintro e w2 ⟨rfl,hw⟩;replace hw:=hw.symm;subst hw
    go_wp2_with fail
    refine k2.mono ?_;rintro e w4 ⟨rfl,he4⟩;have kx:=zaq H0 (S0.ext he4) (hf.mono (by omega)) 1
    go_wp2_with fail
    refine kx.mono ?_;rintro e w3 ⟨rfl,hL⟩;have HL:=hide (show zaf nm g wb own d v w3 (d.doWindow id body) from by rw[HR];exact hL.unlift);clear hL HR
    go_wp2
    go_end0
    exact⟨rfl,HL.out⟩
   ·have k2:=zde W0 _ body (hb W0 (S0.get (H0.res .inn))) (by rw[HN.out];omega);have hyle:=zzb body;obtain⟨y,hy⟩:∃ y,Cs.num body 0=y:=⟨_,rfl⟩;have hy0b:((y:Int) == 0)=false:=by simp;omega
    cases hsd:zaw s.state with
    | true =>
     have HR:d.doWindow id body=(if 1000<s.from_+y then d.fail 2 else d.setS s.id { s with from_:=s.from_+y }):=by unfold Ds.doWindow;rw[efind,HN.out];dsimp only;rw[hy];rw[if_neg (by simp[hz]),if_neg (by simp[hn2]),if_neg (by omega),if_neg hi0,if_pos hsd]
     rw[hy] at k2 hyle;have HY:=hide hy;clear hr efind hy hy0 hn2
     go_enter Tryz.func100,Tryz.ntmps100
     go_wp2_with fail
     refine kf.mono ?_;rintro e w2 ⟨rfl,hw⟩;replace hw:=hw.symm;subst hw
     go_wp2_with fail
     refine k2.mono ?_;rintro e w4 ⟨rfl,he4⟩;have S4:=S0.ext he4;have c3:=he4.cell b3;have c2:=he4.cell b2;have f4:=he4.cell f2;have ks:=ziw s.state fs.state w4;rw[hsd] at ks
     go_wp2_with fail
     refine ks.mono ?_;rintro e w7 ⟨rfl,hw⟩;replace hw:=hw.symm;subst hw
     go_wp2_with fail
     have S4d:=S4.ext (Ext.refl w4).drew;have k5:=zde w4.drew _ body (hb w4.drew (S4d.get (H0.res .inn))) (by rw[HN.out,HN2.out];omega);rw[HY.out] at k5;have KW:=hide (λw5 (he:Ext w4.drew w5)=>zyx H0 (S4d.ext he) (hf.mono (by omega)) hst y hyle);clear S4 S4d
     go_region_with (first | (go_at_call 91;refine k5.mono ?_;rintro e w5 ⟨rfl,he5⟩) | (go_at_call 140;refine(KW.out w5 he5).mono ?_;rintro e w6 ⟨rfl,hL⟩))
     all_goals
      have HL:=hide (show zaf nm g wb own d v w6 (d.doWindow id body) from by rw[HR];exact hL.unlift);clear hL HR
      go_wp2
      go_end0
      exact⟨rfl,HL.out⟩
    | false =>
     have HR:d.doWindow id body=d:=by unfold Ds.doWindow;rw[efind,HN.out];dsimp only;rw[if_neg (by simp[hz]),if_neg (by simp[hn2]),if_neg hy0,if_neg hi0,if_neg (by rw[hsd];simp)]
     rw[hy] at k2;clear hr efind hy hy0 hn2
     go_enter Tryz.func100,Tryz.ntmps100
     go_wp2_with fail
     refine kf.mono ?_;rintro e w2 ⟨rfl,hw⟩;replace hw:=hw.symm;subst hw
     go_wp2_with fail
     refine k2.mono ?_;rintro e w4 ⟨rfl,he4⟩;have c2:=he4.cell b2;have c3:=he4.cell b3;have f4:=he4.cell f2;have ks:=ziw s.state fs.state w4;rw[hsd] at ks;have S4:=S0.ext he4
     go_wp2_with fail
     refine ks.mono ?_;rintro e w6 ⟨rfl,hw⟩;replace hw:=hw.symm;subst hw;have HL:=hide (show zaf nm g wb own d v w4 (d.doWindow id body) from by rw[HR];exact(H0.left S4).unlift);clear HR
     go_wp2
     go_end0
     exact⟨rfl,HL.out⟩
  ·have HR:d.doWindow id body=d.fail 3:=by unfold Ds.doWindow;rw[efind,HN.out];dsimp only;rw[if_neg (by simp[hz]),if_pos hn2]
   have kx:=zaq H0 S0 (hf.mono (by omega)) 3;have h2b:((n:Int) != 2)=true:=by simp;omega
   clear hr efind hn2
   go_enter Tryz.func100,Tryz.ntmps100
   go_wp2_with fail
   refine kf.mono ?_;rintro e w2 ⟨rfl,hw⟩;replace hw:=hw.symm;subst hw
   go_wp2_with fail
   refine kx.mono ?_;rintro e w3 ⟨rfl,hL⟩;have HL:=hide (show zaf nm g wb own d v w3 (d.doWindow id body) from by rw[HR];exact hL.unlift);clear hL HR
   go_wp2
   go_end0
   exact⟨rfl,HL.out⟩
end
end Go.Proofs.YtoijpogadkogcaaGreat
