import Derived.Test.YtoijpogadkogcaaGreatQp
import Derived.Test.YtoijpogadkogcaaGreatQk
import Derived.Test.YtoijpogadkogcaaGreatQl
namespace Go.Proofs.YtoijpogadkogcaaGreat
open Go.RowKit
set_option maxRecDepth 100000
section
variable {N:Type} {own:N->Res} {nm:DN->N} {g:Nat} {d:Ds} {v:DV} {wb w:World}
set_option maxHeartbeats 6400000 in
theorem zzbjl(h:zaa own nm g d v)(hs:Sep wb w own)(hf:d.Fits 6)(kind flags id:Nat)(vb:Value)(body:Bytes)(hb:∀ u,v.rp.ok u->zae u vb body)(hbl:body.length<=64)(hfl:flags<=255)(hid:id<=65535)(hst0:∀ n s,d.str n=some s->s.state≠0)(hnew:d.side id=some false->d.tLast<id->d.str id=none)(hcm:∀ i e b,d.coming=some (i,e,b)->d.str i=none/\b.length<=1000/\i<=65535) :
  Calls Tryz.prog 53 #[.pointer (some ⟨g,0,none⟩),frV kind flags id vb] w λe w'=>e = .returned (.tuple #[])/\zaf nm g wb own d v w' (d.done kind flags id body):=by
 obtain⟨ab,kb,hvb,hkb1,hkb2,-⟩:=hb w (hs.get (h.res .inn));obtain⟨n,hnl⟩:∃ n,body.length=n:=⟨_,rfl⟩;have hbl':=hbl;rw[hnl] at hvb hkb1 hbl;subst hvb;have HN:=hide hnl;have S0:=hs.liftObj (frO kind flags id (.slice ab n kb));have H0:=h.lift (.obj w.heap.size (frO kind flags id (.slice ab n kb)));obtain⟨W0,hW0⟩:∃ W0,w.alloc (frO kind flags id (.slice ab n kb))=W0:=⟨_,rfl⟩;rw[hW0] at S0;have hW0':w.alloc (.cells #[.int .i64 (kind:Int),.int .i64 (flags:Int),.int .i64 (id:Int),.slice ab n kb] 111)=W0:=hW0;obtain⟨bx,hbx⟩:∃ bx,w.heap.size=bx:=⟨_,rfl⟩;rw[hbx] at S0 H0;have b0:W0.cell? ⟨bx,0,none⟩=some (.int .i64 (kind:Int)):=S0.cell (n:=none) rfl 0;have b1:W0.cell? ⟨bx,1,none⟩=some (.int .i64 (flags:Int)):=S0.cell (n:=none) rfl 1;have b2:W0.cell? ⟨bx,2,none⟩=some (.int .i64 (id:Int)):=S0.cell (n:=none) rfl 2;have b3:W0.cell? ⟨bx,3,none⟩=some (.slice ab n kb):=S0.cell (n:=none) rfl 3;unfold frV;clear hnl hW0;have f16:=H0.c16 S0;have RS:∀ (w:World) (a:Addr) (m:Mode) (f:Fn),(store a (.func f #[] #[]) m).run Tryz.prog w=stored Tryz.prog w a (.func f #[] #[]) m:=λw a m f=>run_store _ w a _ m rfl;have l0:∀ ob,(W0.alloc ob).cell? ⟨bx,0,none⟩=some (.int .i64 (kind:Int)):=λob=>(S0.ext ((Ext.refl W0).alloc ob)).cell (n:=none) rfl 0;have l1:∀ ob,(W0.alloc ob).cell? ⟨bx,1,none⟩=some (.int .i64 (flags:Int)):=λob=>(S0.ext ((Ext.refl W0).alloc ob)).cell (n:=none) rfl 1;have l2:∀ ob,(W0.alloc ob).cell? ⟨bx,2,none⟩=some (.int .i64 (id:Int)):=λob=>(S0.ext ((Ext.refl W0).alloc ob)).cell (n:=none) rfl 2;have l3:∀ ob,(W0.alloc ob).cell? ⟨bx,3,none⟩=some (.slice ab n kb):=λob=>(S0.ext ((Ext.refl W0).alloc ob)).cell (n:=none) rfl 3;cases hco:d.coming with
 | none =>
  have hoff:d.off kind id=false:=by unfold Ds.off;rw[hco]
  simp only[zgo,hco] at f16;by_cases hk:kind<8
  ·have S5:=S0.ext ((Ext.refl W0).alloc (.cells #[.func (.func 93) #[] #[],.func (.func 94) #[] #[],.func (.func 95) #[] #[],.func (.func 96) #[] #[],.func (.func 97) #[] #[],.func (.func 98) #[] #[],.func (.func 99) #[] #[],.func (.func 100) #[] #[]] 160)).drew.drew;clear S0;have hk':kind=0\/kind=1\/kind=2\/kind=3\/kind=4\/kind=5\/kind=6\/kind=7:=by omega
   clear hk;rcases hk' with rfl | rfl | rfl | rfl | rfl | rfl | rfl | rfl
   ·have HR:d.done 0 flags id body=d.doData (flags%2 == 1) id body:=by unfold Ds.done;rw[hoff];rfl
    have kx:=(zyy H0 S5 (hf.mono (by omega)) 0 flags id (.slice ab n kb) body hb hbl' hfl hid).mono (R':=λe w'=>e = .returned (.tuple #[])/\Hid (zaf nm g wb own d v w' (d.done 0 flags id body))) (by rintro e w' ⟨rfl,hL⟩;exact⟨rfl,by rw[HR];exact hL.unlift⟩);unfold frV at kx;have e0:((0:Nat):Int)=0:=rfl;simp only[e0] at hW0' b0 l0 kx;clear e0;clear HR hoff hst0 hnew hcm hb hbl' H0 S5 h hs hf hco
    go_enter Tryz.func53,Tryz.ntmps53
    go_wp2_with fail
    first | go_region | fail
    go_wp2_with fail
    first | go_region_with (go_at_call 93;refine kx.mono ?_;rintro e w3 ⟨rfl,HL⟩) | fail
    all_goals
     go_wp2
     go_end0
     exact⟨rfl,HL.out⟩
   ·have HR:d.done 1 flags id body=d.doOpen (flags%2 == 1) (flags/2%2 == 1) id body:=by unfold Ds.done;rw[hoff];rfl
    have kx:=(zze H0 S5 hf 1 flags id (.slice ab n kb) body hb hbl' hfl hid hst0 hnew).mono (R':=λe w'=>e = .returned (.tuple #[])/\Hid (zaf nm g wb own d v w' (d.done 1 flags id body))) (by rintro e w' ⟨rfl,hL⟩;exact⟨rfl,by rw[HR];exact hL.unlift⟩);unfold frV at kx;have e0:((1:Nat):Int)=1:=rfl;simp only[e0] at hW0' b0 l0 kx;clear e0;clear HR hoff hst0 hnew hcm hb hbl' H0 S5 h hs hf hco
    go_enter Tryz.func53,Tryz.ntmps53
    go_wp2_with fail
    first | go_region | fail
    go_wp2_with fail
    first | go_region_with (go_at_call 94;refine kx.mono ?_;rintro e w3 ⟨rfl,HL⟩) | fail
    all_goals
     go_wp2
     go_end0
     exact⟨rfl,HL.out⟩
   ·have HR:d.done 2 flags id body=d.doMore (flags/2%2 == 1) body:=by unfold Ds.done;rw[hoff];rfl
    have kx:=(zpk H0 S5 hf 2 flags id (.slice ab n kb) body hb hbl' hfl hcm).mono (R':=λe w'=>e = .returned (.tuple #[])/\Hid (zaf nm g wb own d v w' (d.done 2 flags id body))) (by rintro e w' ⟨rfl,hL⟩;exact⟨rfl,by rw[HR];exact hL.unlift⟩);unfold frV at kx;have e0:((2:Nat):Int)=2:=rfl;simp only[e0] at hW0' b0 l0 kx;clear e0;clear HR hoff hst0 hnew hcm hb hbl' H0 S5 h hs hf hco
    go_enter Tryz.func53,Tryz.ntmps53
    go_wp2_with fail
    first | go_region | fail
    go_wp2_with fail
    first | go_region_with (go_at_call 95;refine kx.mono ?_;rintro e w3 ⟨rfl,HL⟩) | fail
    all_goals
     go_wp2
     go_end0
     exact⟨rfl,HL.out⟩
   ·have HR:d.done 3 flags id body=d.doReset id body:=by unfold Ds.done;rw[hoff];rfl
    have kx:=(zxv H0 S5 hf 3 flags id (.slice ab n kb) body hb hbl' hid).mono (R':=λe w'=>e = .returned (.tuple #[])/\Hid (zaf nm g wb own d v w' (d.done 3 flags id body))) (by rintro e w' ⟨rfl,hL⟩;exact⟨rfl,by rw[HR];exact hL.unlift⟩);unfold frV at kx;have e0:((3:Nat):Int)=3:=rfl;simp only[e0] at hW0' b0 l0 kx;clear e0;clear HR hoff hst0 hnew hcm hb hbl' H0 S5 h hs hf hco
    go_enter Tryz.func53,Tryz.ntmps53
    go_wp2_with fail
    first | go_region | fail
    go_wp2_with fail
    first | go_region_with (go_at_call 96;refine kx.mono ?_;rintro e w3 ⟨rfl,HL⟩) | fail
    all_goals
     go_wp2
     go_end0
     exact⟨rfl,HL.out⟩
   ·have HR:d.done 4 flags id body=d.doSettings (flags%2 == 1) id body:=by unfold Ds.done;rw[hoff];rfl
    have kx:=(zsf H0 S5 (hf.mono (by omega)) 4 flags id (.slice ab n kb) body hb hbl' hfl).mono (R':=λe w'=>e = .returned (.tuple #[])/\Hid (zaf nm g wb own d v w' (d.done 4 flags id body))) (by rintro e w' ⟨rfl,hL⟩;exact⟨rfl,by rw[HR];exact hL.unlift⟩);unfold frV at kx;have e0:((4:Nat):Int)=4:=rfl;simp only[e0] at hW0' b0 l0 kx;clear e0;clear HR hoff hst0 hnew hcm hb hbl' H0 S5 h hs hf hco
    go_enter Tryz.func53,Tryz.ntmps53
    go_wp2_with fail
    first | go_region | fail
    go_wp2_with fail
    first | go_region_with (go_at_call 97;refine kx.mono ?_;rintro e w3 ⟨rfl,HL⟩) | fail
    all_goals
     go_wp2
     go_end0
     exact⟨rfl,HL.out⟩
   ·have HR:d.done 5 flags id body=d.doPing (flags%2 == 1) id body:=by unfold Ds.done;rw[hoff];rfl
    have kx:=(zyz H0 S5 (hf.mono (by omega)) 5 flags id (.slice ab n kb) body hb hbl' hfl).mono (R':=λe w'=>e = .returned (.tuple #[])/\Hid (zaf nm g wb own d v w' (d.done 5 flags id body))) (by rintro e w' ⟨rfl,hL⟩;exact⟨rfl,by rw[HR];exact hL.unlift⟩);unfold frV at kx;have e0:((5:Nat):Int)=5:=rfl;simp only[e0] at hW0' b0 l0 kx;clear e0;clear HR hoff hst0 hnew hcm hb hbl' H0 S5 h hs hf hco
    go_enter Tryz.func53,Tryz.ntmps53
    go_wp2_with fail
    first | go_region | fail
    go_wp2_with fail
    first | go_region_with (go_at_call 98;refine kx.mono ?_;rintro e w3 ⟨rfl,HL⟩) | fail
    all_goals
     go_wp2
     go_end0
     exact⟨rfl,HL.out⟩
   ·have HR:d.done 6 flags id body=d.doAway id body:=by unfold Ds.done;rw[hoff];rfl
    have kx:=(zza H0 S5 (hf.mono (by omega)) 6 flags id (.slice ab n kb) body hb hbl').mono (R':=λe w'=>e = .returned (.tuple #[])/\Hid (zaf nm g wb own d v w' (d.done 6 flags id body))) (by rintro e w' ⟨rfl,hL⟩;exact⟨rfl,by rw[HR];exact hL.unlift⟩);unfold frV at kx;have e0:((6:Nat):Int)=6:=rfl;simp only[e0] at hW0' b0 l0 kx;clear e0;clear HR hoff hst0 hnew hcm hb hbl' H0 S5 h hs hf hco
    go_enter Tryz.func53,Tryz.ntmps53
    go_wp2_with fail
    first | go_region | fail
    go_wp2_with fail
    first | go_region_with (go_at_call 99;refine kx.mono ?_;rintro e w3 ⟨rfl,HL⟩) | fail
    all_goals
     go_wp2
     go_end0
     exact⟨rfl,HL.out⟩
   ·have HR:d.done 7 flags id body=d.doWindow id body:=by unfold Ds.done;rw[hoff];rfl
    have kx:=(zvm H0 S5 (hf.mono (by omega)) 7 flags id (.slice ab n kb) body hb hid).mono (R':=λe w'=>e = .returned (.tuple #[])/\Hid (zaf nm g wb own d v w' (d.done 7 flags id body))) (by rintro e w' ⟨rfl,hL⟩;exact⟨rfl,by rw[HR];exact hL.unlift⟩);unfold frV at kx;have e0:((7:Nat):Int)=7:=rfl;simp only[e0] at hW0' b0 l0 kx;clear e0;clear HR hoff hst0 hnew hcm hb hbl' H0 S5 h hs hf hco
    go_enter Tryz.func53,Tryz.ntmps53
    go_wp2_with fail
    first | go_region | fail
    go_wp2_with fail
    first | go_region_with (go_at_call 100;refine kx.mono ?_;rintro e w3 ⟨rfl,HL⟩) | fail
    all_goals
     go_wp2
     go_end0
     exact⟨rfl,HL.out⟩
  ·have HR:d.done kind flags id body=d:=by unfold Ds.done;rw[hoff];simp only[Bool.false_eq_true,if_false];rw[if_neg (by omega),if_neg (by omega),if_neg (by omega),if_neg (by omega),if_neg (by omega),if_neg (by omega),if_neg (by omega),if_neg (by omega)]
   have S3:=S0.ext ((Ext.refl W0).alloc (.cells #[.func (.func 93) #[] #[],.func (.func 94) #[] #[],.func (.func 95) #[] #[],.func (.func 96) #[] #[],.func (.func 97) #[] #[],.func (.func 98) #[] #[],.func (.func 99) #[] #[],.func (.func 100) #[] #[]] 160)).drew;have HL:=hide (show zaf nm g wb own d v ((W0.alloc (.cells #[.func (.func 93) #[] #[],.func (.func 94) #[] #[],.func (.func 95) #[] #[],.func (.func 96) #[] #[],.func (.func 97) #[] #[],.func (.func 98) #[] #[],.func (.func 99) #[] #[],.func (.func 100) #[] #[]] 160)).drew) (d.done kind flags id body) from by rw[HR];exact(H0.left S3).unlift);clear hco HR hoff hst0 hnew hcm hb hbl' S3;have hk8:decide ((kind:Int)<8)=false:=by simp;omega
   clear hk
   go_enter Tryz.func53,Tryz.ntmps53
   go_wp2_with fail
   first | go_region | fail
   go_wp2
   go_end0
   exact⟨rfl,HL.out⟩
 | some c =>
  obtain⟨i,e,b⟩:=c;simp only[zgo,hco] at f16;have f0:W0.cell? ⟨v.gb,0,none⟩=some (.int .i64 (i:Int)):=S0.cell (H0.blk hco) 0;by_cases hk2:kind=2
  ·subst hk2;by_cases hii:id=i
   ·subst hii;have hoff:d.off 2 id=false:=by unfold Ds.off;rw[hco];simp
    have S5:=S0.ext ((Ext.refl W0).alloc (.cells #[.func (.func 93) #[] #[],.func (.func 94) #[] #[],.func (.func 95) #[] #[],.func (.func 96) #[] #[],.func (.func 97) #[] #[],.func (.func 98) #[] #[],.func (.func 99) #[] #[],.func (.func 100) #[] #[]] 160)).drew.drew;clear S0;have HR:d.done 2 flags id body=d.doMore (flags/2%2 == 1) body:=by unfold Ds.done;rw[hoff];rfl
    have kx:=(zpk H0 S5 hf 2 flags id (.slice ab n kb) body hb hbl' hfl hcm).mono (R':=λe w'=>e = .returned (.tuple #[])/\Hid (zaf nm g wb own d v w' (d.done 2 flags id body))) (by rintro e w' ⟨rfl,hL⟩;exact⟨rfl,by rw[HR];exact hL.unlift⟩);unfold frV at kx;have e0:((2:Nat):Int)=2:=rfl;simp only[e0] at hW0' b0 l0 kx;clear e0;clear HR hoff hst0 hnew hcm hb hbl' H0 S5 h hs hf hco
    go_enter Tryz.func53,Tryz.ntmps53
    go_wp2_with fail
    first | go_region | fail
    go_wp2_with fail
    first | go_region_with (go_at_call 95;refine kx.mono ?_;rintro e w3 ⟨rfl,HL⟩) | fail
    all_goals
     go_wp2
     go_end0
     exact⟨rfl,HL.out⟩
   ·have HR:d.done 2 flags id body=d.fail 1:=by unfold Ds.done;rw[if_pos (by unfold Ds.off;rw[hco];simp[hii])]
    have hne:((id:Int) != (i:Int))=true:=by simp;omega
    have e0:((2:Nat):Int)=2:=rfl;simp only[e0] at hW0' b0;clear e0 hii;have kx:=(zaq H0 (S0.ext (Ext.refl W0).drew) (hf.mono (by omega)) 1).mono (R':=λe w'=>e = .returned (.tuple #[])/\Hid (zaf nm g wb own d v w' (d.done 2 flags id body))) (by rintro e w' ⟨rfl,hL⟩;exact⟨rfl,by rw[HR];exact hL.unlift⟩);clear HR hst0 hnew hcm hb hbl' H0 S0 h hs hf hco l0 l1 l2 l3 RS
    go_enter Tryz.func53,Tryz.ntmps53
    go_wp2_with fail
    first | go_region | fail
    all_goals
     go_wp2_with fail
     refine kx.mono ?_;rintro e w3 ⟨rfl,HL⟩
     go_wp2
     refine bodyPost_ret (results_none rfl _ _ _) rfl ?_;exact⟨rfl,HL.out⟩
  ·have HR:d.done kind flags id body=d.fail 1:=by unfold Ds.done;rw[if_pos (by unfold Ds.off;rw[hco];simp[hk2])]
   have hne:((kind:Int) != 2)=true:=by simp;omega
   clear hk2;have kx:=(zaq H0 (S0.ext (Ext.refl W0).drew) (hf.mono (by omega)) 1).mono (R':=λe w'=>e = .returned (.tuple #[])/\Hid (zaf nm g wb own d v w' (d.done kind flags id body))) (by rintro e w' ⟨rfl,hL⟩;exact⟨rfl,by rw[HR];exact hL.unlift⟩);clear HR hst0 hnew hcm hb hbl' H0 S0 h hs hf hco l0 l1 l2 l3 RS
   go_enter Tryz.func53,Tryz.ntmps53
   go_wp2_with fail
   first | go_region | fail
   all_goals
    go_wp2_with fail
    refine kx.mono ?_;rintro e w3 ⟨rfl,HL⟩
    go_wp2
    refine bodyPost_ret (results_none rfl _ _ _) rfl ?_;exact⟨rfl,HL.out⟩
end
end Go.Proofs.YtoijpogadkogcaaGreat
