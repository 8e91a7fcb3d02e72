import Derived.Test.YtoijpogadkogcaaGreatRo
namespace Go.Proofs.YtoijpogadkogcaaGreat
open Go.RowKit
set_option maxRecDepth 100000
theorem zzbmc(x:Int)(h1:-9223372036854775808<=x)(h2:x<=9223372036854775807):-9223372036854775808<=x.tdiv 200/\x.tdiv 200<=9223372036854775807:=by
 by_cases h:0<=x
 ·rw[Int.tdiv_eq_ediv_of_nonneg h];omega
 ·have e:x.tdiv 200 = -((-x).tdiv 200):=by rw[Int.neg_tdiv];omega
  rw[e,Int.tdiv_eq_ediv_of_nonneg (by omega)];omega
section
variable {wb w:World} {gl:Nat} {lv:Bool} {p m L S:Nat} {Q0:Ds->Ds->List Line->Res->Prop}
theorem zbz.fitQ{m' L' S':Nat}{Q:Ds->Ds->List Line->Res->Prop}(h:zbz wb gl lv p m L S Q w)(hm:m'<=m)(hL:L<=L')(hS:S<=S'):zbz wb gl lv p m' L' S' Q w:=by obtain⟨own,gx,gy,dx,dy,vu,vd,vl,up,down,ls,xs,h1,h2,h3,h4,h5,h6,h7⟩:=h;exact⟨own,gx,gy,dx,dy,vu,vd,vl,up,down,ls,xs,h1,h2,h3,h4.mono hS,h5,(h6.mono hm).wide hL,h7⟩
theorem zbz.any{Q Q':Ds->Ds->List Line->Res->Prop}(h:zbz wb gl lv p m L S Q w)(hq:∀ d e ls R,Q d e ls R->Q' d e ls R):zbz wb gl lv p m L S Q' w:=by obtain⟨own,gx,gy,dx,dy,vu,vd,vl,up,down,ls,xs,h1,h2,h3,h4,h5,h6,h7⟩:=h;exact⟨own,gx,gy,dx,dy,vu,vd,vl,up,down,ls,xs,h1,h2,h3,h4,h5,h6,hq _ _ _ _ h7⟩
theorem zcm.less{nl m':Nat}{Q:Ds->Ds->List Line->Res->Prop}(h:zcm nl wb gl lv p m L S Q w)(hm:m'<=m):zcm nl wb gl lv p m' L S Q w:=by obtain⟨own,gx,gy,dx,dy,vu,vd,vl,up,down,ls,xs,h0,h1,h2,h3,h4,h5,h6,h7⟩:=h;exact⟨own,gx,gy,dx,dy,vu,vd,vl,up,down,ls,xs,h0,h1,h2,h3,h4,h5,h6.mono hm,h7⟩
def zlu(wb:World)(gl:Nat)(lv:Bool)(p m L S:Nat)(Q:Ds->Ds->List Line->Res->Prop)(e:Ending)(w':World):Prop:=e = .returned (.bool true)/\zbz wb gl lv p m L S Q w'
set_option maxHeartbeats 102400000 in
theorem zzbcp(h:zbz wb gl lv p (m+2000+2*L) L S Q0 w)(hQ:Stable Q0)(hev:∀ d e ls R,Q0 d e ls R->NoEv p d e ls R)(hm:100<=m)(hS:S<=90000)(hL:L<=1000000)(k0 a0 b0 c0:Int)(hk1:-9223372036854775808<=k0)(hk2:k0<=9223372036854775807)(ha1:-9223372036854775808<=a0)(ha2:a0<=9223372036854775807)(hb1:-9223372036854775808<=b0)(hb2:b0<=9223372036854775807)(hc1:-9223372036854775808<=c0)(hc2:c0<=9223372036854775807){L':Nat}(hLL:L<=L')(hcar:pk k0 17<=10\/(∀ d e ls R,Q0 d e ls R)/\L+300<=L') :
  Calls Tryz.prog 12 #[.pointer (some ⟨gl,0,none⟩),.agg #[.int .i64 k0,.int .i64 a0,.int .i64 b0,.int .i64 c0],.bool false] w (zlu wb gl lv p m L' (S+300) Q0):=by
 obtain⟨nl,hN,al,ol,cl,g4,h1l,hnl⟩:=h.num;have kp:=λ(x:Int) (mm:Int) (w:World) (h1:-9223372036854775808<=x) (h2:x<=9223372036854775807) (h3:0<mm) (h4:mm<=9223372036854775807)=>zvr x mm w h1 h2 h3 h4;obtain⟨pa1,pa2⟩:=zhb a0 (nl:Int) (by omega);obtain⟨pb1,pb2⟩:=zhb b0 2 (by omega);obtain⟨pk1,pk2⟩:=zhb k0 17 (by omega);obtain⟨k,hk⟩:∃ k:Nat,pk a0 (nl:Int)=(k:Int):=⟨(pk a0 (nl:Int)).toNat,by omega⟩;obtain⟨bb,hbb⟩:∃ k:Nat,pk b0 2=(k:Int):=⟨(pk b0 2).toNat,by omega⟩;obtain⟨kd,hkd⟩:∃ k:Nat,pk k0 17=(k:Int):=⟨(pk k0 17).toNat,by omega⟩;have kA:=λW=>kp a0 (nl:Int) W ha1 ha2 (by omega) (by omega)
 have kB:=λW=>kp b0 2 W hb1 hb2 (by omega) (by omega)
 have kK:=λW=>kp k0 17 W hk1 hk2 (by omega) (by omega)
 rw[hk] at kA;rw[hbb] at kB;rw[hkd] at kK;have hkl:k<nl:=by omega
 have hb2':bb<2:=by omega
 have hkd2:kd<17:=by omega
 have hcar':kd<=10\/(∀ d e ls R,Q0 d e ls R)/\L+300<=L':=hcar.imp (λq=>by omega) id;have HQS:=hide hQ;have HCAR:=hide hcar';have HEV:=hide hev;clear pa1 pa2 pb1 pb2 pk1 pk2 hk hbb hkd hcar hcar' hQ hev;obtain⟨w1,hw1⟩:∃ w1,w.alloc (.cells #[.int .i64 k0,.int .i64 a0,.int .i64 b0,.int .i64 c0] 31 (0,0))=w1:=⟨_,rfl⟩;have hE1:Ext w w1:=by rw[<-hw1];exact(Ext.refl w).alloc _
 have HN:=hide (hN.ext hE1);have g41:=hE1.cell g4;have s0:w1.cell? ⟨w.heap.size,0,none⟩=some (.int .i64 k0):=by rw[<-hw1];exact zek w _ _ _ 0
 have s1:w1.cell? ⟨w.heap.size,1,none⟩=some (.int .i64 a0):=by rw[<-hw1];exact zek w _ _ _ 1
 have s2:w1.cell? ⟨w.heap.size,2,none⟩=some (.int .i64 b0):=by rw[<-hw1];exact zek w _ _ _ 2
 have s3:w1.cell? ⟨w.heap.size,3,none⟩=some (.int .i64 c0):=by rw[<-hw1];exact zek w _ _ _ 3
 have HKA:=hide kA;have HKB:=hide kB;have HKK:=hide kK;have HKP:=hide kp;clear hN h kA kB kK kp hE1 g4
 go_enter Tryz.func12,Tryz.ntmps12
 go_upto_region 1 with fail
 have s1d:w1.drew.cell? ⟨w.heap.size,1,none⟩=some (.int .i64 a0):=s1;have g4d:w1.drew.cell? ⟨gl,4,none⟩=some (.slice (some ⟨al,ol,none⟩) nl cl):=g41;have kA:=HKA.out w1.drew
 go_cut [7] from 14 to 21 (λs7 wx=>s7 = .int .i64 (k:Int)/\Hid (Ext w1 wx))
 case first =>
  go_region_with (go_at_call 19;refine kA.mono ?_;rintro e w0 ⟨rfl,hw⟩;replace hw:=hw.symm;subst hw)
  all_goals
   go_wp2_with fail
   go_meet
   exact⟨rfl,(Ext.refl w1).drew⟩
 case rest =>
  obtain⟨rfl,HE⟩:=hcut;have q0:=HE.out.cell s0;have q1:=HE.out.cell s1;have q2:=HE.out.cell s2;have q3:=HE.out.cell s3;have HN2:=hide (HN.out.ext HE.out);have g5:=HE.out.cell g41;have kB:=HKB.out wc;have kK:=HKK.out wc;clear kA s1d g4d s0 s1 s2 s3 g41 HN HE HKA HKB HKK hw1
  go_wp2_with fail
  refine kB.mono ?_;rintro e w0 ⟨rfl,hw⟩;replace hw:=hw.symm;subst hw;obtain⟨c,hc⟩:∃ c:Bool,((bb:Int) == 0)=c:=⟨_,rfl⟩
  go_wp2_with fail
  refine kK.mono ?_;rintro e w0 ⟨rfl,hw⟩;replace hw:=hw.symm;subst hw;clear kB kK;have HC0:=hide (And.intro hc1 hc2);have HA0:=hide (And.intro ha1 ha2);have HR:Hid (∀ {m1 L1 S1:Nat} {w2:World},zbz wb gl lv p m1 L1 S1 Q0 w2->m<=m1->L1<=L'->S1<=S+300->zlu wb gl lv p m L' (S+300) Q0 (.returned (.bool true)) w2):=λh b c d=>⟨rfl,h.fitQ b c d⟩;clear hc1 hc2 ha1 ha2 hb1 hb2 hk1 hk2;have h17:kd=0\/kd=1\/kd=2\/kd=3\/kd=4\/kd=5\/kd=6\/kd=7\/kd=8\/kd=9\/kd=10\/kd=11\/12<=kd:=by omega
  have opn:Hid (∀ c:Bool,Calls Tryz.prog 33 #[.pointer (some ⟨gl,0,none⟩),.bool c,.int .i64 c0] wc λe w'=>e = .returned (.tuple #[])/\zlu wb gl lv p m L' (S+300) Q0 (.returned (.bool true)) w'):=λc=>(zzblz (m:=m+1000) (HN2.out.less (m':=m+1000+2) (by omega)).hold HQS.out (by omega) c c0 HC0.out.1 HC0.out.2).mono (λe w' ⟨h1,h2⟩=>⟨h1,HR.out h2 (by omega) (by omega) (by omega)⟩)
  have wrt:Hid (∀ (c:Bool) (n:Nat),n<=300->Calls Tryz.prog 34 #[.pointer (some ⟨gl,0,none⟩),.int .i64 (k:Int),.bool c,.int .i64 (n:Int)] wc λe w'=>e = .returned (.bool true)/\zlu wb gl lv p m L' (S+300) Q0 (.returned (.bool true)) w'):=λc n hn=>(zzbkm (m:=m+1000) (HN2.out.less (m':=m+1000+1) (by omega)) HQS.out (by omega) c k hkl n hn).mono (λe w' ⟨h1,h2⟩=>⟨h1,HR.out h2 (by omega) (by omega) (by omega)⟩)
  have rds:Hid (∀ (c:Bool) (n:Nat),n<=1000->Calls Tryz.prog 14 #[.pointer (some ⟨gl,0,none⟩),.int .i64 (k:Int),.bool c,.int .i64 (n:Int)] wc λe w'=>e = .returned (.bool true)/\zlu wb gl lv p m L' (S+300) Q0 (.returned (.bool true)) w'):=λc n hn=>(zzbma (m:=m+1000) (HN2.out.less (m':=m+1000+3) (by omega)) HQS.out HEV.out (by omega) (by omega) c k hkl n hn).mono (λe w' ⟨h1,h2⟩=>⟨h1,HR.out h2 (by omega) (by omega) (by omega)⟩)
  have kp300:Hid (∃ n:Nat,n<=300 /\ ∀ W,Calls Tryz.prog 19 #[.int .i64 c0,.int .i64 300] W λe w'=>e = .returned (.int .i64 (n:Int))/\w'=W):=by
   obtain⟨p1,p2⟩:=zhb c0 300 (by omega);refine⟨(pk c0 300).toNat,by omega,λW => ?_⟩
   have:=HKP.out c0 300 W HC0.out.1 HC0.out.2 (by omega) (by omega)
   rwa [show (((pk c0 300).toNat:Nat):Int)=pk c0 300 by omega]
  have kp70:Hid (∃ n:Nat,n<=1000 /\ ∀ W,Calls Tryz.prog 19 #[.int .i64 c0,.int .i64 70] W λe w'=>e = .returned (.int .i64 (n:Int))/\w'=W):=by
   obtain⟨p1,p2⟩:=zhb c0 70 (by omega);refine⟨(pk c0 70).toNat,by omega,λW => ?_⟩
   have:=HKP.out c0 70 W HC0.out.1 HC0.out.2 (by omega) (by omega)
   rwa [show (((pk c0 70).toNat:Nat):Int)=pk c0 70 by omega]
  clear hc;rcases h17 with rfl | rfl | rfl | rfl | rfl | rfl | rfl | rfl | rfl | rfl | rfl | rfl | hbig
  ·have kO:=opn.out
   go_wp2_with fail
   refine(kO _).mono ?_;rintro e w2 ⟨rfl,hh⟩;have HH:=hide hh;clear hh kO
   go_wp2
   go_ret
   exact HH.out
  ·have kO:=opn.out
   go_wp2_with fail
   refine(kO _).mono ?_;rintro e w2 ⟨rfl,hh⟩;have HH:=hide hh;clear hh kO
   go_wp2
   go_ret
   exact HH.out
  ·obtain⟨n,hn,kn⟩:=kp300.out;have kn':=kn wc;have kO:=λc=>wrt.out c n hn;clear kn hn
   go_wp2_with fail
   refine kn'.mono ?_;rintro e w0 ⟨rfl,hw⟩;replace hw:=hw.symm;subst hw;clear kn'
   go_wp2_with fail
   refine(kO _).mono ?_;rintro e w2 ⟨rfl,hh⟩;have HH:=hide hh;clear hh kO
   go_wp2
   go_ret
   exact HH.out
  ·obtain⟨n,hn,kn⟩:=kp300.out;have kn':=kn wc;have kO:=λc=>wrt.out c n hn;clear kn hn
   go_wp2_with fail
   refine kn'.mono ?_;rintro e w0 ⟨rfl,hw⟩;replace hw:=hw.symm;subst hw;clear kn'
   go_wp2_with fail
   refine(kO _).mono ?_;rintro e w2 ⟨rfl,hh⟩;have HH:=hide hh;clear hh kO
   go_wp2
   go_ret
   exact HH.out
  ·obtain⟨n,hn,kn⟩:=kp300.out;have kn':=kn wc;have kO:=λc=>wrt.out c n hn;clear kn hn
   go_wp2_with fail
   refine kn'.mono ?_;rintro e w0 ⟨rfl,hw⟩;replace hw:=hw.symm;subst hw;clear kn'
   go_wp2_with fail
   refine(kO _).mono ?_;rintro e w2 ⟨rfl,hh⟩;have HH:=hide hh;clear hh kO
   go_wp2
   go_ret
   exact HH.out
  ·obtain⟨n,hn,kn⟩:=kp70.out;have kn':=kn wc;have kO:=λc=>rds.out c n hn;clear kn hn
   go_wp2_with fail
   refine kn'.mono ?_;rintro e w0 ⟨rfl,hw⟩;replace hw:=hw.symm;subst hw;clear kn'
   go_wp2_with fail
   refine(kO _).mono ?_;rintro e w2 ⟨rfl,hh⟩;have HH:=hide hh;clear hh kO
   go_wp2
   go_ret
   exact HH.out
  ·obtain⟨n,hn,kn⟩:=kp70.out;have kn':=kn wc;have kO:=λc=>rds.out c n hn;clear kn hn
   go_wp2_with fail
   refine kn'.mono ?_;rintro e w0 ⟨rfl,hw⟩;replace hw:=hw.symm;subst hw;clear kn'
   go_wp2_with fail
   refine(kO _).mono ?_;rintro e w2 ⟨rfl,hh⟩;have HH:=hide hh;clear hh kO
   go_wp2
   go_ret
   exact HH.out
  ·obtain⟨n,hn,kn⟩:=kp70.out;have kn':=kn wc;have kO:=λc=>rds.out c n hn;clear kn hn
   go_wp2_with fail
   refine kn'.mono ?_;rintro e w0 ⟨rfl,hw⟩;replace hw:=hw.symm;subst hw;clear kn'
   go_wp2_with fail
   refine(kO _).mono ?_;rintro e w2 ⟨rfl,hh⟩;have HH:=hide hh;clear hh kO
   go_wp2
   go_ret
   exact HH.out
  ·cases c
   ·obtain⟨own,gx,gy,dx,dy,vu,vd,vl,up,down,ls,xs,h0,h1,h2,h3,h4,h5,h6,h7⟩:=HN2.out;subst h0;have H:=h6.swap;obtain⟨al2,ol2,cl2,hv2,-⟩:=h2.linesV h1 (by omega);subst hv2;obtain⟨t,ht⟩:∃ t,ls[k]? = some t:=⟨_,List.getElem?_eq_getElem hkl⟩;have hid:=H.line ht;have hlen:=h3.len;obtain⟨vc,vs,vh,hx,-⟩:=h3.at_ k t ht;have x0:xs[10*k+0]? = some (.int .i64 (t.id:Int)):=hx 0 (by omega);have xe:xs[10*k+(5+2)]? = some (.bool (t.out false).ended):=hx (5+2) (by omega);have x8:xs[10*k+8]? = some (.bool t.reset):=hx 8 (by omega);have HC:Hid (∀ (wz:World) (oz:LN->Res) (da db:Ds),Sep wb wz oz->zak oz gl gx gy da db vu vd (.slice (some ⟨al2,ol2,none⟩) ls.length cl2) up down ls.length xs lv->wz.cell? ⟨gl,4,none⟩=some (.slice (some ⟨al2,ol2,none⟩) ls.length cl2)/\wz.cell? ⟨al2,ol2+k*10,none⟩=some (.int .i64 (t.id:Int))/\wz.cell? ⟨al2,ol2+k*10+5+2,none⟩=some (.bool (t.out false).ended)/\wz.cell? ⟨al2,ol2+k*10+8,none⟩=some (.bool t.reset)/\wz.frozen? ⟨al2,ol2+k*10+5+2,none⟩=false/\wz.frozen? ⟨al2,ol2+k*10+8,none⟩=false):=λwz oz da db q1 q2=>by
     have cell:∀ j u,j<10->xs[10*k+j]? = some u->wz.cell? ⟨al2,ol2+k*10+j,none⟩=some u/\wz.frozen? ⟨al2,ol2+k*10+j,none⟩=false:=λj u hj hx=>by
      obtain⟨r1,r2⟩:=q2.line q1 (10*k+j) (by omega);rw[hx] at r1;have e3:ol2+k*10+j=ol2+(10*k+j):=by omega
      rw[e3];exact⟨r1,r2⟩
     have e1:ol2+k*10+5+2=ol2+k*10+(5+2):=by omega
     rw[e1];exact⟨q2.cc q1 4,(cell 0 _ (by omega) x0).1,(cell (5+2) _ (by omega) xe).1,(cell 8 _ (by omega) x8).1,(cell (5+2) _ (by omega) xe).2,(cell 8 _ (by omega) x8).2⟩
    have HL2:=hide h2;have HS2:=hide h1;have HLS:=hide h3;have HTT:=hide ht;have HH:=hide H;obtain⟨g4,c0,ce,-,-,-⟩:=HC.out wc own dx dy h1 h2;have kw:Calls Tryz.prog 15 #[.pointer (some ⟨al2,ol2+k*10,none⟩),.bool false] wc λe w'=>e = .returned (.tuple #[.pointer (some ⟨al2,ol2+k*10+5,none⟩),.pointer (some ⟨al2,ol2+k*10+2,none⟩)])/\Ext wc w':=zfn al2 (ol2+k*10) false wc;have HKE:Hid (∀ w1:World,Ext wc w1->Calls Tryz.prog 35 #[.pointer (some ⟨gy,0,none⟩),.int .i64 (t.id:Int)] w1 λe w'=>e = .returned (.int .i64 (dy.unwritable (dy.find (t.id:Int)):Int)) /\ ∃ own',Sep wb w' own'/\zar own' LN.y gy (dy.endeds (t.id:Int))/\zai LN.y own own'):=λw1 he=>zzbab h2.ey (h1.ext he) (H.od.fits.mono (by omega)) (t.id:Int) (by omega) (by omega)
    have hun:Hid (dy.unwritable (dy.find (t.id:Int))=dy.unwritable (dy.find (t.id:Int))):=rfl;have HQ7:=hide h7;clear g5 h1 h2 h3 h7 hx x0 xe x8 h6;generalize hu:dy.unwritable (dy.find (t.id:Int))=er at *;have HU:=hide hu;clear hu hun
    go_wp2_with fail
    refine kw.mono ?_;rintro e w1 ⟨rfl,he1⟩;have S1:=HS2.out.ext he1;obtain⟨g41,c01,-⟩:=HC.out w1 own dx dy S1 HL2.out;have g4d:w1.drew.cell? ⟨gl,4,none⟩=some (.slice (some ⟨al2,ol2,none⟩) ls.length cl2):=g41;have c0d:w1.drew.cell? ⟨al2,ol2+k*10,none⟩=some (.int .i64 (t.id:Int)):=c01;have g0:w1.drew.cell? ⟨gl,0,none⟩=some (.pointer (some ⟨gx,0,none⟩)):=HL2.out.cc S1 0;have g1:w1.drew.cell? ⟨gl,1,none⟩=some (.pointer (some ⟨gy,0,none⟩)):=HL2.out.cc S1 1;have ke:Calls Tryz.prog 16 #[.pointer (some ⟨gl,0,none⟩),.bool false] w1.drew λe w'=>e = .returned (.pointer (some ⟨gy,0,none⟩))/\w'=w1.drew:=zdl false w1.drew g0 g1;have kE:=HKE.out w1.drew (he1.trans (Ext.refl w1).drew);clear kw S1 g4 c0 ce HKE he1 g0 g1
    go_upto_region 18 with fail
    go_cut [11] from 86 to 97 (λs11 wx=>s11 = .int .i64 (er:Int) /\ ∃ own2:LN->Res,Hid (Sep wb wx own2/\zar own2 LN.y gy (dy.endeds (t.id:Int))/\zai LN.y own own2))
    case first =>
     go_region_with (first
      | (go_at_call 16;refine ke.mono ?_;rintro e w0 ⟨rfl,hw⟩;replace hw:=hw.symm;subst hw)
      | (go_at_call 35;refine kE.mono ?_;rintro e w6 ⟨rfl,own2,a1,a2,a3⟩;have HW:Hid (Sep wb w6 own2/\zar own2 LN.y gy (dy.endeds (t.id:Int))/\zai LN.y own own2):=⟨a1,a2,a3⟩;clear a1 a2 a3))
     all_goals
      go_wp2_with fail
      go_meet
      exact⟨rfl,own2,HW⟩
    case rest =>
     obtain⟨rfl,own2,HW⟩:=hcut;have L3:=HL2.out.withY HW.out.2.1 (λn _ _ q=>HW.out.2.2 n q);obtain⟨-,-,ce,-,te,-⟩:=HC.out wc own2 _ _ HW.out.1 L3;have HF:Hid (∀ b:Bool,(er=0->b=true)->(er≠0->b=(t.out false).ended)->zlu wb gl lv p m L' (S+300) Q0 (.returned (.bool true)) (wc.setCell ⟨al2,ol2+k*10+5+2,none⟩ (.bool b))):=λb hb0 hb1=>by
      obtain⟨own6,S6,L6,e6⟩:=L3.setLine HW.out.1 (10*k+(5+2)) (.bool b);have ea:ol2+(10*k+(5+2))=ol2+k*10+5+2:=by omega
      rw[ea] at S6;have ee:∀ i,own6 (.e i)=own (.e i):=λi=>(e6 i).trans (HW.out.2.2 (.e i) (λx e=>by cases e))
      by_cases he0:er=0
      ·rw[hb0 he0] at S6 L6 ⊢;have hun:dy.unwritable (dy.find (t.id:Int))=0:=HU.out.trans he0;have hT:=TD.endItK (m:=m+100) (HH.out.mono (by omega)) HTT.out hun;have hD:dy.endeds (t.id:Int)=dy.endIt (dy.find (t.id:Int)):=by unfold Ds.endeds;rw[if_pos hun]
       rw[hD] at L6;have hLS:=HLS.out.setC (own':=own6) HTT.out (5+2) (by omega) (.bool true) (λx=>x.setOut false { (x.out false) with ended:=true }) ee rfl rfl rfl (λ_ _ _=>rfl);refine HR.out (m1:=m+100) (L1:=L) (S1:=S) ⟨own6,gx,gy,dx,dy.endIt (dy.find (t.id:Int)),vu,vd,(.slice (some ⟨al2,ol2,none⟩) ls.length cl2),up,down,_,_,S6,?_,hLS,?_,?_,TD.unswap (c:=true) hT.1,by rw[ee 1000];exact HQS.out _ _ _ _ _ _ _ HQ7.out (.inr ⟨hT.2,rfl⟩)⟩ (by omega) (by omega) (by omega)
       ·rw[List.length_modify];exact L6
       ·exact SB.mod1 h4 HTT.out _ (h4 t (List.mem_of_getElem? HTT.out))
       ·rw[List.length_modify];exact h5
      ·have hun:¬ dy.unwritable (dy.find (t.id:Int))=0:=by rw[HU.out];exact he0
       have hD:dy.endeds (t.id:Int)=dy:=by unfold Ds.endeds;rw[if_neg hun]
       rw[hD] at L6;rw[hb1 he0] at S6 L6 ⊢;have hLS:=HLS.out.setC (own':=own6) HTT.out (5+2) (by omega) (.bool (t.out false).ended) id ee rfl rfl rfl (λ_ _ _=>rfl);have em:ls.modify k id=ls:=by apply List.ext_getElem?;intro j;rw[List.getElem?_modify];split<;>simp
       rw[em] at hLS;exact HR.out (m1:=m+100) (L1:=L) (S1:=S) ⟨own6,gx,gy,dx,dy,vu,vd,(.slice (some ⟨al2,ol2,none⟩) ls.length cl2),up,down,ls,_,S6,L6,hLS,h4,h5,TD.unswap (c:=true) (HH.out.mono (m':=m+100) (by omega)),by rw[ee 1000];exact HQ7.out⟩ (by omega) (by omega) (by omega)
     clear L3 HW ke kE c0d g4d g41 c01 HC HL2 HS2 HLS HTT HH HU;generalize (t.out false).ended=en at *;by_cases he0:er=0
     ·subst he0;cases en
      ·go_wp2
       go_ret
       exact HF.out _ (λ_=>rfl) (λh=>absurd rfl h)
      ·go_wp2
       go_ret
       exact HF.out _ (λ_=>rfl) (λh=>absurd rfl h)
     ·have hne:((er:Int) == 0)=false:=by rw[beq_eq_false_iff_ne];omega
      have HE0:=hide he0;clear he0;cases en
      ·go_wp2
       go_ret
       exact HF.out _ (λh=>absurd h HE0.out) (λ_=>rfl)
      ·go_wp2
       go_ret
       exact HF.out _ (λh=>absurd h HE0.out) (λ_=>rfl)
   ·obtain⟨own,gx,gy,dx,dy,vu,vd,vl,up,down,ls,xs,h0,h1,h2,h3,h4,h5,h6,h7⟩:=HN2.out;subst h0;have H:=h6;obtain⟨al2,ol2,cl2,hv2,-⟩:=h2.linesV h1 (by omega);subst hv2;obtain⟨t,ht⟩:∃ t,ls[k]? = some t:=⟨_,List.getElem?_eq_getElem hkl⟩;have hid:=H.line ht;have hlen:=h3.len;obtain⟨vc,vs,vh,hx,-⟩:=h3.at_ k t ht;have x0:xs[10*k+0]? = some (.int .i64 (t.id:Int)):=hx 0 (by omega);have xe:xs[10*k+(2+2)]? = some (.bool (t.out true).ended):=hx (2+2) (by omega);have x8:xs[10*k+8]? = some (.bool t.reset):=hx 8 (by omega);have HC:Hid (∀ (wz:World) (oz:LN->Res) (da db:Ds),Sep wb wz oz->zak oz gl gx gy da db vu vd (.slice (some ⟨al2,ol2,none⟩) ls.length cl2) up down ls.length xs lv->wz.cell? ⟨gl,4,none⟩=some (.slice (some ⟨al2,ol2,none⟩) ls.length cl2)/\wz.cell? ⟨al2,ol2+k*10,none⟩=some (.int .i64 (t.id:Int))/\wz.cell? ⟨al2,ol2+k*10+2+2,none⟩=some (.bool (t.out true).ended)/\wz.cell? ⟨al2,ol2+k*10+8,none⟩=some (.bool t.reset)/\wz.frozen? ⟨al2,ol2+k*10+2+2,none⟩=false/\wz.frozen? ⟨al2,ol2+k*10+8,none⟩=false):=λwz oz da db q1 q2=>by
     have cell:∀ j u,j<10->xs[10*k+j]? = some u->wz.cell? ⟨al2,ol2+k*10+j,none⟩=some u/\wz.frozen? ⟨al2,ol2+k*10+j,none⟩=false:=λj u hj hx=>by
      obtain⟨r1,r2⟩:=q2.line q1 (10*k+j) (by omega);rw[hx] at r1;have e3:ol2+k*10+j=ol2+(10*k+j):=by omega
      rw[e3];exact⟨r1,r2⟩
     have e1:ol2+k*10+2+2=ol2+k*10+(2+2):=by omega
     rw[e1];exact⟨q2.cc q1 4,(cell 0 _ (by omega) x0).1,(cell (2+2) _ (by omega) xe).1,(cell 8 _ (by omega) x8).1,(cell (2+2) _ (by omega) xe).2,(cell 8 _ (by omega) x8).2⟩
    have HL2:=hide h2;have HS2:=hide h1;have HLS:=hide h3;have HTT:=hide ht;have HH:=hide H;obtain⟨g4,c0,ce,-,-,-⟩:=HC.out wc own dx dy h1 h2;have kw:Calls Tryz.prog 15 #[.pointer (some ⟨al2,ol2+k*10,none⟩),.bool true] wc λe w'=>e = .returned (.tuple #[.pointer (some ⟨al2,ol2+k*10+2,none⟩),.pointer (some ⟨al2,ol2+k*10+5,none⟩)])/\Ext wc w':=zfn al2 (ol2+k*10) true wc;have HKE:Hid (∀ w1:World,Ext wc w1->Calls Tryz.prog 35 #[.pointer (some ⟨gx,0,none⟩),.int .i64 (t.id:Int)] w1 λe w'=>e = .returned (.int .i64 (dx.unwritable (dx.find (t.id:Int)):Int)) /\ ∃ own',Sep wb w' own'/\zar own' LN.x gx (dx.endeds (t.id:Int))/\zai LN.x own own'):=λw1 he=>zzbab h2.ex (h1.ext he) (H.od.fits.mono (by omega)) (t.id:Int) (by omega) (by omega)
    have hun:Hid (dx.unwritable (dx.find (t.id:Int))=dx.unwritable (dx.find (t.id:Int))):=rfl;have HQ7:=hide h7;clear g5 h1 h2 h3 h7 hx x0 xe x8 h6;generalize hu:dx.unwritable (dx.find (t.id:Int))=er at *;have HU:=hide hu;clear hu hun
    go_wp2_with fail
    refine kw.mono ?_;rintro e w1 ⟨rfl,he1⟩;have S1:=HS2.out.ext he1;obtain⟨g41,c01,-⟩:=HC.out w1 own dx dy S1 HL2.out;have g4d:w1.drew.cell? ⟨gl,4,none⟩=some (.slice (some ⟨al2,ol2,none⟩) ls.length cl2):=g41;have c0d:w1.drew.cell? ⟨al2,ol2+k*10,none⟩=some (.int .i64 (t.id:Int)):=c01;have g0:w1.drew.cell? ⟨gl,0,none⟩=some (.pointer (some ⟨gx,0,none⟩)):=HL2.out.cc S1 0;have g1:w1.drew.cell? ⟨gl,1,none⟩=some (.pointer (some ⟨gy,0,none⟩)):=HL2.out.cc S1 1;have ke:Calls Tryz.prog 16 #[.pointer (some ⟨gl,0,none⟩),.bool true] w1.drew λe w'=>e = .returned (.pointer (some ⟨gx,0,none⟩))/\w'=w1.drew:=zdl true w1.drew g0 g1;have kE:=HKE.out w1.drew (he1.trans (Ext.refl w1).drew);clear kw S1 g4 c0 ce HKE he1 g0 g1
    go_upto_region 18 with fail
    go_cut [11] from 86 to 97 (λs11 wx=>s11 = .int .i64 (er:Int) /\ ∃ own2:LN->Res,Hid (Sep wb wx own2/\zar own2 LN.x gx (dx.endeds (t.id:Int))/\zai LN.x own own2))
    case first =>
     go_region_with (first
      | (go_at_call 16;refine ke.mono ?_;rintro e w0 ⟨rfl,hw⟩;replace hw:=hw.symm;subst hw)
      | (go_at_call 35;refine kE.mono ?_;rintro e w6 ⟨rfl,own2,a1,a2,a3⟩;have HW:Hid (Sep wb w6 own2/\zar own2 LN.x gx (dx.endeds (t.id:Int))/\zai LN.x own own2):=⟨a1,a2,a3⟩;clear a1 a2 a3))
     all_goals
      go_wp2_with fail
      go_meet
      exact⟨rfl,own2,HW⟩
    case rest =>
     obtain⟨rfl,own2,HW⟩:=hcut;have L3:=HL2.out.withX HW.out.2.1 (λn _ _ q=>HW.out.2.2 n q);obtain⟨-,-,ce,-,te,-⟩:=HC.out wc own2 _ _ HW.out.1 L3;have HF:Hid (∀ b:Bool,(er=0->b=true)->(er≠0->b=(t.out true).ended)->zlu wb gl lv p m L' (S+300) Q0 (.returned (.bool true)) (wc.setCell ⟨al2,ol2+k*10+2+2,none⟩ (.bool b))):=λb hb0 hb1=>by
      obtain⟨own6,S6,L6,e6⟩:=L3.setLine HW.out.1 (10*k+(2+2)) (.bool b);have ea:ol2+(10*k+(2+2))=ol2+k*10+2+2:=by omega
      rw[ea] at S6;have ee:∀ i,own6 (.e i)=own (.e i):=λi=>(e6 i).trans (HW.out.2.2 (.e i) (λx e=>by cases e))
      by_cases he0:er=0
      ·rw[hb0 he0] at S6 L6 ⊢;have hun:dx.unwritable (dx.find (t.id:Int))=0:=HU.out.trans he0;have hT:=TD.endItK (m:=m+100) (HH.out.mono (by omega)) HTT.out hun;have hD:dx.endeds (t.id:Int)=dx.endIt (dx.find (t.id:Int)):=by unfold Ds.endeds;rw[if_pos hun]
       rw[hD] at L6;have hLS:=HLS.out.setC (own':=own6) HTT.out (2+2) (by omega) (.bool true) (λx=>x.setOut true { (x.out true) with ended:=true }) ee rfl rfl rfl (λ_ _ _=>rfl);refine HR.out (m1:=m+100) (L1:=L) (S1:=S) ⟨own6,gx,gy,dx.endIt (dx.find (t.id:Int)),dy,vu,vd,(.slice (some ⟨al2,ol2,none⟩) ls.length cl2),up,down,_,_,S6,?_,hLS,?_,?_,hT.1,by rw[ee 1000];exact HQS.out _ _ _ _ _ _ _ HQ7.out (.inl ⟨hT.2,rfl⟩)⟩ (by omega) (by omega) (by omega)
       ·rw[List.length_modify];exact L6
       ·exact SB.mod1 h4 HTT.out _ (h4 t (List.mem_of_getElem? HTT.out))
       ·rw[List.length_modify];exact h5
      ·have hun:¬ dx.unwritable (dx.find (t.id:Int))=0:=by rw[HU.out];exact he0
       have hD:dx.endeds (t.id:Int)=dx:=by unfold Ds.endeds;rw[if_neg hun]
       rw[hD] at L6;rw[hb1 he0] at S6 L6 ⊢;have hLS:=HLS.out.setC (own':=own6) HTT.out (2+2) (by omega) (.bool (t.out true).ended) id ee rfl rfl rfl (λ_ _ _=>rfl);have em:ls.modify k id=ls:=by apply List.ext_getElem?;intro j;rw[List.getElem?_modify];split<;>simp
       rw[em] at hLS;exact HR.out (m1:=m+100) (L1:=L) (S1:=S) ⟨own6,gx,gy,dx,dy,vu,vd,(.slice (some ⟨al2,ol2,none⟩) ls.length cl2),up,down,ls,_,S6,L6,hLS,h4,h5,(HH.out.mono (m':=m+100) (by omega)),by rw[ee 1000];exact HQ7.out⟩ (by omega) (by omega) (by omega)
     clear L3 HW ke kE c0d g4d g41 c01 HC HL2 HS2 HLS HTT HH HU;generalize (t.out true).ended=en at *;by_cases he0:er=0
     ·subst he0;cases en
      ·go_wp2
       go_ret
       exact HF.out _ (λ_=>rfl) (λh=>absurd rfl h)
      ·go_wp2
       go_ret
       exact HF.out _ (λ_=>rfl) (λh=>absurd rfl h)
     ·have hne:((er:Int) == 0)=false:=by rw[beq_eq_false_iff_ne];omega
      have HE0:=hide he0;clear he0;cases en
      ·go_wp2
       go_ret
       exact HF.out _ (λh=>absurd h HE0.out) (λ_=>rfl)
      ·go_wp2
       go_ret
       exact HF.out _ (λh=>absurd h HE0.out) (λ_=>rfl)
  ·go_wp2
   go_ret
   exact HR.out HN2.out.hold (by omega) (by omega) (by omega)
  ·go_wp2
   go_ret
   exact HR.out HN2.out.hold (by omega) (by omega) (by omega)
  ·go_wp2
   go_ret
   exact HR.out HN2.out.hold (by omega) (by omega) (by omega)
  ·obtain⟨r1,r2⟩:=zhb (c0.tdiv 200) 300 (by omega);obtain⟨r3,r4⟩:=zhb c0 200 (by omega);obtain⟨r5,r6⟩:=zhb a0 90 (by omega);have hdv:=zzbmc c0 HC0.out.1 HC0.out.2;obtain⟨n1,hn1⟩:∃ n:Nat,pk (c0.tdiv 200) 300=(n:Int):=⟨(pk (c0.tdiv 200) 300).toNat,by omega⟩;obtain⟨n2,hn2⟩:∃ n:Nat,pk c0 200=(n:Int):=⟨(pk c0 200).toNat,by omega⟩;obtain⟨n3,hn3⟩:∃ n:Nat,pk a0 90=(n:Int):=⟨(pk a0 90).toNat,by omega⟩;have kq1:=λW=>HKP.out (c0.tdiv 200) 300 W hdv.1 hdv.2 (by omega) (by omega)
   have kq2:=λW=>HKP.out c0 200 W HC0.out.1 HC0.out.2 (by omega) (by omega)
   have kq3:=λW=>HKP.out a0 90 W HA0.out.1 HA0.out.2 (by omega) (by omega)
   rw[hn1] at kq1;have hwd:=zhh (c0.tdiv 200) hdv.1 hdv.2;rw[<-hwd] at kq1;clear hwd;rw[hn2] at kq2;rw[hn3] at kq3;have b1:n1<=300:=by omega
   have b2:n2<=1000:=by omega
   have b3:n3<=100:=by omega
   have e3:((1+n3:Nat):Int)=1+(n3:Int):=by omega
   have hwr:IntKind.i64.wrap (1+(n3:Int))=1+(n3:Int):=by
    have:=zjx (1+n3) (by omega)
    rw[e3] at this;exact this
   have kC:∀ (c:Bool) (W:World),Ext wc W->Calls Tryz.prog 13 #[.pointer (some ⟨gl,0,none⟩),.bool c,.int .i64 (n1:Int),.int .i64 (n2:Int),.int .i64 (((1+n3:Nat)):Int)] W λe w'=>e = .returned (.tuple #[])/\zlu wb gl lv p m L' (S+300) Q0 (.returned (.bool true)) w':=λc W hW=>(zzbmb (m:=m+100) ((HN2.out.ext hW).less (m':=m+100+1000+2*L) (by omega)).hold c n1 n2 (1+n3) b1 b2 (by omega) (by omega) hL).mono (λe w' ⟨h1,h2⟩=>⟨h1,HR.out (h2.any (λd e ls R _=>(HCAR.out.resolve_left (by omega)).1 d e ls R)) (by omega) (HCAR.out.resolve_left (by omega)).2 (by omega)⟩)
   rw[e3,<-hwr] at kC;have kC':=λc=>kC c wc.drew (Ext.refl wc).drew;have q1d:wc.drew.cell? ⟨w.heap.size,1,none⟩=some (.int .i64 a0):=q1;have q3d:wc.drew.cell? ⟨w.heap.size,3,none⟩=some (.int .i64 c0):=q3;clear kC r1 r2 r3 r4 r5 r6 hdv hn1 hn2 hn3 e3 hwr b1 b2 b3;have d0:((kd:Int) == 0)=false:=by rw[beq_eq_false_iff_ne];omega
   have d1:((kd:Int) == 1)=false:=by rw[beq_eq_false_iff_ne];omega
   have d2:((kd:Int) == 2)=false:=by rw[beq_eq_false_iff_ne];omega
   have d3:((kd:Int) == 3)=false:=by rw[beq_eq_false_iff_ne];omega
   have d4:((kd:Int) == 4)=false:=by rw[beq_eq_false_iff_ne];omega
   have d5:((kd:Int) == 5)=false:=by rw[beq_eq_false_iff_ne];omega
   have d6:((kd:Int) == 6)=false:=by rw[beq_eq_false_iff_ne];omega
   have d7:((kd:Int) == 7)=false:=by rw[beq_eq_false_iff_ne];omega
   have d8:((kd:Int) == 8)=false:=by rw[beq_eq_false_iff_ne];omega
   have d9:((kd:Int) == 9)=false:=by rw[beq_eq_false_iff_ne];omega
   have d10:((kd:Int) == 10)=false:=by rw[beq_eq_false_iff_ne];omega
   have d11:((kd:Int) == 11)=false:=by rw[beq_eq_false_iff_ne];omega
   go_upto_region 4 with fail
   go_region_with (first
    | (go_at_call 19;with_reducible refine(kq1 _).mono ?_;rintro e w0 ⟨rfl,hw⟩;replace hw:=hw.symm;subst hw)
    | (go_at_call 19;with_reducible refine(kq2 _).mono ?_;rintro e w0 ⟨rfl,hw⟩;replace hw:=hw.symm;subst hw)
    | (go_at_call 19;with_reducible refine(kq3 _).mono ?_;rintro e w0 ⟨rfl,hw⟩;replace hw:=hw.symm;subst hw)
    | (go_at_call 13;refine(kC' _).mono ?_;rintro e w2 ⟨rfl,hh⟩;have HH:=hide hh;clear hh))
   all_goals
    go_wp2
    go_ret
    exact HH.out
end
end Go.Proofs.YtoijpogadkogcaaGreat
