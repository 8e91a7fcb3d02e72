import Derived.Test.YtoijpogadkogcaaGreatRm
namespace Go.Proofs.YtoijpogadkogcaaGreat
open Go.RowKit
set_option maxRecDepth 100000
theorem zzbax(a:Option Addr)(n cap:Nat):sliced a 0 n cap 1 = .slice a n cap:=by
 unfold sliced;cases a with
 | none=>simp
 | some x=>simp[Addr.add]
theorem zae.midK{w:World}{a:Option Addr}{n cap:Nat}{l:Bytes}(h:zae w (.slice a n cap) l)(k m:Nat)(hk:k<=m)(hm:m<=l.length):zae w (sliced a k m cap 1) ((l.take m).drop k):=by have h1:=zae.take h m hm;rw[zzbax] at h1;exact zae.drop h1 k (by rw[List.length_take];omega)
theorem zzbay(W:World)(a:Option Addr)(n cap k m:Nat)(hk:k<=m)(hm:m<=cap):(Instr.slice 34 (.slice a n cap) (some (.int .i64 (k:Int))) (some (.int .i64 (m:Int))) none).run Tryz.prog W = .ok (sliced a k m cap 1) W:=by rw[run_slice_lh W 34 _ n cap (by rw[zam];exact Tryz.underlying34) .i64 .i64 (k:Int) (m:Int) (by omega) (by omega) (by omega),zam,zbl];simp[Result.andThen]
theorem LS.inCells{own:LN->Res}{ls:List Line}{xs:List Value}(h:LS own ls xs){k:Nat}{t:Line}(hk:ls[k]? = some t)(c:Bool) :
  ∃ v,xs[10*k]? = some (.int .i64 (t.id:Int))/\xs[10*k+1]? = some (.bool (t.id%2 == 1))/\xs[10*k+8]? = some (.bool t.reset)/\xs[10*k+wi c]? = some v/\SentAt own (3*k+(if c then 2 else 1)) v (t.inn c).sent/\xs[10*k+(wi c+1)]? = some (.int .i64 ((t.inn c).read:Int))/\xs[10*k+(wi c+2)]? = some (.bool (t.inn c).ended):=by
 obtain⟨vc,vs,vh,h1,h2,h3,-⟩:=h.at_ k t hk;cases c
 ·exact⟨vc,h1 0 (by omega),h1 1 (by omega),h1 8 (by omega),h1 2 (by omega),h2,h1 3 (by omega),h1 4 (by omega)⟩
 ·exact⟨vs,h1 0 (by omega),h1 1 (by omega),h1 8 (by omega),h1 5 (by omega),h3,h1 6 (by omega),h1 7 (by omega)⟩
theorem LS.setRead{own own':LN->Res}{ls:List Line}{xs:List Value}(h:LS own ls xs){k:Nat}{t:Line}(hk:ls[k]? = some t)(c:Bool)(n:Nat)(ho:∀ i,own' (.e i)=own (.e i)) :
  LS own' (ls.modify k λx=>x.setIn c { (x.inn c) with read:=n }) (xs.set (10*k+(wi c+1)) (.int .i64 (n:Int))):=by
 have hkl:k<ls.length:=(List.getElem?_eq_some_iff.1 hk).1;have hlen:=h.len;have hw:wi c=2\/wi c=5:=by cases c;exact .inl rfl;exact .inr rfl
 obtain⟨vc,vs,vh,h1,h2,h3,h4⟩:=h.at_ k t hk;refine h.mod hk _ (List.length_set ..) (λj hj => ?_) (λi hi=>ho i) ?_
 ·rw[zgw _ _ _ _ (by omega),if_neg (by omega)]
 ·refine⟨vc,vs,vh,λj hj => ?_,?_,?_,?_⟩
  ·cases c
   ·rw[zgw _ _ _ _ (by omega)];have e5:wi false+1=3:=rfl;rw[e5];by_cases e:j=3
    ·rw[if_pos (by omega),e];rfl
    ·rw[if_neg (by omega),h1 j hj]
     match j,hj,e with
     | 0,_,_=>rfl
     | 1,_,_=>rfl
     | 2,_,_=>rfl
     | 3,_,e=>exact absurd rfl e
     | 4,_,_=>rfl
     | 5,_,_=>rfl
     | 6,_,_=>rfl
     | 7,_,_=>rfl
     | 8,_,_=>rfl
     | 9,_,_=>rfl
   ·rw[zgw _ _ _ _ (by omega)];have e5:wi true+1=6:=rfl;rw[e5];by_cases e:j=6
    ·rw[if_pos (by omega),e];rfl
    ·rw[if_neg (by omega),h1 j hj]
     match j,hj,e with
     | 0,_,_=>rfl
     | 1,_,_=>rfl
     | 2,_,_=>rfl
     | 3,_,_=>rfl
     | 4,_,_=>rfl
     | 5,_,_=>rfl
     | 6,_,e=>exact absurd rfl e
     | 7,_,_=>rfl
     | 8,_,_=>rfl
     | 9,_,_=>rfl
  ·cases c<;>exact h2.alike (ho _)
  ·cases c<;>exact h3.alike (ho _)
  ·cases c<;>exact(ho _).trans h4
def RdX(c:Bool)(d:Ds)(ls:List Line)(k most:Nat)(d':Ds)(ls':List Line):Prop:=∀ t,ls[k]? = some t ->
 (Ds.read? (d.find (t.id:Int)) (most:Int)≠0/\d'=d/\ls'=ls)\/(Ds.read? (d.find (t.id:Int)) (most:Int)=0/\d'=d.read (d.find (t.id:Int)) (Ds.readN (d.find (t.id:Int)) (most:Int))/\ls'=ls.modify k λx=>x.setIn c { (x.inn c) with read:=(x.inn c).read+Ds.readN (d.find (t.id:Int)) (most:Int) })
theorem RdX.no{c:Bool}{d:Ds}{ls:List Line}{k most:Nat}{t:Line}(ht:ls[k]? = some t)(h:Ds.read? (d.find (t.id:Int)) (most:Int)≠0):RdX c d ls k most d ls:=λu hu=>by
 rw[ht] at hu;injection hu with hu
 subst hu;exact .inl ⟨h,rfl,rfl⟩
theorem RdX.yes{c:Bool}{d:Ds}{ls:List Line}{k most n:Nat}{t:Line}(ht:ls[k]? = some t)(h:Ds.read? (d.find (t.id:Int)) (most:Int)=0)(hn:n=Ds.readN (d.find (t.id:Int)) (most:Int)):RdX c d ls k most (d.read (d.find (t.id:Int)) n) (ls.modify k λx=>x.setIn c { (x.inn c) with read:=(x.inn c).read+n }):=λu hu=>by
 rw[ht] at hu;injection hu with hu
 subst hu;subst hn;exact .inr ⟨h,rfl,rfl⟩
theorem SB.inn{ls:List Line}{S:Nat}(h:SB ls S){t:Line}(ht:t∈ls)(c:Bool):(t.inn c).sent.length<=S:=by
 cases c
 ·exact(h t ht).1
 ·exact(h t ht).2
theorem LK.readLe{p:Nat}{cl:Bool}{nA nB:Nat}{d e:Ds}{u v:Bytes}{ls:List Line}(c:Bool){r:Nat->Bool}{h:Nat->zal}(H:LK p cl nA nB d e u v (zfy c ls) (wIn c ls) r h){k:Nat}{t:Line}(hk:ls[k]? = some t)(hn:(ls.map Line.id).Nodup):(t.inn c).read<=(t.inn c).sent.length:=by
 have hw:=zjp c hk hn;generalize zfy c ls=wA at H;generalize wIn c ls=wB at H hw;obtain⟨A,B,U,D,CA,CB,h1,h2,S,-⟩:=H
 have:=S.ba.q0 t.id
 rw[hw] at this;exact this
section
variable {own:LN->Res} {gl gx gy:Nat} {dx dy:Ds} {vu vd vl:Value} {up down:Bytes} {ls:List Line} {xs:List Value} {lv:Bool} {wb w:World} {p m L S:Nat}
set_option maxHeartbeats 12800000 in
theorem zxm(h:zak own gl gx gy dx dy vu vd vl up down ls.length xs lv)(hs:Sep wb w own)(hl:LS own ls xs)(hsb:SB ls S)(hS:S<=100000)(H:TD true dx dy up down ls p (m+3) L)(hm6:10<=m)(hev:dx.ev=[]\/p<=2)(k:Nat)(hk:k<ls.length)(most:Nat)(hmo:most<=1000) :
  Calls Tryz.prog 14 #[.pointer (some ⟨gl,0,none⟩),.int .i64 (k:Int),.bool true,.int .i64 (most:Int)] w (RWrx wb gl gx gy dx dy vu vd vl up down lv own ls (RdX true dx ls k most) p m L S):=by
 obtain⟨al,ol,cl,hvl,hcl⟩:=h.linesV hs (by omega);subst hvl;obtain⟨t,ht⟩:∃ t,ls[k]? = some t:=⟨_,List.getElem?_eq_getElem hk⟩;obtain⟨vi,x0,x1,x8,xv,si,xr,xe⟩:=hl.inCells ht true;have hid:=H.line ht;have hlen:=hl.len;obtain⟨ai,ci,hvi⟩:=si.slice hs;have hib:(t.inn true).sent.length<=S:=hsb.inn (List.mem_of_getElem? ht) true;have hrb:=H.lk.readLe true ht H.nodup;have s0:=hs.drop .o;have l0:zak (upd own .o .none) gl gx gy dx dy vu vd (.slice (some ⟨al,ol,none⟩) ls.length cl) up down ls.length xs lv:=h.alike (λn _ hn=>zac _ _ hn);have z0:upd own .o .none .o = .none:=zag _ _ _;have e0:∀ i,upd own .o .none (.e i)=own (.e i):=λi=>zac _ _ (λe=>by cases e)
 obtain⟨own0,hown0⟩:∃ own0,upd own .o .none=own0:=⟨_,rfl⟩;rw[hown0] at s0 l0 z0 e0;have hl0:=hl.alike e0;have si0:=si.alike (e0 _);clear hs h hl si hown0;have g4:w.cell? ⟨gl,4,none⟩=some (.slice (some ⟨al,ol,none⟩) ls.length cl):=l0.cc s0 4;have kw:Calls Tryz.prog 15 #[.pointer (some ⟨al,ol+k*10,none⟩),.bool true] w λe w'=>e = .returned (.tuple #[.pointer (some ⟨al,ol+k*10+2,none⟩),.pointer (some ⟨al,ol+k*10+5,none⟩)])/\Ext w w':=zfn al (ol+k*10) true w;have HC:Hid (∀ (wz:World) (oz:LN->Res) (da db:Ds),Sep wb wz oz->zak oz gl gx gy da db vu vd (.slice (some ⟨al,ol,none⟩) ls.length cl) up down ls.length xs lv->wz.cell? ⟨al,ol+k*10,none⟩=some (.int .i64 (t.id:Int))/\wz.cell? ⟨al,ol+k*10+1,none⟩=some (.bool (t.id%2 == 1))/\wz.cell? ⟨al,ol+k*10+8,none⟩=some (.bool t.reset)/\wz.cell? ⟨al,ol+k*10+5,none⟩=some (.slice ai (t.inn true).sent.length ci)/\wz.cell? ⟨al,ol+k*10+5+1,none⟩=some (.int .i64 ((t.inn true).read:Int))/\wz.cell? ⟨al,ol+k*10+5+2,none⟩=some (.bool (t.inn true).ended)/\wz.frozen? ⟨al,ol+k*10+5+1,none⟩=false):=λwz oz da db q1 q2=>by
  have cell:∀ j u,j<10->xs[10*k+j]? = some u->wz.cell? ⟨al,ol+k*10+j,none⟩=some u:=λj u hj hx=>by
   have:=(q2.line q1 (10*k+j) (by omega)).1
   rw[hx] at this;rw[<-this];congr 2;omega
  have e1:ol+k*10+5+1=ol+k*10+(5+1):=by omega
  have e2:ol+k*10+5+2=ol+k*10+(5+2):=by omega
  rw[hvi] at xv;refine⟨cell 0 _ (by omega) x0,cell 1 _ (by omega) x1,cell 8 _ (by omega) x8,cell 5 _ (by omega) xv,?_,?_,?_⟩
  ·rw[e1];exact cell (5+1) _ (by omega) xr
  ·rw[e2];exact cell (5+2) _ (by omega) xe
  ·have:=(q2.line q1 (10*k+(5+1)) (by omega)).2
   have e3:ol+k*10+5+1=ol+(10*k+(5+1)):=by omega
   rw[e3];exact this
 have HR:=hide (H.reads ht hev (most:Int) (by omega));have HKR:Hid (∀ w1:World,Ext w w1->Calls Tryz.prog 17 #[.pointer (some ⟨gx,0,none⟩),.int .i64 (t.id:Int),.int .i64 (most:Int)] w1 λe w' => ∃ vo own',Sep wb w' own'/\(∀ n,n ≠ .o->(∀ x,n≠LN.x x)->own' n=own0 n) /\
   ((Ds.read? (dx.find (t.id:Int)) (most:Int)≠0/\e = .returned (.tuple #[.slice none 0 0,.int .i64 (Ds.read? (dx.find (t.id:Int)) (most:Int):Int)])/\zar own' LN.x gx dx/\own' .o = .none) \/
   (Ds.read? (dx.find (t.id:Int)) (most:Int)=0/\e = .returned (.tuple #[vo,.int .i64 0])/\zar own' LN.x gx (dx.read (dx.find (t.id:Int)) (Ds.readN (dx.find (t.id:Int)) (most:Int)))/\own' .o = .row 5 1 vo (Ds.readN (dx.find (t.id:Int)) (most:Int)) (zab ((dx.find (t.id:Int)).unread.take (Ds.readN (dx.find (t.id:Int)) (most:Int))))))):=λw1 he=>zjm l0.ex (s0.ext he) (H.od.fits.mono (by omega)) (t.id:Int) (most:Int) (by omega) (by omega) (by omega) .o (λ_ e=>by cases e) z0
 go_enter Tryz.func14,Tryz.ntmps14
 go_wp2_with fail
 refine kw.mono ?_;rintro e w1 ⟨rfl,he1⟩;have S1:=s0.ext he1;obtain⟨c0,-⟩:=HC.out w1 own0 dx dy S1 l0;have c0d:w1.drew.cell? ⟨al,ol+k*10,none⟩=some (.int .i64 (t.id:Int)):=c0;have g0:w1.drew.cell? ⟨gl,0,none⟩=some (.pointer (some ⟨gx,0,none⟩)):=l0.cc S1 0;have g1:w1.drew.cell? ⟨gl,1,none⟩=some (.pointer (some ⟨gy,0,none⟩)):=l0.cc S1 1;have ke:Calls Tryz.prog 16 #[.pointer (some ⟨gl,0,none⟩),.bool true] w1.drew λe w'=>e = .returned (.pointer (some ⟨gx,0,none⟩))/\w'=w1.drew:=zdl true w1.drew g0 g1;have kR:=HKR.out w1.drew (he1.trans (Ext.refl w1).drew);have HL0:=hide l0;have HLS:=hide hl0;have HSI:=hide si0;have HVI:=hide hvi;clear kw g4 S1 s0 l0 hl0 si0 hvi x0 x1 x8 xv xr xe g0 g1 he1 HKR z0;have HK:Hid (∀ (e:Ending) (w6:World),(∃ vo own',Sep wb w6 own'/\(∀ n,n ≠ .o->(∀ x,n≠LN.x x)->own' n=own0 n) /\
   ((Ds.read? (dx.find (t.id:Int)) (most:Int)≠0/\e = .returned (.tuple #[.slice none 0 0,.int .i64 (Ds.read? (dx.find (t.id:Int)) (most:Int):Int)])/\zar own' LN.x gx dx/\own' .o = .none) \/
   (Ds.read? (dx.find (t.id:Int)) (most:Int)=0/\e = .returned (.tuple #[vo,.int .i64 0])/\zar own' LN.x gx (dx.read (dx.find (t.id:Int)) (Ds.readN (dx.find (t.id:Int)) (most:Int)))/\own' .o = .row 5 1 vo (Ds.readN (dx.find (t.id:Int)) (most:Int)) (zab ((dx.find (t.id:Int)).unread.take (Ds.readN (dx.find (t.id:Int)) (most:Int))))))) ->
   ∃ (a:Option Addr) (n cap er:Nat) (own2:LN->Res),e = .returned (.tuple #[.slice a n cap,.int .i64 (er:Int)])/\Hid (Sep wb w6 own2/\(∀ n,n ≠ .o->(∀ x,n≠LN.x x)->own2 n=own0 n)/\er=Ds.read? (dx.find (t.id:Int)) (most:Int)/\(er≠0->zar own2 LN.x gx dx/\own2 .o = .none)/\(er=0->n=Ds.readN (dx.find (t.id:Int)) (most:Int)/\zar own2 LN.x gx (dx.read (dx.find (t.id:Int)) n)/\zae w6 (.slice a n cap) ((dx.find (t.id:Int)).unread.take n)))):=by
  rintro e w6 ⟨vo,own',q1,q2,q3⟩;rcases q3 with ⟨q3,q4,q5,q6⟩ | ⟨q3,q4,q5,q6⟩
  ·exact⟨none,0,0,_,own',q4,q1,q2,rfl,λ_=>⟨q5,q6⟩,λe=>absurd e q3⟩
  ·have hO:=(show OwnAt w6 5 1 vo (Ds.readN (dx.find (t.id:Int)) (most:Int)) _ from q1.get q6);obtain⟨a,cap,hv,-,-⟩:=hO.slice;subst hv;have hnl:((dx.find (t.id:Int)).unread.take (Ds.readN (dx.find (t.id:Int)) (most:Int))).length=Ds.readN (dx.find (t.id:Int)) (most:Int):=by
    rw[List.length_take];unfold Ds.readN;omega
   have hB:zae w6 (.slice a (Ds.readN (dx.find (t.id:Int)) (most:Int)) cap) ((dx.find (t.id:Int)).unread.take (Ds.readN (dx.find (t.id:Int)) (most:Int))):=OwnAt.isBytes (zbv hO hnl.symm rfl);exact⟨a,_,cap,0,own',q4,q1,q2,q3.symm,λe=>absurd rfl e,λ_=>⟨rfl,q5,hB⟩⟩
 go_upto_region 3 with fail
 go_cut [12,13] from 28 to 39 (λs12 s13 wx => ∃ (a:Option Addr) (n cap er:Nat) (own2:LN->Res),s12 = .slice a n cap/\s13 = .int .i64 (er:Int)/\Hid (Sep wb wx own2/\(∀ n,n ≠ .o->(∀ x,n≠LN.x x)->own2 n=own0 n)/\er=Ds.read? (dx.find (t.id:Int)) (most:Int)/\(er≠0->zar own2 LN.x gx dx/\own2 .o = .none)/\(er=0->n=Ds.readN (dx.find (t.id:Int)) (most:Int)/\zar own2 LN.x gx (dx.read (dx.find (t.id:Int)) n)/\zae wx (.slice a n cap) ((dx.find (t.id:Int)).unread.take n))))
 case first =>
  go_region_with (first
   | (go_at_call 16;refine ke.mono ?_;rintro e w0 ⟨rfl,hw⟩;replace hw:=hw.symm;subst hw)
   | (go_at_call 17;refine kR.mono ?_;intro e w6 hh;obtain⟨a,n,cap,er,own2,rfl,HW⟩:=HK.out e w6 hh;clear hh))
  all_goals
   go_wp2_with fail
   go_meet
   exact⟨a,n,cap,er,own2,rfl,rfl,HW⟩
 case rest =>
  obtain⟨a,n,cap,er,own2,rfl,rfl,HW⟩:=hcut;clear kR ke HK c0 c0d;have hS2:=HW.out.1;have he2:∀ i,own2 (.e i)=own0 (.e i):=λi=>HW.out.2.1 (.e i) (λe=>by cases e) (λx e=>by cases e)
  have HS2:=hide hS2;have HE2:=hide he2;have HZ2:Hid (own2 (.e 1000)=own (.e 1000)):=(he2 1000).trans (e0 1000);have HLS2:=hide (HLS.out.alike he2);rcases HR.out with ⟨h1,h2⟩ | ⟨h1,h2⟩ | ⟨h1,h2,h3⟩ | ⟨h1,n',h2,h3,h4,h5⟩
  ·have HX:Hid (RdX true dx ls k most dx ls):=RdX.no ht (by rw[h1];omega);obtain rfl:er=6:=HW.out.2.2.1.trans h1;have L2:=HL0.out.withX (HW.out.2.2.2.1 (by omega)).1 (λn q1 q2 q3=>HW.out.2.1 n q2 q3);obtain⟨c0,c1,c8,cv,cr,ce,-⟩:=HC.out wc own2 dx dy hS2 L2;rw[h2] at cr;have cr':wc.cell? ⟨al,ol+k*10+5+1,none⟩=some (.int .i64 0):=cr;have HL2:=hide L2;clear cr L2 hS2 he2 HW h1 h2 HC cv ce c8 c1
   go_wp2
   go_ret
   exact⟨rfl,own2,ls,xs,dx,HS2.out,HL2.out,HLS2.out,hsb,rfl,H.mono (by omega),zcr.refl _ _ _,HZ2.out,HX.out⟩
  ·have HX:Hid (RdX true dx ls k most dx ls):=RdX.no ht (by rw[h1];omega);obtain rfl:er=7:=HW.out.2.2.1.trans h1;obtain⟨hX2,hz2⟩:=HW.out.2.2.2.1 (by omega);have L2:=HL0.out.withX hX2 (λn q1 q2 q3=>HW.out.2.1 n q2 q3);obtain⟨c0,-⟩:=HC.out wc own2 dx dy hS2 L2;have c0d:wc.drew.cell? ⟨al,ol+k*10,none⟩=some (.int .i64 (t.id:Int)):=c0;have g0:wc.drew.cell? ⟨gl,0,none⟩=some (.pointer (some ⟨gx,0,none⟩)):=L2.cc hS2 0;have g1:wc.drew.cell? ⟨gl,1,none⟩=some (.pointer (some ⟨gy,0,none⟩)):=L2.cc hS2 1;have ke:Calls Tryz.prog 16 #[.pointer (some ⟨gl,0,none⟩),.bool true] wc.drew λe w'=>e = .returned (.pointer (some ⟨gx,0,none⟩))/\w'=wc.drew:=zdl true wc.drew g0 g1;have kH:=zgf L2.ex (hS2.ext (Ext.refl wc).drew) (H.od.fits.mono (by omega)) (t.id:Int) (by omega) (by omega) .o (λ_ e=>by cases e) hz2;have HK:Hid (∀ (e:Ending) (w6:World),(∃ own',Sep wb w6 own'/\zar own' LN.x gx dx/\(∀ n,n ≠ .o->(∀ x,n≠LN.x x)->own' n=own2 n)/\((dx.headers? (t.id:Int)=none/\e = .returned (.tuple #[.slice none 0 0,.int .i64 6])/\own' .o = .none)\/(∃ hd vo,dx.headers? (t.id:Int)=some hd/\e = .returned (.tuple #[vo,.int .i64 0])/\own' .o = .row 122 2 vo hd.length (zap hd)))) ->
     ∃ (a2:Option Addr) (n2 k2 e2:Nat) (own3:LN->Res),e = .returned (.tuple #[.slice a2 n2 k2,.int .i64 (e2:Int)])/\Hid (Sep wb w6 own3/\zar own3 LN.x gx dx/\(∀ n,n ≠ .o->(∀ x,n≠LN.x x)->own3 n=own2 n)/\(dx.headers? (t.id:Int)=none->e2=6))):=by
    rintro e w6 ⟨own',q1,q2,q3,q4⟩;rcases q4 with ⟨q4,q5,q6⟩ | ⟨hd,vo,q4,q5,q6⟩
    ·exact⟨none,0,0,6,own',q5,q1,q2,q3,λ_=>rfl⟩
    ·obtain⟨a2,k2,hv,-,-⟩:=(show OwnAt w6 122 2 vo hd.length _ from q1.get q6).slice;subst hv;exact⟨a2,hd.length,k2,0,own',q5,q1,q2,q3,λe=>by rw[e] at q4;cases q4⟩
   have HL2:=hide L2;have HH2:=hide h2;clear L2 hX2 hz2 HW hS2 he2 h1 h2 g0 g1
   go_upto_region 8 with fail
   go_cut [14,15] from 50 to 60 (λs14 s15 wx => ∃ (a2:Option Addr) (n2 k2 e2:Nat) (own3:LN->Res),s14 = .slice a2 n2 k2/\s15 = .int .i64 (e2:Int)/\Hid (Sep wb wx own3/\zar own3 LN.x gx dx/\(∀ n,n ≠ .o->(∀ x,n≠LN.x x)->own3 n=own2 n)/\(dx.headers? (t.id:Int)=none->e2=6)))
   case first =>
    go_region_with (first
     | (go_at_call 16;refine ke.mono ?_;rintro e w0 ⟨rfl,hw⟩;replace hw:=hw.symm;subst hw)
     | (go_at_call 31;refine kH.mono ?_;intro e w6 hh;obtain⟨a2,n2,k2,e2,own3,rfl,HV⟩:=HK.out e w6 hh;clear hh))
    all_goals
     go_wp2_with fail
     go_meet
     exact⟨a2,n2,k2,e2,own3,rfl,rfl,HV⟩
   case rest =>
    obtain⟨a2,n2,k2,e2,own3,rfl,rfl,HV⟩:=hcut;have hS3:=HV.out.1;have L3:=HL2.out.withX HV.out.2.1 (λn q1 q2 q3=>HV.out.2.2.1 n q2 q3);have HZ3:Hid (own3 (.e 1000)=own (.e 1000)):=(HV.out.2.2.1 (.e 1000) (λe=>by cases e) (λx e=>by cases e)).trans HZ2.out;have HLS3:=hide (HLS2.out.alike (own':=own3) (λi=>HV.out.2.2.1 (.e i) (λe=>by cases e) (λx e=>by cases e)));obtain⟨c0,c1,c8,cv,cr,ce,-⟩:=HC.out wc own3 dx dy hS3 L3;have g5:wc.cell? ⟨gl,5,none⟩=some (.bool lv):=L3.cc hS3 5;have HS3:=hide hS3;have HL3:=hide L3;have HQ:=hide HV.out.2.2.2;clear L3 hS3 HV kH ke HK;by_cases hrs:t.reset=true
    ·rw[hrs] at c8;clear hrs HQ
     go_wp2
     go_ret
     exact⟨rfl,own3,ls,xs,dx,HS3.out,HL3.out,HLS3.out,hsb,rfl,H.mono (by omega),zcr.refl _ _ _,HZ3.out,HX.out⟩
    ·have hrs':t.reset=false:=by cases hx:t.reset;rfl;exact absurd hx hrs
     obtain⟨q1,q2,q3⟩:dx.headers? (t.id:Int)=none/\ownB true t.id=false/\(t.inn true).read=0:=HH2.out.resolve_left hrs;obtain rfl:e2=6:=HQ.out q1;have hby:(t.id%2 == 1)=false:=by unfold ownB at q2;cases hx:(t.id%2 == 1)<;>rw[hx] at q2<;>simp_all
     rw[hrs'] at c8;rw[hby] at c1;rw[q3] at cr;have cr':wc.cell? ⟨al,ol+k*10+5+1,none⟩=some (.int .i64 0):=cr;clear hrs hrs' q1 q2 q3 hby cr HQ HH2;cases lv
     ·go_wp2
      go_ret
      exact⟨rfl,own3,ls,xs,dx,HS3.out,HL3.out,HLS3.out,hsb,rfl,H.mono (by omega),zcr.refl _ _ _,HZ3.out,HX.out⟩
     ·go_wp2
      go_ret
      exact⟨rfl,own3,ls,xs,dx,HS3.out,HL3.out,HLS3.out,hsb,rfl,H.mono (by omega),zcr.refl _ _ _,HZ3.out,HX.out⟩
  ·have HX:Hid (RdX true dx ls k most dx ls):=RdX.no ht (by rw[h1];omega);obtain rfl:er=8:=HW.out.2.2.1.trans h1;have L2:=HL0.out.withX (HW.out.2.2.2.1 (by omega)).1 (λn q1 q2 q3=>HW.out.2.1 n q2 q3);obtain⟨c0,c1,c8,cv,cr,ce,-⟩:=HC.out wc own2 dx dy hS2 L2;rw[h3] at cr;rw[h2] at ce;have HL2:=hide L2;clear L2 hS2 he2 HW h1 h2 h3 HC c8 c1;generalize (t.inn true).sent.length=sl at *
   go_wp2_with fail
   go_quiet (fail)
   all_goals
    go_wp2
    go_ret
    exact⟨rfl,own2,ls,xs,dx,HS2.out.ext (zay wc _),HL2.out,HLS2.out,hsb,rfl,H.mono (by omega),zcr.refl _ _ _,HZ2.out,HX.out⟩
  ·obtain rfl:er=0:=HW.out.2.2.1.trans h1;obtain⟨w1',w2',w3'⟩:=HW.out.2.2.2.2 rfl;obtain rfl:n=n':=w1'.trans h2.symm;have HX:=hide (RdX.yes (c:=true) ht h1 h2);have hnm:n<=most:=by rw[h2];unfold Ds.readN;omega
   have L2:=HL0.out.withX w2' (λn q1 q2 q3=>HW.out.2.1 n q2 q3);obtain⟨c0,c1,c8,cv,cr,ce,tr⟩:=HC.out wc own2 (dx.read (dx.find (t.id:Int)) n) dy hS2 L2;have hBi:zae wc (.slice ai (t.inn true).sent.length ci) (t.inn true).sent:=by
    have:=(HSI.out.alike (he2 _)).isBytes hS2
    rwa [HVI.out] at this
   have hci:(t.inn true).sent.length<=ci:=by obtain⟨a',cap',e',q1,-⟩:=hBi;simp only[Value.slice.injEq] at e';omega
   have hBm:=hBi.midK (t.inn true).read ((t.inn true).read+n) (by omega) h3;have hZ:((t.inn true).sent.take ((t.inn true).read+n)).drop (t.inn true).read=((t.inn true).sent.drop (t.inn true).read).take n:=by rw[List.drop_take];congr 1;omega
   rw[hZ] at hBm;rw[h4] at w3';have hZl:(((t.inn true).sent.drop (t.inn true).read).take n).length=n:=by rw[List.length_take,List.length_drop];omega
   obtain⟨am,cm,hvm,-,-,-⟩:=hBm;have hBm:=hBi.midK (t.inn true).read ((t.inn true).read+n) (by omega) h3;rw[hZ,hvm] at hBm;rw[hZl] at hvm hBm;have hrun:∀ W:World,(Instr.slice 34 (.slice ai (t.inn true).sent.length ci) (some (.int .i64 ((t.inn true).read:Int))) (some (.int .i64 (((t.inn true).read:Int)+(n:Int)))) none).run Tryz.prog W = .ok (.slice am n cm) W:=λW=>by
    have e1:((t.inn true).read:Int)+(n:Int)=(((t.inn true).read+n:Nat):Int):=by omega
    rw[e1,zzbay W ai _ ci _ _ (by omega) (by omega),hvm]
   generalize hZZ:((t.inn true).sent.drop (t.inn true).read).take n=Z at *;have hcv1:∀ q,(convert 34 9 (.slice a n cap)).run Tryz.prog (wc.drewN q) = .ok (.string ⟨Z.toArray⟩) (wc.drewN q):=λq=>zgn (w3'.ext (zay wc q));have hcv2:∀ q,(convert 34 9 (.slice am n cm)).run Tryz.prog (wc.drewN q) = .ok (.string ⟨Z.toArray⟩) (wc.drewN q):=λq=>zgn (hBm.ext (zay wc q));have b1:decide (most<n)=false:=by simp;omega
   have b1':decide ((most:Int)<(n:Int))=false:=by simp;omega
   have hrl:(t.inn true).read+n<=(t.inn true).sent.length:=h3;have HT5:=hide h5;have HL2:=hide L2;have HTL:=hide ht;clear h1 h2 h4 h5 w1' w2' w3' hBi hBm hZ hZl hvm hZZ HW L2 hS2 he2 c0 c1 c8 ce;have hrb':(t.inn true).sent.length<=100000:=by omega
   generalize hrd:(t.inn true).read=rd at *;generalize hsl:(t.inn true).sent.length=sl at *;have HRD:=hide hrd;clear hrd hsl h3;have b2:decide (sl<rd+n)=false:=by simp;omega
   have b2':decide ((sl:Int)<(rd:Int)+(n:Int))=false:=by simp;omega
   have hwr:IntKind.i64.wrap ((rd:Int)+(n:Int))=(rd:Int)+(n:Int):=by
    have:=zjx (rd+n) (by omega)
    have e1:((rd+n:Nat):Int)=(rd:Int)+(n:Int):=by omega
    rw[e1] at this;exact this
   have crq:∀ q,(wc.drewN q).cell? ⟨al,ol+k*10+5+1,none⟩=some (.int .i64 (rd:Int)):=λq=>cr;have trq:∀ q,(wc.drewN q).frozen? ⟨al,ol+k*10+5+1,none⟩=false:=λq=>tr;have HKEY:Hid (∀ q,RWrx wb gl gx gy dx dy vu vd (.slice (some ⟨al,ol,none⟩) ls.length cl) up down lv own ls (RdX true dx ls k most) p m L S (.returned (.bool true)) ((wc.drewN q).setCell ⟨al,ol+k*10+5+1,none⟩ (.int .i64 ((rd:Int)+(n:Int))))):=λq=>by
    obtain⟨own6,S6,L6,e6⟩:=HL2.out.setLine (HS2.out.ext (zay wc q)) (10*k+(5+1)) (.int .i64 ((rd:Int)+(n:Int)));have ea:ol+(10*k+(5+1))=ol+k*10+5+1:=by omega
    rw[ea] at S6;have e1:((rd+n:Nat):Int)=(rd:Int)+(n:Int):=by omega
    have hLS:=HLS2.out.setRead (own':=own6) HTL.out true (rd+n) (λi=>e6 i);rw[e1] at hLS;have eL:(ls.modify k λx=>x.setIn true { (x.inn true) with read:=(x.inn true).read+n })=(ls.modify k λx=>x.setIn true { (x.inn true) with read:=rd+n }):=zka HTL.out _ _ (by show t.setIn true { (t.inn true) with read:=(t.inn true).read+n }=_;rw[HRD.out]);have hT:=HT5.out;rw[eL] at hT;refine⟨rfl,own6,_,_,_,S6,?_,hLS,?_,List.length_modify ..,hT.1,hT.2,(e6 1000).trans HZ2.out,by rw[<-eL];exact HX.out⟩
    ·rw[List.length_modify];exact L6
    ·refine SB.mod1 hsb HTL.out _ ?_;exact hsb t (List.mem_of_getElem? HTL.out)
   clear cr tr HS2 HE2 HLS2 HT5 HL2 HTL HRD HC HR HLS HSI HVI HL0
   go_wp2_with fail
   go_quiet (fail)
   all_goals
    go_wp2
    go_ret
    exact HKEY.out _
set_option maxHeartbeats 12800000 in
theorem zxn(h:zak own gl gx gy dx dy vu vd vl up down ls.length xs lv)(hs:Sep wb w own)(hl:LS own ls xs)(hsb:SB ls S)(hS:S<=100000)(H:TD false dy dx down up ls p (m+3) L)(hm6:10<=m)(hev:dy.ev=[]\/p<=2)(k:Nat)(hk:k<ls.length)(most:Nat)(hmo:most<=1000) :
  Calls Tryz.prog 14 #[.pointer (some ⟨gl,0,none⟩),.int .i64 (k:Int),.bool false,.int .i64 (most:Int)] w (RWry wb gl gx gy dx dy vu vd vl up down lv own ls (RdX false dy ls k most) p m L S):=by
 obtain⟨al,ol,cl,hvl,hcl⟩:=h.linesV hs (by omega);subst hvl;obtain⟨t,ht⟩:∃ t,ls[k]? = some t:=⟨_,List.getElem?_eq_getElem hk⟩;obtain⟨vi,x0,x1,x8,xv,si,xr,xe⟩:=hl.inCells ht false;have hid:=H.line ht;have hlen:=hl.len;obtain⟨ai,ci,hvi⟩:=si.slice hs;have hib:(t.inn false).sent.length<=S:=hsb.inn (List.mem_of_getElem? ht) false;have hrb:=H.lk.readLe false ht H.nodup;have s0:=hs.drop .o;have l0:zak (upd own .o .none) gl gx gy dx dy vu vd (.slice (some ⟨al,ol,none⟩) ls.length cl) up down ls.length xs lv:=h.alike (λn _ hn=>zac _ _ hn);have z0:upd own .o .none .o = .none:=zag _ _ _;have e0:∀ i,upd own .o .none (.e i)=own (.e i):=λi=>zac _ _ (λe=>by cases e)
 obtain⟨own0,hown0⟩:∃ own0,upd own .o .none=own0:=⟨_,rfl⟩;rw[hown0] at s0 l0 z0 e0;have hl0:=hl.alike e0;have si0:=si.alike (e0 _);clear hs h hl si hown0;have g4:w.cell? ⟨gl,4,none⟩=some (.slice (some ⟨al,ol,none⟩) ls.length cl):=l0.cc s0 4;have kw:Calls Tryz.prog 15 #[.pointer (some ⟨al,ol+k*10,none⟩),.bool false] w λe w'=>e = .returned (.tuple #[.pointer (some ⟨al,ol+k*10+5,none⟩),.pointer (some ⟨al,ol+k*10+2,none⟩)])/\Ext w w':=zfn al (ol+k*10) false w;have HC:Hid (∀ (wz:World) (oz:LN->Res) (da db:Ds),Sep wb wz oz->zak oz gl gx gy da db vu vd (.slice (some ⟨al,ol,none⟩) ls.length cl) up down ls.length xs lv->wz.cell? ⟨al,ol+k*10,none⟩=some (.int .i64 (t.id:Int))/\wz.cell? ⟨al,ol+k*10+1,none⟩=some (.bool (t.id%2 == 1))/\wz.cell? ⟨al,ol+k*10+8,none⟩=some (.bool t.reset)/\wz.cell? ⟨al,ol+k*10+2,none⟩=some (.slice ai (t.inn false).sent.length ci)/\wz.cell? ⟨al,ol+k*10+2+1,none⟩=some (.int .i64 ((t.inn false).read:Int))/\wz.cell? ⟨al,ol+k*10+2+2,none⟩=some (.bool (t.inn false).ended)/\wz.frozen? ⟨al,ol+k*10+2+1,none⟩=false):=λwz oz da db q1 q2=>by
  have cell:∀ j u,j<10->xs[10*k+j]? = some u->wz.cell? ⟨al,ol+k*10+j,none⟩=some u:=λj u hj hx=>by
   have:=(q2.line q1 (10*k+j) (by omega)).1
   rw[hx] at this;rw[<-this];congr 2;omega
  have e1:ol+k*10+2+1=ol+k*10+(2+1):=by omega
  have e2:ol+k*10+2+2=ol+k*10+(2+2):=by omega
  rw[hvi] at xv;refine⟨cell 0 _ (by omega) x0,cell 1 _ (by omega) x1,cell 8 _ (by omega) x8,cell 2 _ (by omega) xv,?_,?_,?_⟩
  ·rw[e1];exact cell (2+1) _ (by omega) xr
  ·rw[e2];exact cell (2+2) _ (by omega) xe
  ·have:=(q2.line q1 (10*k+(2+1)) (by omega)).2
   have e3:ol+k*10+2+1=ol+(10*k+(2+1)):=by omega
   rw[e3];exact this
 have HR:=hide (H.reads ht hev (most:Int) (by omega));have HKR:Hid (∀ w1:World,Ext w w1->Calls Tryz.prog 17 #[.pointer (some ⟨gy,0,none⟩),.int .i64 (t.id:Int),.int .i64 (most:Int)] w1 λe w' => ∃ vo own',Sep wb w' own'/\(∀ n,n ≠ .o->(∀ x,n≠LN.y x)->own' n=own0 n) /\
   ((Ds.read? (dy.find (t.id:Int)) (most:Int)≠0/\e = .returned (.tuple #[.slice none 0 0,.int .i64 (Ds.read? (dy.find (t.id:Int)) (most:Int):Int)])/\zar own' LN.y gy dy/\own' .o = .none) \/
   (Ds.read? (dy.find (t.id:Int)) (most:Int)=0/\e = .returned (.tuple #[vo,.int .i64 0])/\zar own' LN.y gy (dy.read (dy.find (t.id:Int)) (Ds.readN (dy.find (t.id:Int)) (most:Int)))/\own' .o = .row 5 1 vo (Ds.readN (dy.find (t.id:Int)) (most:Int)) (zab ((dy.find (t.id:Int)).unread.take (Ds.readN (dy.find (t.id:Int)) (most:Int))))))):=λw1 he=>zjm l0.ey (s0.ext he) (H.od.fits.mono (by omega)) (t.id:Int) (most:Int) (by omega) (by omega) (by omega) .o (λ_ e=>by cases e) z0
 go_enter Tryz.func14,Tryz.ntmps14
 go_wp2_with fail
 refine kw.mono ?_;rintro e w1 ⟨rfl,he1⟩;have S1:=s0.ext he1;obtain⟨c0,-⟩:=HC.out w1 own0 dx dy S1 l0;have c0d:w1.drew.cell? ⟨al,ol+k*10,none⟩=some (.int .i64 (t.id:Int)):=c0;have g0:w1.drew.cell? ⟨gl,0,none⟩=some (.pointer (some ⟨gx,0,none⟩)):=l0.cc S1 0;have g1:w1.drew.cell? ⟨gl,1,none⟩=some (.pointer (some ⟨gy,0,none⟩)):=l0.cc S1 1;have ke:Calls Tryz.prog 16 #[.pointer (some ⟨gl,0,none⟩),.bool false] w1.drew λe w'=>e = .returned (.pointer (some ⟨gy,0,none⟩))/\w'=w1.drew:=zdl false w1.drew g0 g1;have kR:=HKR.out w1.drew (he1.trans (Ext.refl w1).drew);have HL0:=hide l0;have HLS:=hide hl0;have HSI:=hide si0;have HVI:=hide hvi;clear kw g4 S1 s0 l0 hl0 si0 hvi x0 x1 x8 xv xr xe g0 g1 he1 HKR z0;have HK:Hid (∀ (e:Ending) (w6:World),(∃ vo own',Sep wb w6 own'/\(∀ n,n ≠ .o->(∀ x,n≠LN.y x)->own' n=own0 n) /\
   ((Ds.read? (dy.find (t.id:Int)) (most:Int)≠0/\e = .returned (.tuple #[.slice none 0 0,.int .i64 (Ds.read? (dy.find (t.id:Int)) (most:Int):Int)])/\zar own' LN.y gy dy/\own' .o = .none) \/
   (Ds.read? (dy.find (t.id:Int)) (most:Int)=0/\e = .returned (.tuple #[vo,.int .i64 0])/\zar own' LN.y gy (dy.read (dy.find (t.id:Int)) (Ds.readN (dy.find (t.id:Int)) (most:Int)))/\own' .o = .row 5 1 vo (Ds.readN (dy.find (t.id:Int)) (most:Int)) (zab ((dy.find (t.id:Int)).unread.take (Ds.readN (dy.find (t.id:Int)) (most:Int))))))) ->
   ∃ (a:Option Addr) (n cap er:Nat) (own2:LN->Res),e = .returned (.tuple #[.slice a n cap,.int .i64 (er:Int)])/\Hid (Sep wb w6 own2/\(∀ n,n ≠ .o->(∀ x,n≠LN.y x)->own2 n=own0 n)/\er=Ds.read? (dy.find (t.id:Int)) (most:Int)/\(er≠0->zar own2 LN.y gy dy/\own2 .o = .none)/\(er=0->n=Ds.readN (dy.find (t.id:Int)) (most:Int)/\zar own2 LN.y gy (dy.read (dy.find (t.id:Int)) n)/\zae w6 (.slice a n cap) ((dy.find (t.id:Int)).unread.take n)))):=by
  rintro e w6 ⟨vo,own',q1,q2,q3⟩;rcases q3 with ⟨q3,q4,q5,q6⟩ | ⟨q3,q4,q5,q6⟩
  ·exact⟨none,0,0,_,own',q4,q1,q2,rfl,λ_=>⟨q5,q6⟩,λe=>absurd e q3⟩
  ·have hO:=(show OwnAt w6 5 1 vo (Ds.readN (dy.find (t.id:Int)) (most:Int)) _ from q1.get q6);obtain⟨a,cap,hv,-,-⟩:=hO.slice;subst hv;have hnl:((dy.find (t.id:Int)).unread.take (Ds.readN (dy.find (t.id:Int)) (most:Int))).length=Ds.readN (dy.find (t.id:Int)) (most:Int):=by
    rw[List.length_take];unfold Ds.readN;omega
   have hB:zae w6 (.slice a (Ds.readN (dy.find (t.id:Int)) (most:Int)) cap) ((dy.find (t.id:Int)).unread.take (Ds.readN (dy.find (t.id:Int)) (most:Int))):=OwnAt.isBytes (zbv hO hnl.symm rfl);exact⟨a,_,cap,0,own',q4,q1,q2,q3.symm,λe=>absurd rfl e,λ_=>⟨rfl,q5,hB⟩⟩
 go_upto_region 3 with fail
 go_cut [12,13] from 28 to 39 (λs12 s13 wx => ∃ (a:Option Addr) (n cap er:Nat) (own2:LN->Res),s12 = .slice a n cap/\s13 = .int .i64 (er:Int)/\Hid (Sep wb wx own2/\(∀ n,n ≠ .o->(∀ x,n≠LN.y x)->own2 n=own0 n)/\er=Ds.read? (dy.find (t.id:Int)) (most:Int)/\(er≠0->zar own2 LN.y gy dy/\own2 .o = .none)/\(er=0->n=Ds.readN (dy.find (t.id:Int)) (most:Int)/\zar own2 LN.y gy (dy.read (dy.find (t.id:Int)) n)/\zae wx (.slice a n cap) ((dy.find (t.id:Int)).unread.take n))))
 case first =>
  go_region_with (first
   | (go_at_call 16;refine ke.mono ?_;rintro e w0 ⟨rfl,hw⟩;replace hw:=hw.symm;subst hw)
   | (go_at_call 17;refine kR.mono ?_;intro e w6 hh;obtain⟨a,n,cap,er,own2,rfl,HW⟩:=HK.out e w6 hh;clear hh))
  all_goals
   go_wp2_with fail
   go_meet
   exact⟨a,n,cap,er,own2,rfl,rfl,HW⟩
 case rest =>
  obtain⟨a,n,cap,er,own2,rfl,rfl,HW⟩:=hcut;clear kR ke HK c0 c0d;have hS2:=HW.out.1;have he2:∀ i,own2 (.e i)=own0 (.e i):=λi=>HW.out.2.1 (.e i) (λe=>by cases e) (λx e=>by cases e)
  have HS2:=hide hS2;have HE2:=hide he2;have HZ2:Hid (own2 (.e 1000)=own (.e 1000)):=(he2 1000).trans (e0 1000);have HLS2:=hide (HLS.out.alike he2);rcases HR.out with ⟨h1,h2⟩ | ⟨h1,h2⟩ | ⟨h1,h2,h3⟩ | ⟨h1,n',h2,h3,h4,h5⟩
  ·have HX:Hid (RdX false dy ls k most dy ls):=RdX.no ht (by rw[h1];omega);obtain rfl:er=6:=HW.out.2.2.1.trans h1;have L2:=HL0.out.withY (HW.out.2.2.2.1 (by omega)).1 (λn q1 q2 q3=>HW.out.2.1 n q2 q3);obtain⟨c0,c1,c8,cv,cr,ce,-⟩:=HC.out wc own2 dx dy hS2 L2;rw[h2] at cr;have cr':wc.cell? ⟨al,ol+k*10+2+1,none⟩=some (.int .i64 0):=cr;have HL2:=hide L2;clear cr L2 hS2 he2 HW h1 h2 HC cv ce c8 c1
   go_wp2
   go_ret
   exact⟨rfl,own2,ls,xs,dy,HS2.out,HL2.out,HLS2.out,hsb,rfl,H.mono (by omega),zcr.refl _ _ _,HZ2.out,HX.out⟩
  ·have HX:Hid (RdX false dy ls k most dy ls):=RdX.no ht (by rw[h1];omega);obtain rfl:er=7:=HW.out.2.2.1.trans h1;obtain⟨hX2,hz2⟩:=HW.out.2.2.2.1 (by omega);have L2:=HL0.out.withY hX2 (λn q1 q2 q3=>HW.out.2.1 n q2 q3);obtain⟨c0,-⟩:=HC.out wc own2 dx dy hS2 L2;have c0d:wc.drew.cell? ⟨al,ol+k*10,none⟩=some (.int .i64 (t.id:Int)):=c0;have g0:wc.drew.cell? ⟨gl,0,none⟩=some (.pointer (some ⟨gx,0,none⟩)):=L2.cc hS2 0;have g1:wc.drew.cell? ⟨gl,1,none⟩=some (.pointer (some ⟨gy,0,none⟩)):=L2.cc hS2 1;have ke:Calls Tryz.prog 16 #[.pointer (some ⟨gl,0,none⟩),.bool false] wc.drew λe w'=>e = .returned (.pointer (some ⟨gy,0,none⟩))/\w'=wc.drew:=zdl false wc.drew g0 g1;have kH:=zgf L2.ey (hS2.ext (Ext.refl wc).drew) (H.od.fits.mono (by omega)) (t.id:Int) (by omega) (by omega) .o (λ_ e=>by cases e) hz2;have HK:Hid (∀ (e:Ending) (w6:World),(∃ own',Sep wb w6 own'/\zar own' LN.y gy dy/\(∀ n,n ≠ .o->(∀ x,n≠LN.y x)->own' n=own2 n)/\((dy.headers? (t.id:Int)=none/\e = .returned (.tuple #[.slice none 0 0,.int .i64 6])/\own' .o = .none)\/(∃ hd vo,dy.headers? (t.id:Int)=some hd/\e = .returned (.tuple #[vo,.int .i64 0])/\own' .o = .row 122 2 vo hd.length (zap hd)))) ->
     ∃ (a2:Option Addr) (n2 k2 e2:Nat) (own3:LN->Res),e = .returned (.tuple #[.slice a2 n2 k2,.int .i64 (e2:Int)])/\Hid (Sep wb w6 own3/\zar own3 LN.y gy dy/\(∀ n,n ≠ .o->(∀ x,n≠LN.y x)->own3 n=own2 n)/\(dy.headers? (t.id:Int)=none->e2=6))):=by
    rintro e w6 ⟨own',q1,q2,q3,q4⟩;rcases q4 with ⟨q4,q5,q6⟩ | ⟨hd,vo,q4,q5,q6⟩
    ·exact⟨none,0,0,6,own',q5,q1,q2,q3,λ_=>rfl⟩
    ·obtain⟨a2,k2,hv,-,-⟩:=(show OwnAt w6 122 2 vo hd.length _ from q1.get q6).slice;subst hv;exact⟨a2,hd.length,k2,0,own',q5,q1,q2,q3,λe=>by rw[e] at q4;cases q4⟩
   have HL2:=hide L2;have HH2:=hide h2;clear L2 hX2 hz2 HW hS2 he2 h1 h2 g0 g1
   go_upto_region 8 with fail
   go_cut [14,15] from 50 to 60 (λs14 s15 wx => ∃ (a2:Option Addr) (n2 k2 e2:Nat) (own3:LN->Res),s14 = .slice a2 n2 k2/\s15 = .int .i64 (e2:Int)/\Hid (Sep wb wx own3/\zar own3 LN.y gy dy/\(∀ n,n ≠ .o->(∀ x,n≠LN.y x)->own3 n=own2 n)/\(dy.headers? (t.id:Int)=none->e2=6)))
   case first =>
    go_region_with (first
     | (go_at_call 16;refine ke.mono ?_;rintro e w0 ⟨rfl,hw⟩;replace hw:=hw.symm;subst hw)
     | (go_at_call 31;refine kH.mono ?_;intro e w6 hh;obtain⟨a2,n2,k2,e2,own3,rfl,HV⟩:=HK.out e w6 hh;clear hh))
    all_goals
     go_wp2_with fail
     go_meet
     exact⟨a2,n2,k2,e2,own3,rfl,rfl,HV⟩
   case rest =>
    obtain⟨a2,n2,k2,e2,own3,rfl,rfl,HV⟩:=hcut;have hS3:=HV.out.1;have L3:=HL2.out.withY HV.out.2.1 (λn q1 q2 q3=>HV.out.2.2.1 n q2 q3);have HZ3:Hid (own3 (.e 1000)=own (.e 1000)):=(HV.out.2.2.1 (.e 1000) (λe=>by cases e) (λx e=>by cases e)).trans HZ2.out;have HLS3:=hide (HLS2.out.alike (own':=own3) (λi=>HV.out.2.2.1 (.e i) (λe=>by cases e) (λx e=>by cases e)));obtain⟨c0,c1,c8,cv,cr,ce,-⟩:=HC.out wc own3 dx dy hS3 L3;have g5:wc.cell? ⟨gl,5,none⟩=some (.bool lv):=L3.cc hS3 5;have HS3:=hide hS3;have HL3:=hide L3;have HQ:=hide HV.out.2.2.2;clear L3 hS3 HV kH ke HK;by_cases hrs:t.reset=true
    ·rw[hrs] at c8;clear hrs HQ
     go_wp2
     go_ret
     exact⟨rfl,own3,ls,xs,dy,HS3.out,HL3.out,HLS3.out,hsb,rfl,H.mono (by omega),zcr.refl _ _ _,HZ3.out,HX.out⟩
    ·have hrs':t.reset=false:=by cases hx:t.reset;rfl;exact absurd hx hrs
     obtain⟨q1,q2,q3⟩:dy.headers? (t.id:Int)=none/\ownB false t.id=false/\(t.inn false).read=0:=HH2.out.resolve_left hrs;obtain rfl:e2=6:=HQ.out q1;have hby:(t.id%2 == 1)=true:=by unfold ownB at q2;cases hx:(t.id%2 == 1)<;>rw[hx] at q2<;>simp_all
     rw[hrs'] at c8;rw[hby] at c1;rw[q3] at cr;have cr':wc.cell? ⟨al,ol+k*10+2+1,none⟩=some (.int .i64 0):=cr;clear hrs hrs' q1 q2 q3 hby cr HQ HH2;cases lv
     ·go_wp2
      go_ret
      exact⟨rfl,own3,ls,xs,dy,HS3.out,HL3.out,HLS3.out,hsb,rfl,H.mono (by omega),zcr.refl _ _ _,HZ3.out,HX.out⟩
     ·go_wp2
      go_ret
      exact⟨rfl,own3,ls,xs,dy,HS3.out,HL3.out,HLS3.out,hsb,rfl,H.mono (by omega),zcr.refl _ _ _,HZ3.out,HX.out⟩
  ·have HX:Hid (RdX false dy ls k most dy ls):=RdX.no ht (by rw[h1];omega);obtain rfl:er=8:=HW.out.2.2.1.trans h1;have L2:=HL0.out.withY (HW.out.2.2.2.1 (by omega)).1 (λn q1 q2 q3=>HW.out.2.1 n q2 q3);obtain⟨c0,c1,c8,cv,cr,ce,-⟩:=HC.out wc own2 dx dy hS2 L2;rw[h3] at cr;rw[h2] at ce;have HL2:=hide L2;clear L2 hS2 he2 HW h1 h2 h3 HC c8 c1;generalize (t.inn false).sent.length=sl at *
   go_wp2_with fail
   go_quiet (fail)
   all_goals
    go_wp2
    go_ret
    exact⟨rfl,own2,ls,xs,dy,HS2.out.ext (zay wc _),HL2.out,HLS2.out,hsb,rfl,H.mono (by omega),zcr.refl _ _ _,HZ2.out,HX.out⟩
  ·obtain rfl:er=0:=HW.out.2.2.1.trans h1;obtain⟨w1',w2',w3'⟩:=HW.out.2.2.2.2 rfl;obtain rfl:n=n':=w1'.trans h2.symm;have HX:=hide (RdX.yes (c:=false) ht h1 h2);have hnm:n<=most:=by rw[h2];unfold Ds.readN;omega
   have L2:=HL0.out.withY w2' (λn q1 q2 q3=>HW.out.2.1 n q2 q3);obtain⟨c0,c1,c8,cv,cr,ce,tr⟩:=HC.out wc own2 dx (dy.read (dy.find (t.id:Int)) n) hS2 L2;have hBi:zae wc (.slice ai (t.inn false).sent.length ci) (t.inn false).sent:=by
    have:=(HSI.out.alike (he2 _)).isBytes hS2
    rwa [HVI.out] at this
   have hci:(t.inn false).sent.length<=ci:=by obtain⟨a',cap',e',q1,-⟩:=hBi;simp only[Value.slice.injEq] at e';omega
   have hBm:=hBi.midK (t.inn false).read ((t.inn false).read+n) (by omega) h3;have hZ:((t.inn false).sent.take ((t.inn false).read+n)).drop (t.inn false).read=((t.inn false).sent.drop (t.inn false).read).take n:=by rw[List.drop_take];congr 1;omega
   rw[hZ] at hBm;rw[h4] at w3';have hZl:(((t.inn false).sent.drop (t.inn false).read).take n).length=n:=by rw[List.length_take,List.length_drop];omega
   obtain⟨am,cm,hvm,-,-,-⟩:=hBm;have hBm:=hBi.midK (t.inn false).read ((t.inn false).read+n) (by omega) h3;rw[hZ,hvm] at hBm;rw[hZl] at hvm hBm;have hrun:∀ W:World,(Instr.slice 34 (.slice ai (t.inn false).sent.length ci) (some (.int .i64 ((t.inn false).read:Int))) (some (.int .i64 (((t.inn false).read:Int)+(n:Int)))) none).run Tryz.prog W = .ok (.slice am n cm) W:=λW=>by
    have e1:((t.inn false).read:Int)+(n:Int)=(((t.inn false).read+n:Nat):Int):=by omega
    rw[e1,zzbay W ai _ ci _ _ (by omega) (by omega),hvm]
   generalize hZZ:((t.inn false).sent.drop (t.inn false).read).take n=Z at *;have hcv1:∀ q,(convert 34 9 (.slice a n cap)).run Tryz.prog (wc.drewN q) = .ok (.string ⟨Z.toArray⟩) (wc.drewN q):=λq=>zgn (w3'.ext (zay wc q));have hcv2:∀ q,(convert 34 9 (.slice am n cm)).run Tryz.prog (wc.drewN q) = .ok (.string ⟨Z.toArray⟩) (wc.drewN q):=λq=>zgn (hBm.ext (zay wc q));have b1:decide (most<n)=false:=by simp;omega
   have b1':decide ((most:Int)<(n:Int))=false:=by simp;omega
   have hrl:(t.inn false).read+n<=(t.inn false).sent.length:=h3;have HT5:=hide h5;have HL2:=hide L2;have HTL:=hide ht;clear h1 h2 h4 h5 w1' w2' w3' hBi hBm hZ hZl hvm hZZ HW L2 hS2 he2 c0 c1 c8 ce;have hrb':(t.inn false).sent.length<=100000:=by omega
   generalize hrd:(t.inn false).read=rd at *;generalize hsl:(t.inn false).sent.length=sl at *;have HRD:=hide hrd;clear hrd hsl h3;have b2:decide (sl<rd+n)=false:=by simp;omega
   have b2':decide ((sl:Int)<(rd:Int)+(n:Int))=false:=by simp;omega
   have hwr:IntKind.i64.wrap ((rd:Int)+(n:Int))=(rd:Int)+(n:Int):=by
    have:=zjx (rd+n) (by omega)
    have e1:((rd+n:Nat):Int)=(rd:Int)+(n:Int):=by omega
    rw[e1] at this;exact this
   have crq:∀ q,(wc.drewN q).cell? ⟨al,ol+k*10+2+1,none⟩=some (.int .i64 (rd:Int)):=λq=>cr;have trq:∀ q,(wc.drewN q).frozen? ⟨al,ol+k*10+2+1,none⟩=false:=λq=>tr;have HKEY:Hid (∀ q,RWry wb gl gx gy dx dy vu vd (.slice (some ⟨al,ol,none⟩) ls.length cl) up down lv own ls (RdX false dy ls k most) p m L S (.returned (.bool true)) ((wc.drewN q).setCell ⟨al,ol+k*10+2+1,none⟩ (.int .i64 ((rd:Int)+(n:Int))))):=λq=>by
    obtain⟨own6,S6,L6,e6⟩:=HL2.out.setLine (HS2.out.ext (zay wc q)) (10*k+(2+1)) (.int .i64 ((rd:Int)+(n:Int)));have ea:ol+(10*k+(2+1))=ol+k*10+2+1:=by omega
    rw[ea] at S6;have e1:((rd+n:Nat):Int)=(rd:Int)+(n:Int):=by omega
    have hLS:=HLS2.out.setRead (own':=own6) HTL.out false (rd+n) (λi=>e6 i);rw[e1] at hLS;have eL:(ls.modify k λx=>x.setIn false { (x.inn false) with read:=(x.inn false).read+n })=(ls.modify k λx=>x.setIn false { (x.inn false) with read:=rd+n }):=zka HTL.out _ _ (by show t.setIn false { (t.inn false) with read:=(t.inn false).read+n }=_;rw[HRD.out]);have hT:=HT5.out;rw[eL] at hT;refine⟨rfl,own6,_,_,_,S6,?_,hLS,?_,List.length_modify ..,hT.1,hT.2,(e6 1000).trans HZ2.out,by rw[<-eL];exact HX.out⟩
    ·rw[List.length_modify];exact L6
    ·refine SB.mod1 hsb HTL.out _ ?_;exact hsb t (List.mem_of_getElem? HTL.out)
   clear cr tr HS2 HE2 HLS2 HT5 HL2 HTL HRD HC HR HLS HSI HVI HL0
   go_wp2_with fail
   go_quiet (fail)
   all_goals
    go_wp2
    go_ret
    exact HKEY.out _
end
end Go.Proofs.YtoijpogadkogcaaGreat
