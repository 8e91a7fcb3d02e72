import Derived.Test.YtoijpogadkogcaaGreatRl
import Derived.Deep.CutRange
namespace Go.Proofs.YtoijpogadkogcaaGreat
open Go.RowKit
set_option maxRecDepth 100000
def SB(ls:List Line)(S:Nat):Prop:=∀ t∈ls,t.client.sent.length<=S/\t.server.sent.length<=S
theorem SB.mono{ls:List Line}{S S':Nat}(h:SB ls S)(hS:S<=S'):SB ls S':=λt ht=>⟨Nat.le_trans (h t ht).1 hS,Nat.le_trans (h t ht).2 hS⟩
theorem SB.out{ls:List Line}{S:Nat}(h:SB ls S){t:Line}(ht:t∈ls)(c:Bool):(t.out c).sent.length<=S:=by
 cases c
 ·exact(h t ht).2
 ·exact(h t ht).1
theorem SB.mod1{ls:List Line}{S:Nat}(h:SB ls S){k:Nat}{t:Line}(hk:ls[k]? = some t)(f:Line->Line)(hf:(f t).client.sent.length<=S/\(f t).server.sent.length<=S):SB (ls.modify k f) S:=λx hx=>by
 obtain⟨i,hi⟩:=List.mem_iff_getElem?.1 hx;rw[List.getElem?_modify] at hi;obtain⟨t0,h0,h1⟩:=Option.map_eq_some_iff.1 hi;by_cases e:k=i
 ·subst e;rw[if_pos rfl] at h1;rw[hk] at h0;injection h0 with h0
  rw[<-h1,<-h0];exact hf
 ·rw[if_neg e] at h1;rw[<-h1];exact h t0 (List.mem_of_getElem? h0)
theorem LS.outCells{own:LN->Res}{ls:List Line}{xs:List Value}(h:LS own ls xs){k:Nat}{t:Line}(hk:ls[k]? = some t)(c:Bool) :
  ∃ v,xs[10*k]? = some (.int .i64 (t.id:Int))/\xs[10*k+wo c]? = some v/\SentAt own (3*k+(if c then 1 else 2)) v (t.out c).sent/\xs[10*k+wo c+2]? = some (.bool (t.out c).ended):=by
 obtain⟨vc,vs,vh,h1,h2,h3,-⟩:=h.at_ k t hk;cases c
 ·exact⟨vs,h1 0 (by omega),h1 5 (by omega),h3,h1 7 (by omega)⟩
 ·exact⟨vc,h1 0 (by omega),h1 2 (by omega),h2,h1 4 (by omega)⟩
theorem zgw(xs:List Value)(i:Nat)(u:Value)(j:Nat)(hi:i<xs.length):(xs.set i u)[j]? = if j=i then some u else xs[j]?:=by
 rw[List.getElem?_set];by_cases e:i=j
 ·rw[if_pos e,if_pos e.symm,if_pos (by omega)]
 ·rw[if_neg e,if_neg (λx=>e x.symm)]
theorem LS.setSent{own own':LN->Res}{ls:List Line}{xs:List Value}(h:LS own ls xs){k:Nat}{t:Line}(hk:ls[k]? = some t)(c:Bool)(v':Value)(b':Bytes)(ho:∀ i,i≠3*k+(if c then 1 else 2)->own' (.e i)=own (.e i))(hS:SentAt own' (3*k+(if c then 1 else 2)) v' b') :
  LS own' (ls.modify k λx=>x.setOut c { (x.out c) with sent:=b' }) (xs.set (10*k+wo c) v'):=by
 have hkl:k<ls.length:=(List.getElem?_eq_some_iff.1 hk).1;have hlen:=h.len;have hw:wo c=2\/wo c=5:=by cases c;exact .inr rfl;exact .inl rfl
 obtain⟨vc,vs,vh,h1,h2,h3,h4⟩:=h.at_ k t hk;refine h.mod hk _ (List.length_set ..) (λj hj => ?_) (λi hi=>ho i (by split<;>omega)) ?_
 ·rw[zgw _ _ _ _ (by omega),if_neg (by omega)]
 ·cases c
  ·refine⟨vc,v',vh,λj hj => ?_,h2.alike (ho _ (by simp)),hS,(ho _ (by simp)).trans h4⟩;rw[zgw _ _ _ _ (by omega)];have e5:wo false=5:=rfl;rw[e5];by_cases e:j=5
   ·rw[if_pos (by omega),e];rfl
   ·rw[if_neg (by omega),h1 j hj]
    match j,hj,e with
    | 0,_,_=>rfl
    | 1,_,_=>rfl
    | 2,_,_=>rfl
    | 3,_,_=>rfl
    | 4,_,_=>rfl
    | 5,_,e=>exact absurd rfl e
    | 6,_,_=>rfl
    | 7,_,_=>rfl
    | 8,_,_=>rfl
    | 9,_,_=>rfl
  ·refine⟨v',vs,vh,λj hj => ?_,hS,h3.alike (ho _ (by simp)),(ho _ (by simp)).trans h4⟩;rw[zgw _ _ _ _ (by omega)];have e2:wo true=2:=rfl;rw[e2];by_cases e:j=2
   ·rw[if_pos (by omega),e];rfl
   ·rw[if_neg (by omega),h1 j hj]
    match j,hj,e with
    | 0,_,_=>rfl
    | 1,_,_=>rfl
    | 2,_,e=>exact absurd rfl e
    | 3,_,_=>rfl
    | 4,_,_=>rfl
    | 5,_,_=>rfl
    | 6,_,_=>rfl
    | 7,_,_=>rfl
    | 8,_,_=>rfl
    | 9,_,_=>rfl
theorem zka{ls:List Line}{k:Nat}{t:Line}(hk:ls[k]? = some t)(f g:Line->Line)(h:f t=g t):ls.modify k f=ls.modify k g:=by
 apply List.ext_getElem?;intro j;rw[List.getElem?_modify,List.getElem?_modify];by_cases e:k=j
 ·subst e;rw[hk];simp[h]
 ·simp[e]
section
variable {own:LN->Res} {gl gx gy:Nat} {dx dy:Ds} {vu vd vl:Value} {up down:Bytes} {ls:List Line} {xs:List Value} {lv:Bool} {wb w:World} {p m L S:Nat}
theorem zak.linesV{nl:Nat}(h:zak own gl gx gy dx dy vu vd vl up down nl xs lv)(hs:Sep wb w own)(h0:0<nl):∃ al ol cl,vl = .slice (some ⟨al,ol,none⟩) nl cl/\nl<=cl:=by obtain⟨a,o,cap,e,h1⟩:=zgp (hs.get h.nl) h0;exact⟨a,o,cap,e,h1⟩
def RWrx(wb:World)(gl gx gy:Nat)(dx dy:Ds)(vu vd vl:Value)(up down:Bytes)(lv:Bool)(own:LN->Res)(ls:List Line)(X:Ds->List Line->Prop)(p m L S:Nat)(e:Ending)(w':World):Prop :=
 e = .returned (.bool true) /\ ∃ own' ls' xs' d',Sep wb w' own'/\zak own' gl gx gy d' dy vu vd vl up down ls'.length xs' lv/\LS own' ls' xs'/\SB ls' S/\ls'.length=ls.length/\TD true d' dy up down ls' p m L/\zcr true dx ls d' ls'/\own' (.e 1000)=own (.e 1000)/\X d' ls'
set_option maxHeartbeats 6400000 in
theorem zzbfv(h:zak own gl gx gy dx dy vu vd vl up down ls.length xs lv)(hs:Sep wb w own)(hl:LS own ls xs)(hsb:SB ls S)(hS:S<=100000)(H:TD true dx dy up down ls p (m+1) L)(k:Nat)(hk:k<ls.length)(n:Nat)(hn:n<=300) :
  Calls Tryz.prog 34 #[.pointer (some ⟨gl,0,none⟩),.int .i64 (k:Int),.bool true,.int .i64 (n:Int)] w (RWrx wb gl gx gy dx dy vu vd vl up down lv own ls (λ_ _=>True) p m L (S+300)):=by
 obtain⟨al,ol,cl,hvl,hcl⟩:=h.linesV hs (by omega);subst hvl;obtain⟨t,ht⟩:∃ t,ls[k]? = some t:=⟨_,List.getElem?_eq_getElem hk⟩;obtain⟨vo,x0,x2,so,-⟩:=hl.outCells ht true;have hid:=H.line ht;have hlen:=hl.len;have hob:=hsb.out (List.mem_of_getElem? ht) true;obtain⟨ao,co,hvo⟩:=so.slice hs;have g4:w.cell? ⟨gl,4,none⟩=some (.slice (some ⟨al,ol,none⟩) ls.length cl):=h.cc hs 4;have kw:Calls Tryz.prog 15 #[.pointer (some ⟨al,ol+k*10,none⟩),.bool true] w λe w'=>e = .returned (.tuple #[.pointer (some ⟨al,ol+k*10+2,none⟩),.pointer (some ⟨al,ol+k*10+5,none⟩)])/\Ext w w':=zfn al (ol+k*10) true w
 go_enter Tryz.func34,Tryz.ntmps34
 go_wp2_with fail
 refine kw.mono ?_;rintro e w1 ⟨rfl,he1⟩;have HS1:=hide (hs.ext he1);have S1:=hs.ext he1;have HL:=hide h;have c0:w1.cell? ⟨al,ol+k*10,none⟩=some (.int .i64 (t.id:Int)):=by
  have:=(h.line S1 (10*k) (by omega)).1
  rw[x0] at this;rw[<-this];congr 2;omega
 have c2:w1.cell? ⟨al,ol+k*10+2,none⟩=some (.slice ao (t.out true).sent.length co):=by
  have:=(h.line S1 (10*k+wo true) (by show 10*k+2<_;omega)).1
  rw[x2,hvo] at this;rw[<-this];congr 2;show ol+k*10+2=ol+(10*k+2);omega
 have kb:=zwx (t.out true).sent.length n t.id w1.drew (by omega) (by omega) (by omega);have c0d:w1.drew.cell? ⟨al,ol+k*10,none⟩=some (.int .i64 (t.id:Int)):=c0;have c2d:w1.drew.cell? ⟨al,ol+k*10+2,none⟩=some (.slice ao (t.out true).sent.length co):=c2;generalize hsl:(t.out true).sent.length=sl at *;have HSL:=hide hsl;clear hsl kw hs h S1 he1 g4
 go_upto_region 3 with fail
 go_cut [12] from 27 to 37 (λs12 wx => ∃ (D:Bytes) (vD:Value),s12=vD/\Hid (D.length=n)/\Hid (Ext w1 wx/\wx.ownsRow w1.heap.size 5 1 vD D.length (zab D)))
 case first =>
  go_region_with (go_at_call 77;refine kb.mono ?_;rintro e w3 ⟨D,v3,rfl,hD,how3,he3⟩;have HD:=hide hD;have HO:Hid (Ext w1 w3/\w3.ownsRow w1.heap.size 5 1 v3 D.length (zab D)):=⟨(Ext.refl w1).drew.trans he3,how3⟩;clear hD how3 he3)
  all_goals
   go_wp2_with fail
   go_meet
   exact⟨D,_,rfl,HD,HO⟩
 case rest =>
  obtain⟨D,vD,hvs,HD,HO⟩:=hcut;replace hvs:=hvs.symm;subst hvs;obtain⟨aD,cD,hvD⟩:∃ a cap,vD = .slice a D.length cap:=by obtain⟨a,cap,e,-⟩:=zae.ofOwns HO.out.2;exact⟨a,cap,e⟩
  subst hvD;have hE1:=HO.out.1;have Sc:=HS1.out.ext hE1;have hOD:=OwnAt.ofOwns HO.out.2;have So:Sep wb wc (upd own .o (.row 5 1 (.slice aD D.length cD) D.length (zab D))):=HS1.out.add .o hE1 hOD (λb hb=>zie HO.out.2 b hb);have Lo:zak (upd own .o (.row 5 1 (.slice aD D.length cD) D.length (zab D))) gl gx gy dx dy vu vd (.slice (some ⟨al,ol,none⟩) ls.length cl) up down ls.length xs lv:=HL.out.alike (λn _ hn=>zac _ _ hn);have g0:wc.drew.cell? ⟨gl,0,none⟩=some (.pointer (some ⟨gx,0,none⟩)):=Lo.cc So 0;have g1:wc.drew.cell? ⟨gl,1,none⟩=some (.pointer (some ⟨gy,0,none⟩)):=Lo.cc So 1;have ke:Calls Tryz.prog 16 #[.pointer (some ⟨gl,0,none⟩),.bool true] wc.drew λe w'=>e = .returned (.pointer (some ⟨gx,0,none⟩))/\w'=wc.drew:=zdl true wc.drew g0 g1;have hBD:zae wc.drew (.slice aD D.length cD) D:=(zae.ofOwns HO.out.2).ext (Ext.refl wc).drew;have kW:=znl Lo.ex (So.ext (Ext.refl wc).drew) (H.od.fits.mono (by omega)) (t.id:Int) (by omega) (by omega) (.slice aD D.length cD) D hBD;have f0:wc.drew.cell? ⟨al,ol+k*10,none⟩=some (.int .i64 (t.id:Int)):=hE1.cell c0;have hroom:Ds.room (dx.find (t.id:Int)) D<=n:=by rw[<-HD.out];unfold Ds.room;omega
  clear kb c0 c0d c2d;have HK:Hid (∀ (e:Ending) (w6:World),(∃ own',Sep wb w6 own'/\zai LN.x (upd own .o (.row 5 1 (.slice aD D.length cD) D.length (zab D))) own'/\((dx.unwritable (dx.find (t.id:Int))≠0/\e = .returned (.tuple #[.int .i64 0,.int .i64 (dx.unwritable (dx.find (t.id:Int)):Int)])/\zar own' LN.x gx dx)\/(dx.unwritable (dx.find (t.id:Int))=0/\e = .returned (.tuple #[.int .i64 (Ds.room (dx.find (t.id:Int)) D:Int),.int .i64 0])/\zar own' LN.x gx (dx.write (dx.find (t.id:Int)) D)))) -> ∃ (own2:LN->Res) (er mm:Nat),e = .returned (.tuple #[.int .i64 (mm:Int),.int .i64 (er:Int)])/\mm<=n/\Hid (Sep wb w6 own2/\zai LN.x (upd own .o (.row 5 1 (.slice aD D.length cD) D.length (zab D))) own2/\(er≠0->zar own2 LN.x gx dx)/\(er=0->dx.unwritable (dx.find (t.id:Int))=0/\mm=Ds.room (dx.find (t.id:Int)) D/\zar own2 LN.x gx (dx.write (dx.find (t.id:Int)) D)))):=by
   rintro e w6 ⟨own',q1,q2,q3⟩;rcases q3 with ⟨q3,q4,q5⟩ | ⟨q3,q4,q5⟩
   ·exact⟨own',_,0,q4,Nat.zero_le _,q1,q2,λ_=>q5,λe=>absurd e q3⟩
   ·exact⟨own',0,_,q4,hroom,q1,q2,λe=>absurd rfl e,λ_=>⟨q3,rfl,q5⟩⟩
  clear Sc hOD So Lo g0 g1 hBD hroom hE1
  go_upto_region 4 with fail
  go_cut [13,14] from 38 to 49 (λs13 s14 wx => ∃ (own2:LN->Res) (er mm:Nat),s13 = .int .i64 (mm:Int)/\s14 = .int .i64 (er:Int)/\mm<=n/\Hid (Sep wb wx own2/\zai LN.x (upd own .o (.row 5 1 (.slice aD D.length cD) D.length (zab D))) own2/\(er≠0->zar own2 LN.x gx dx)/\(er=0->dx.unwritable (dx.find (t.id:Int))=0/\mm=Ds.room (dx.find (t.id:Int)) D/\zar own2 LN.x gx (dx.write (dx.find (t.id:Int)) D))))
  case first =>
   go_region_with (first
    | (go_at_call 16;refine ke.mono ?_;rintro e w0 ⟨rfl,hw⟩;replace hw:=hw.symm;subst hw)
    | (go_at_call 30;refine kW.mono ?_;intro e w6 hh;obtain⟨own2,er,mm,rfl,hmm,HW⟩:=HK.out e w6 hh;clear hh))
   all_goals
    go_wp2_with fail
    go_meet
    exact⟨own2,er,mm,rfl,rfl,hmm,HW⟩
  case rest =>
   obtain⟨own2,er,mm,rfl,rfl,hmm,HW⟩:=hcut;have hm0:decide ((mm:Int)<0)=false:=by simp
   have hmn:decide (n<mm)=false:=by simp;omega
   have hmn':decide ((n:Int)<(mm:Int))=false:=by simp;omega
   clear kW ke HK f0;by_cases her:er=0
   ·subst her;obtain⟨q1,q2,q3,q4⟩:=HW.out;obtain⟨hu,hmr,hX⟩:=q4 rfl;have eo:own2 .o = .row 5 1 (.slice aD D.length cD) D.length (zab D):=(q2 .o (λx e=>by cases e)).trans (zag _ _ _);have ee:∀ i,own2 (.e i)=own (.e i):=λi=>(q2 (.e i) (λx e=>by cases e)).trans (zac _ _ (λe=>by cases e))
    have L2:=HL.out.withX hX (λn h1 h2 h3=>(q2 n h3).trans (zac _ _ h2));have hBD:zae wc (.slice aD D.length cD) D:=OwnAt.isBytes (q1.get eo);have hmD:mm<=D.length:=by rw[HD.out];exact hmm
    have hB0:=zae.take hBD mm hmD;have hrun:∀ W:World,(Instr.slice 34 (.slice aD D.length cD) none (some (.int .i64 (mm:Int))) none).run Tryz.prog W = .ok (sliced aD 0 mm cD 1) W:=λW=>by
     have hcD:D.length<=cD:=by obtain⟨a,cap,e,h1,-⟩:=hBD;simp only[Value.slice.injEq] at e;omega
     rw[run_slice_h W 34 _ _ cD (by rw[zam];exact Tryz.underlying34) .i64 (mm:Int) (by omega) (by omega),zam,zbl];simp[Result.andThen]
    have hsrc:=zed (hB0.ext (Ext.refl wc).drew);obtain⟨ab,kb,hvb,-,-,-⟩:=hB0;have htl:(D.take mm).length=mm:=by rw[List.length_take];omega
    rw[htl] at hvb;rw[hvb] at hrun hsrc;have hsent:SentAt own2 (3*k+1) (.slice ao sl co) (t.out true).sent:=by rw[<-hvo];exact so.alike (ee _)
    have c5:wc.drew.cell? ⟨al,ol+k*10+2,none⟩=some (.slice ao sl co):=by
     have:=(L2.line q1 (10*k+2) (by omega)).1
     have e2:xs[10*k+2]? = some vo:=x2;rw[e2,hvo] at this;have ea:ol+k*10+2=ol+(10*k+2):=by omega
     rw[ea];exact this
    have c5':wc.cell? ⟨al,ol+k*10+2,none⟩=some (.slice ao sl co):=c5;obtain⟨i0,hi0,hz0,hz1,hz2⟩:=zbk Tryz.infoU;have H2:=H.writeK ht hu D;rw[<-hmr] at H2;have HH2:=hide H2;have HQ1:=hide q1;have HL2:=hide L2;have HEE:=hide ee;have hvoH:=hide hvo;have HSO:Hid ((t.out true).sent.length+mm<=S+300/\(t.out true).sent.length+(D.take mm).length<=1000000):=by
     have:=HSL.out
     exact⟨by omega,by rw[htl];omega⟩
    have HX0:=hide x2;clear H2 q1 q2 q3 q4 hu hmr hX eo ee L2 hBD hmD htl hvo x0 x2 so hvb c2 HW HO
    go_wp2_with fail
    go_region_law (
     refine zla (HQ1.out.ext (Ext.refl wc).drew) rfl (.tmp 63) (.tmp 66) 34 34 rfl i0 Tryz.underlying34 hi0 hz0 hz1 hz2 (3*k+1) (.slice ao sl co) (t.out true).sent ?_ hsent (.slice ab mm kb) (D.take mm) ?_ hsrc HSO.out.2 ?_
     ·simp[Act.eval]
     ·simp[Act.eval]
     intro v5 w5 own5 S5 hk5 e5;obtain⟨a5,k5,hv5⟩:=hk5.slice S5;subst hv5;generalize hNN:((t.out true).sent++D.take mm).length=NN at *;clear hNN;have L5:=HL2.out.alike (own':=own5) (λn hn ho=>e5 n (hn _));have ea:ol+k*10+2=ol+(10*k+2):=by omega
     have d5:w5.cell? ⟨al,ol+k*10+2,none⟩=some (.slice ao sl co):=by
      have:=(L5.line S5 (10*k+2) (by omega)).1
      have e2:xs[10*k+2]? = some vo:=HX0.out;rw[e2,hvoH.out] at this;rw[ea];exact this
     have t5:w5.frozen? ⟨al,ol+k*10+2,none⟩=false:=by rw[ea];exact(L5.line S5 (10*k+2) (by omega)).2
     clear ea)
    all_goals
     obtain⟨own6,S6,L6,e6⟩:=L5.setLine S5 (10*k+2) (.slice a5 NN k5);have ea:ol+(10*k+2)=ol+k*10+2:=by omega
     rw[ea] at S6;have hLS:=hl.setSent (own':=own6) ht true (.slice a5 NN k5) ((t.out true).sent++D.take mm) (λi hi=>(e6 i).trans ((e5 (.e i) (λe=>hi (by injection e))).trans (HEE.out i))) (hk5.alike (e6 _));have HF:Hid (Sep wb (w5.setCell ⟨al,ol+k*10+2,none⟩ (.slice a5 NN k5)) own6/\zak own6 gl gx gy (dx.write (dx.find (t.id:Int)) D) dy vu vd (.slice (some ⟨al,ol,none⟩) ls.length cl) up down ls.length (xs.set (10*k+2) (.slice a5 NN k5)) lv/\LS own6 (ls.modify k λx=>x.setOut true { (x.out true) with sent:=(t.out true).sent++D.take mm }) (xs.set (10*k+2) (.slice a5 NN k5))):=⟨S6,L6,hLS⟩;have HZ:Hid (own6 (.e 1000)=own (.e 1000)):=(e6 1000).trans ((e5 (.e 1000) (λe=>by injection e with e;have:=H.newStr.2;omega)).trans (HEE.out 1000));clear S6 L6 hLS S5 hk5 e5 L5 d5 t5 ea
     go_wp2
     go_ret
     have eL:(ls.modify k λx=>x.setOut true { (x.out true) with sent:=(x.out true).sent++D.take mm })=(ls.modify k λx=>x.setOut true { (x.out true) with sent:=(t.out true).sent++D.take mm }):=zka ht _ _ rfl;have hT:=HH2.out;rw[eL] at hT;obtain⟨f1,f2,f3⟩:=HF.out;refine⟨rfl,own6,_,_,_,f1,?_,f3,?_,List.length_modify ..,hT.1,hT.2,HZ.out,trivial⟩
     ·rw[List.length_modify];exact f2
     ·rw[<-eL];refine SB.mod1 (hsb.mono (by omega)) ht _ ?_;exact⟨by show ((t.out true).sent++D.take mm).length<=S+300;rw[List.length_append,List.length_take];have:=HSO.out.1;omega,by have:=(hsb t (List.mem_of_getElem? ht)).2;show t.server.sent.length<=S+300;omega⟩
   ·have HF:Hid (∃ own',Sep wb wc own'/\zak own' gl gx gy dx dy vu vd (.slice (some ⟨al,ol,none⟩) ls.length cl) up down ls.length xs lv/\LS own' ls xs/\own' (.e 1000)=own (.e 1000)):=by
     obtain⟨q1,q2,q3,q4⟩:=HW.out;refine⟨own2,q1,HL.out.withX (q3 her) (λn h1 h2 h3=>(q2 n h3).trans (zac _ _ h2)),hl.alike (λi=>(q2 (.e i) (λx e=>by cases e)).trans (zac _ _ (λe=>by cases e))),(q2 (.e 1000) (λx e=>by cases e)).trans (zac _ _ (λe=>by cases e))⟩
    have hne:((er:Int) == 0)=false:=by rw[beq_eq_false_iff_ne];omega
    clear HW her HO HD
    go_wp2
    go_ret
    obtain⟨own7,f1,f2,f3,f4⟩:=HF.out;exact⟨rfl,own7,ls,xs,dx,f1,f2,f3,hsb.mono (by omega),rfl,H.mono (by omega),zcr.refl _ _ _,f4,trivial⟩
def RWry(wb:World)(gl gx gy:Nat)(dx dy:Ds)(vu vd vl:Value)(up down:Bytes)(lv:Bool)(own:LN->Res)(ls:List Line)(X:Ds->List Line->Prop)(p m L S:Nat)(e:Ending)(w':World):Prop :=
 e = .returned (.bool true) /\ ∃ own' ls' xs' d',Sep wb w' own'/\zak own' gl gx gy dx d' vu vd vl up down ls'.length xs' lv/\LS own' ls' xs'/\SB ls' S/\ls'.length=ls.length/\TD false d' dx down up ls' p m L/\zcr false dy ls d' ls'/\own' (.e 1000)=own (.e 1000)/\X d' ls'
set_option maxHeartbeats 6400000 in
theorem zzbfw(h:zak own gl gx gy dx dy vu vd vl up down ls.length xs lv)(hs:Sep wb w own)(hl:LS own ls xs)(hsb:SB ls S)(hS:S<=100000)(H:TD false dy dx down up ls p (m+1) L)(k:Nat)(hk:k<ls.length)(n:Nat)(hn:n<=300) :
  Calls Tryz.prog 34 #[.pointer (some ⟨gl,0,none⟩),.int .i64 (k:Int),.bool false,.int .i64 (n:Int)] w (RWry wb gl gx gy dx dy vu vd vl up down lv own ls (λ_ _=>True) p m L (S+300)):=by
 obtain⟨al,ol,cl,hvl,hcl⟩:=h.linesV hs (by omega);subst hvl;obtain⟨t,ht⟩:∃ t,ls[k]? = some t:=⟨_,List.getElem?_eq_getElem hk⟩;obtain⟨vo,x0,x2,so,-⟩:=hl.outCells ht false;have hid:=H.line ht;have hlen:=hl.len;have hob:=hsb.out (List.mem_of_getElem? ht) false;obtain⟨ao,co,hvo⟩:=so.slice hs;have g4:w.cell? ⟨gl,4,none⟩=some (.slice (some ⟨al,ol,none⟩) ls.length cl):=h.cc hs 4;have kw:Calls Tryz.prog 15 #[.pointer (some ⟨al,ol+k*10,none⟩),.bool false] w λe w'=>e = .returned (.tuple #[.pointer (some ⟨al,ol+k*10+5,none⟩),.pointer (some ⟨al,ol+k*10+2,none⟩)])/\Ext w w':=zfn al (ol+k*10) false w
 go_enter Tryz.func34,Tryz.ntmps34
 go_wp2_with fail
 refine kw.mono ?_;rintro e w1 ⟨rfl,he1⟩;have HS1:=hide (hs.ext he1);have S1:=hs.ext he1;have HL:=hide h;have c0:w1.cell? ⟨al,ol+k*10,none⟩=some (.int .i64 (t.id:Int)):=by
  have:=(h.line S1 (10*k) (by omega)).1
  rw[x0] at this;rw[<-this];congr 2;omega
 have c2:w1.cell? ⟨al,ol+k*10+5,none⟩=some (.slice ao (t.out false).sent.length co):=by
  have:=(h.line S1 (10*k+wo false) (by show 10*k+5<_;omega)).1
  rw[x2,hvo] at this;rw[<-this];congr 2;show ol+k*10+5=ol+(10*k+5);omega
 have kb:=zwx (t.out false).sent.length n t.id w1.drew (by omega) (by omega) (by omega);have c0d:w1.drew.cell? ⟨al,ol+k*10,none⟩=some (.int .i64 (t.id:Int)):=c0;have c2d:w1.drew.cell? ⟨al,ol+k*10+5,none⟩=some (.slice ao (t.out false).sent.length co):=c2;generalize hsl:(t.out false).sent.length=sl at *;have HSL:=hide hsl;clear hsl kw hs h S1 he1 g4
 go_upto_region 3 with fail
 go_cut [12] from 27 to 37 (λs12 wx => ∃ (D:Bytes) (vD:Value),s12=vD/\Hid (D.length=n)/\Hid (Ext w1 wx/\wx.ownsRow w1.heap.size 5 1 vD D.length (zab D)))
 case first =>
  go_region_with (go_at_call 77;refine kb.mono ?_;rintro e w3 ⟨D,v3,rfl,hD,how3,he3⟩;have HD:=hide hD;have HO:Hid (Ext w1 w3/\w3.ownsRow w1.heap.size 5 1 v3 D.length (zab D)):=⟨(Ext.refl w1).drew.trans he3,how3⟩;clear hD how3 he3)
  all_goals
   go_wp2_with fail
   go_meet
   exact⟨D,_,rfl,HD,HO⟩
 case rest =>
  obtain⟨D,vD,hvs,HD,HO⟩:=hcut;replace hvs:=hvs.symm;subst hvs;obtain⟨aD,cD,hvD⟩:∃ a cap,vD = .slice a D.length cap:=by obtain⟨a,cap,e,-⟩:=zae.ofOwns HO.out.2;exact⟨a,cap,e⟩
  subst hvD;have hE1:=HO.out.1;have Sc:=HS1.out.ext hE1;have hOD:=OwnAt.ofOwns HO.out.2;have So:Sep wb wc (upd own .o (.row 5 1 (.slice aD D.length cD) D.length (zab D))):=HS1.out.add .o hE1 hOD (λb hb=>zie HO.out.2 b hb);have Lo:zak (upd own .o (.row 5 1 (.slice aD D.length cD) D.length (zab D))) gl gx gy dx dy vu vd (.slice (some ⟨al,ol,none⟩) ls.length cl) up down ls.length xs lv:=HL.out.alike (λn _ hn=>zac _ _ hn);have g0:wc.drew.cell? ⟨gl,0,none⟩=some (.pointer (some ⟨gx,0,none⟩)):=Lo.cc So 0;have g1:wc.drew.cell? ⟨gl,1,none⟩=some (.pointer (some ⟨gy,0,none⟩)):=Lo.cc So 1;have ke:Calls Tryz.prog 16 #[.pointer (some ⟨gl,0,none⟩),.bool false] wc.drew λe w'=>e = .returned (.pointer (some ⟨gy,0,none⟩))/\w'=wc.drew:=zdl false wc.drew g0 g1;have hBD:zae wc.drew (.slice aD D.length cD) D:=(zae.ofOwns HO.out.2).ext (Ext.refl wc).drew;have kW:=znl Lo.ey (So.ext (Ext.refl wc).drew) (H.od.fits.mono (by omega)) (t.id:Int) (by omega) (by omega) (.slice aD D.length cD) D hBD;have f0:wc.drew.cell? ⟨al,ol+k*10,none⟩=some (.int .i64 (t.id:Int)):=hE1.cell c0;have hroom:Ds.room (dy.find (t.id:Int)) D<=n:=by rw[<-HD.out];unfold Ds.room;omega
  clear kb c0 c0d c2d;have HK:Hid (∀ (e:Ending) (w6:World),(∃ own',Sep wb w6 own'/\zai LN.y (upd own .o (.row 5 1 (.slice aD D.length cD) D.length (zab D))) own'/\((dy.unwritable (dy.find (t.id:Int))≠0/\e = .returned (.tuple #[.int .i64 0,.int .i64 (dy.unwritable (dy.find (t.id:Int)):Int)])/\zar own' LN.y gy dy)\/(dy.unwritable (dy.find (t.id:Int))=0/\e = .returned (.tuple #[.int .i64 (Ds.room (dy.find (t.id:Int)) D:Int),.int .i64 0])/\zar own' LN.y gy (dy.write (dy.find (t.id:Int)) D)))) -> ∃ (own2:LN->Res) (er mm:Nat),e = .returned (.tuple #[.int .i64 (mm:Int),.int .i64 (er:Int)])/\mm<=n/\Hid (Sep wb w6 own2/\zai LN.y (upd own .o (.row 5 1 (.slice aD D.length cD) D.length (zab D))) own2/\(er≠0->zar own2 LN.y gy dy)/\(er=0->dy.unwritable (dy.find (t.id:Int))=0/\mm=Ds.room (dy.find (t.id:Int)) D/\zar own2 LN.y gy (dy.write (dy.find (t.id:Int)) D)))):=by
   rintro e w6 ⟨own',q1,q2,q3⟩;rcases q3 with ⟨q3,q4,q5⟩ | ⟨q3,q4,q5⟩
   ·exact⟨own',_,0,q4,Nat.zero_le _,q1,q2,λ_=>q5,λe=>absurd e q3⟩
   ·exact⟨own',0,_,q4,hroom,q1,q2,λe=>absurd rfl e,λ_=>⟨q3,rfl,q5⟩⟩
  clear Sc hOD So Lo g0 g1 hBD hroom hE1
  go_upto_region 4 with fail
  go_cut [13,14] from 38 to 49 (λs13 s14 wx => ∃ (own2:LN->Res) (er mm:Nat),s13 = .int .i64 (mm:Int)/\s14 = .int .i64 (er:Int)/\mm<=n/\Hid (Sep wb wx own2/\zai LN.y (upd own .o (.row 5 1 (.slice aD D.length cD) D.length (zab D))) own2/\(er≠0->zar own2 LN.y gy dy)/\(er=0->dy.unwritable (dy.find (t.id:Int))=0/\mm=Ds.room (dy.find (t.id:Int)) D/\zar own2 LN.y gy (dy.write (dy.find (t.id:Int)) D))))
  case first =>
   go_region_with (first
    | (go_at_call 16;refine ke.mono ?_;rintro e w0 ⟨rfl,hw⟩;replace hw:=hw.symm;subst hw)
    | (go_at_call 30;refine kW.mono ?_;intro e w6 hh;obtain⟨own2,er,mm,rfl,hmm,HW⟩:=HK.out e w6 hh;clear hh))
   all_goals
    go_wp2_with fail
    go_meet
    exact⟨own2,er,mm,rfl,rfl,hmm,HW⟩
  case rest =>
   obtain⟨own2,er,mm,rfl,rfl,hmm,HW⟩:=hcut;have hm0:decide ((mm:Int)<0)=false:=by simp
   have hmn:decide (n<mm)=false:=by simp;omega
   have hmn':decide ((n:Int)<(mm:Int))=false:=by simp;omega
   clear kW ke HK f0;by_cases her:er=0
   ·subst her;obtain⟨q1,q2,q3,q4⟩:=HW.out;obtain⟨hu,hmr,hX⟩:=q4 rfl;have eo:own2 .o = .row 5 1 (.slice aD D.length cD) D.length (zab D):=(q2 .o (λx e=>by cases e)).trans (zag _ _ _);have ee:∀ i,own2 (.e i)=own (.e i):=λi=>(q2 (.e i) (λx e=>by cases e)).trans (zac _ _ (λe=>by cases e))
    have L2:=HL.out.withY hX (λn h1 h2 h3=>(q2 n h3).trans (zac _ _ h2));have hBD:zae wc (.slice aD D.length cD) D:=OwnAt.isBytes (q1.get eo);have hmD:mm<=D.length:=by rw[HD.out];exact hmm
    have hB0:=zae.take hBD mm hmD;have hrun:∀ W:World,(Instr.slice 34 (.slice aD D.length cD) none (some (.int .i64 (mm:Int))) none).run Tryz.prog W = .ok (sliced aD 0 mm cD 1) W:=λW=>by
     have hcD:D.length<=cD:=by obtain⟨a,cap,e,h1,-⟩:=hBD;simp only[Value.slice.injEq] at e;omega
     rw[run_slice_h W 34 _ _ cD (by rw[zam];exact Tryz.underlying34) .i64 (mm:Int) (by omega) (by omega),zam,zbl];simp[Result.andThen]
    have hsrc:=zed (hB0.ext (Ext.refl wc).drew);obtain⟨ab,kb,hvb,-,-,-⟩:=hB0;have htl:(D.take mm).length=mm:=by rw[List.length_take];omega
    rw[htl] at hvb;rw[hvb] at hrun hsrc;have hsent:SentAt own2 (3*k+2) (.slice ao sl co) (t.out false).sent:=by rw[<-hvo];exact so.alike (ee _)
    have c5:wc.drew.cell? ⟨al,ol+k*10+5,none⟩=some (.slice ao sl co):=by
     have:=(L2.line q1 (10*k+5) (by omega)).1
     have e2:xs[10*k+5]? = some vo:=x2;rw[e2,hvo] at this;have ea:ol+k*10+5=ol+(10*k+5):=by omega
     rw[ea];exact this
    have c5':wc.cell? ⟨al,ol+k*10+5,none⟩=some (.slice ao sl co):=c5;obtain⟨i0,hi0,hz0,hz1,hz2⟩:=zbk Tryz.infoU;have H2:=H.writeK ht hu D;rw[<-hmr] at H2;have HH2:=hide H2;have HQ1:=hide q1;have HL2:=hide L2;have HEE:=hide ee;have hvoH:=hide hvo;have HSO:Hid ((t.out false).sent.length+mm<=S+300/\(t.out false).sent.length+(D.take mm).length<=1000000):=by
     have:=HSL.out
     exact⟨by omega,by rw[htl];omega⟩
    have HX0:=hide x2;clear H2 q1 q2 q3 q4 hu hmr hX eo ee L2 hBD hmD htl hvo x0 x2 so hvb c2 HW HO
    go_wp2_with fail
    go_region_law (
     refine zla (HQ1.out.ext (Ext.refl wc).drew) rfl (.tmp 63) (.tmp 66) 34 34 rfl i0 Tryz.underlying34 hi0 hz0 hz1 hz2 (3*k+2) (.slice ao sl co) (t.out false).sent ?_ hsent (.slice ab mm kb) (D.take mm) ?_ hsrc HSO.out.2 ?_
     ·simp[Act.eval]
     ·simp[Act.eval]
     intro v5 w5 own5 S5 hk5 e5;obtain⟨a5,k5,hv5⟩:=hk5.slice S5;subst hv5;generalize hNN:((t.out false).sent++D.take mm).length=NN at *;clear hNN;have L5:=HL2.out.alike (own':=own5) (λn hn ho=>e5 n (hn _));have ea:ol+k*10+5=ol+(10*k+5):=by omega
     have d5:w5.cell? ⟨al,ol+k*10+5,none⟩=some (.slice ao sl co):=by
      have:=(L5.line S5 (10*k+5) (by omega)).1
      have e2:xs[10*k+5]? = some vo:=HX0.out;rw[e2,hvoH.out] at this;rw[ea];exact this
     have t5:w5.frozen? ⟨al,ol+k*10+5,none⟩=false:=by rw[ea];exact(L5.line S5 (10*k+5) (by omega)).2
     clear ea)
    all_goals
     obtain⟨own6,S6,L6,e6⟩:=L5.setLine S5 (10*k+5) (.slice a5 NN k5);have ea:ol+(10*k+5)=ol+k*10+5:=by omega
     rw[ea] at S6;have hLS:=hl.setSent (own':=own6) ht false (.slice a5 NN k5) ((t.out false).sent++D.take mm) (λi hi=>(e6 i).trans ((e5 (.e i) (λe=>hi (by injection e))).trans (HEE.out i))) (hk5.alike (e6 _));have HF:Hid (Sep wb (w5.setCell ⟨al,ol+k*10+5,none⟩ (.slice a5 NN k5)) own6/\zak own6 gl gx gy dx (dy.write (dy.find (t.id:Int)) D) vu vd (.slice (some ⟨al,ol,none⟩) ls.length cl) up down ls.length (xs.set (10*k+5) (.slice a5 NN k5)) lv/\LS own6 (ls.modify k λx=>x.setOut false { (x.out false) with sent:=(t.out false).sent++D.take mm }) (xs.set (10*k+5) (.slice a5 NN k5))):=⟨S6,L6,hLS⟩;have HZ:Hid (own6 (.e 1000)=own (.e 1000)):=(e6 1000).trans ((e5 (.e 1000) (λe=>by injection e with e;have:=H.newStr.2;omega)).trans (HEE.out 1000));clear S6 L6 hLS S5 hk5 e5 L5 d5 t5 ea
     go_wp2
     go_ret
     have eL:(ls.modify k λx=>x.setOut false { (x.out false) with sent:=(x.out false).sent++D.take mm })=(ls.modify k λx=>x.setOut false { (x.out false) with sent:=(t.out false).sent++D.take mm }):=zka ht _ _ rfl;have hT:=HH2.out;rw[eL] at hT;obtain⟨f1,f2,f3⟩:=HF.out;refine⟨rfl,own6,_,_,_,f1,?_,f3,?_,List.length_modify ..,hT.1,hT.2,HZ.out,trivial⟩
     ·rw[List.length_modify];exact f2
     ·rw[<-eL];refine SB.mod1 (hsb.mono (by omega)) ht _ ?_;exact⟨by have:=(hsb t (List.mem_of_getElem? ht)).1;show t.client.sent.length<=S+300;omega,by show ((t.out false).sent++D.take mm).length<=S+300;rw[List.length_append,List.length_take];have:=HSO.out.1;omega⟩
   ·have HF:Hid (∃ own',Sep wb wc own'/\zak own' gl gx gy dx dy vu vd (.slice (some ⟨al,ol,none⟩) ls.length cl) up down ls.length xs lv/\LS own' ls xs/\own' (.e 1000)=own (.e 1000)):=by
     obtain⟨q1,q2,q3,q4⟩:=HW.out;refine⟨own2,q1,HL.out.withY (q3 her) (λn h1 h2 h3=>(q2 n h3).trans (zac _ _ h2)),hl.alike (λi=>(q2 (.e i) (λx e=>by cases e)).trans (zac _ _ (λe=>by cases e))),(q2 (.e 1000) (λx e=>by cases e)).trans (zac _ _ (λe=>by cases e))⟩
    have hne:((er:Int) == 0)=false:=by rw[beq_eq_false_iff_ne];omega
    clear HW her HO HD
    go_wp2
    go_ret
    obtain⟨own7,f1,f2,f3,f4⟩:=HF.out;exact⟨rfl,own7,ls,xs,dy,f1,f2,f3,hsb.mono (by omega),rfl,H.mono (by omega),zcr.refl _ _ _,f4,trivial⟩
end
end Go.Proofs.YtoijpogadkogcaaGreat
