import Derived.Test.YtoijpogadkogcaaGreatQj
namespace Go.Proofs.YtoijpogadkogcaaGreat
open Go.RowKit
set_option maxRecDepth 100000
theorem zeh(id:Nat)(m:Bool)(h:id<=65535):(Ds.begun id m).Fits:=⟨h,by show 1<=8;omega,by show (0:Int)<=100;omega,by show (100:Int)<=1000;omega,by show (0:Int)<=100;omega,by show (100:Int)+((0:Nat):Int)<=100;omega,Nat.zero_le _,Nat.zero_le _,Nat.zero_le _,Nat.zero_le _⟩
theorem zgb(d:Ds)(m:Bool)(id:Nat):(d.keep m id).str id=some (Ds.begun id m):=zdt _ _ _
theorem zre(d:Ds)(m:Bool)(id:Nat):(d.keep m id).failed=d.failed:=zrb d m 1
theorem Ds.Fits.keep{d:Ds}{k:Nat}(h:d.Fits (k+1))(m:Bool)(id:Nat)(hid:id<=65535):(d.keep m id).Fits k:=(h.bump m 1 (by omega) (by omega)).setS id _ (zeh id m hid)
section
variable {N:Type} {own:N->Res} {nm:DN->N} {g:Nat} {d:Ds} {v:DV} {wb w:World}
set_option maxHeartbeats 3200000 in
theorem zzc(h:zaa own nm g d v)(hs:Sep wb w own)(hf:d.Fits 4){id:Nat}(hn:d.str id=none)(hid:id<=65535) :
  Calls Tryz.prog 176 #[.pointer (some ⟨g,0,none⟩),.int .i64 (id:Int)] w λe w'=>e = .returned (.tuple #[])/\zaf nm g wb own d v w' (d.refuse id):=by
 have kk:=zyr h hs (hf.mono (by omega)) hn hid;have F1:(d.keep false id).Fits 3:=hf.keep false id hid;have F2:((d.keep false id).breakHere (Ds.begun id false) 6).Fits 2:=Ds.Fits.move (m:=2) F1 ⟨hid,by show 1<=8;omega,by show (0:Int)<=100;omega,by show (100:Int)<=1000;omega,by show (0:Int)<=100;omega,by show (100:Int)+((0:Nat):Int)<=100;omega,Nat.zero_le _,Nat.zero_le _,Nat.zero_le _,by show 6<=255;omega⟩ (by show 5<=8;omega);have hfd:((d.keep false id).breakHere (Ds.begun id false) 6).failed=d.failed:=(zma _ _ _).trans (zre _ _ _);have hfd2:(d.refuse id).failed=d.failed:=(zkn _ _).trans hfd;have HF1:=hide hfd;have HF2:=hide hfd2;clear hfd hfd2
 go_enter Tryz.func176,Tryz.ntmps176
 go_wp2_with fail
 refine kk.mono ?_;rintro e w1 ⟨p,rfl,own1,v1,S1,H1,E1,r1,i1,p1,hp1⟩;have kb:=ztq H1 S1 (F1.mono (by omega)) (s:=Ds.begun id false) (zgb d false id) 6 (by omega);rw[show v1.ptr (Ds.begun id false).id=p from hp1] at kb;clear S1 H1
 go_wp2_with fail
 refine kb.mono ?_;rintro e w2 ⟨rfl,own2,v2,S2,H2,E2,r2,i2,p2⟩;have hp2:v2.ptr id=p:=((p2 id (by rw[zgb];rfl)).1).trans hp1;have kp:=zra H2 S2 (F2.mono (by omega)) (s:=Ds.moved { Ds.begun id false with code:=6 } 5) (zse (d.keep false id) { Ds.begun id false with code:=6 } 5);rw[show v2.ptr (Ds.moved { Ds.begun id false with code:=6 } 5).id=p from hp2] at kp;clear S2 H2
 go_wp2_with fail
 refine kp.mono ?_;rintro e w3 ⟨rfl,hL⟩;have HL:=hide (show zaf nm g wb own d v w3 (d.refuse id) from hL.trans (own:=own) (d:=d) (v:=v) (E1.trans E2) (r2.trans r1) (λhx=>(i2 (by rw[HF1.out,<-HF2.out];exact hx)).trans (i1 (by rw[zre,<-HF2.out];exact hx))) (λk hk=>⟨(p2 k (p1 k hk).2).1.trans (p1 k hk).1,(p2 k (p1 k hk).2).2⟩));clear hL
 go_wp2
 go_end0
 exact⟨rfl,HL.out⟩
def bare(client:Bool)(streams:Nat):Ds:={ client:=client,tMost:=streams }
theorem zwf(client:Bool)(streams m:Nat)(h:streams<=6)(hm:m<=1000):(bare client streams).Fits m:=by
 refine⟨by show 0<=200;omega,by show 0<=65535;omega,by show 1<=255;omega,by show streams<=255;omega,?_,?_,?_,?_,by show (0:Int)<=150;omega,by show (150:Int)<=1000;omega,by show (0:Int)<=150;omega,?_,?_,?_,?_,Nat.zero_le _,Nat.zero_le _,λi e b hc=>(by cases hc),λf hf=>(by cases hf),λn s hs=>(by cases hs)⟩
 ·show _<=(0:Int);omega
 ·show (0:Int)+_<=_;omega
 ·show _<=(0:Int);omega
 ·show (0:Int)+_<=_;omega
 ·show (150:Int)+_<=_;omega
 ·show 0+_<=_;omega
 ·show 0+_<=_;omega
 ·show 0+_<=_;omega
theorem zaa.bare(hi:∀ a b,nm a=nm b->a=b)(h0:∀ x,own (nm x) = .none)(client:Bool)(streams gm gt:Nat)(hs:Sep wb w (upd (upd (upd own (nm .mm) (.obj gm (.map #[] 0))) (nm .mt) (.obj gt (.map #[] 0))) (nm .conn) (.obj g (.cells (zbc (bare client streams) { gm:=gm,gt:=gt }) 105 (0,0))))) :
  ∃ own',Sep wb w own'/\zaa own' nm g (Proofs.YtoijpogadkogcaaGreat.bare client streams) { gm:=gm,gt:=gt,rp:=.row 5 1 (.slice none 0 0) 0 [] }/\zai nm own own':=by
 have s1:=(((hs.nilRow (nm .ctl) 111 4).nilRow (nm .ring) 87 1).nilRow (nm .ev) 109 3).nilRow (nm .inn) 5 1;refine⟨_,s1,⟨hi,λx => ?_,rfl,?_,?_,⟨λn s hn=>(by cases hn),λn hn=>(by cases hn)⟩,λn s hn=>(by cases hn),λn s hn=>(by cases hn)⟩,((((((zai.refl nm own).upd _ _).upd _ _).upd _ _).upd _ _).upd _ _).upd _ _ |>.upd _ _⟩
 ·rw[zad hi,zad hi,zad hi,zad hi,zad hi,zad hi,zad hi,h0];cases x<;>simp only[zao,reduceCtorEq,if_false,if_true]<;>first | rfl | (split<;>rfl)
 ·have:(Proofs.YtoijpogadkogcaaGreat.bare client streams).mapF true (λ_=>0)=λ_=>none:=by funext a;unfold Ds.mapF Ds.held;split<;>rfl
  rw[this];exact zds.empty
 ·have:(Proofs.YtoijpogadkogcaaGreat.bare client streams).mapF false (λ_=>0)=λ_=>none:=by funext a;unfold Ds.mapF Ds.held;split<;>rfl
  rw[this];exact zds.empty
def zzbgp{N:Type}(nm:DN->N)(wb:World)(own:N->Res)(w':World)(d:Ds)(g:Nat):Prop :=
 ∃ own' v',Sep wb w' own'/\zaa own' nm g d v'/\zai nm own own'/\znd d v'
theorem zzbdk{M:Type}(o:M->Res)(n:M)(r r':Res):upd (upd o n r) n r'=upd o n r':=by
 funext m
 by_cases e:m=n
 ·rw[e,zag,zag]
 ·rw[zac _ _ e,zac _ _ e,zac _ _ e]
set_option maxHeartbeats 3200000 in
theorem zzbgq(hi:∀ a b,nm a=nm b->a=b)(h0:∀ x,own (nm x) = .none)(hs:Sep wb w own)(client:Bool)(streams:Nat)(hst:streams<=6) :
  Calls Tryz.prog 27 #[.bool client,.int .i64 (streams:Int)] w λe w' => ∃ g,e = .returned (.tuple #[.pointer (some ⟨g,0,none⟩),.int .i64 0])/\zzbgp nm wb own w' (Ds.new client streams) g:=by
 have hmm:=@run_makeMap Tryz.prog;have s1:=(hs.addObj (nm .mm) (.map #[] 0)).addObj (nm .mt) (.map #[] 0);have z1:(w.alloc (.map #[] 0)).heap.size=w.heap.size+1:=by simp
 have z2:((w.alloc (.map #[] 0)).alloc (.map #[] 0)).heap.size=w.heap.size+2:=by simp
 have s2:=s1.addObj (nm .conn) (.cells (zbc (Proofs.YtoijpogadkogcaaGreat.bare true streams) { gm:=w.heap.size,gt:=w.heap.size+1 }) 105);rw[z1,z2] at s2;have n1:¬ (streams:Int)<0:=by omega
 have n2:¬ (6:Int)<(streams:Int):=by omega
 have e1:IntKind.u8.wrap (streams:Int)=(streams:Int):=by rw[zkd];omega
 have fin:∀ (client:Bool) (W w':World) (own3:N->Res),Sep wb W own3->zaa own3 nm (w.heap.size+2) (Proofs.YtoijpogadkogcaaGreat.bare client streams) { gm:=w.heap.size,gt:=w.heap.size+1,rp:=.row 5 1 (.slice none 0 0) 0 [] }->zai nm own own3->zaf nm (w.heap.size+2) wb own3 (Proofs.YtoijpogadkogcaaGreat.bare client streams) { gm:=w.heap.size,gt:=w.heap.size+1,rp:=.row 5 1 (.slice none 0 0) 0 [] } w' (Ds.new client streams)->zzbgp nm wb own w' (Ds.new client streams) (w.heap.size+2):=by rintro client W w' own3 _ _ E3 ⟨own4,v4,S4,H4,E4,r4,i4,_⟩;refine⟨own4,v4,S4,H4,E3.trans E4,λ_ => ?_⟩;rw[r4,i4 rfl];rfl
 cases client with
 | true =>
  obtain⟨own3,S3,H3,E3⟩:=zaa.bare hi h0 true streams w.heap.size (w.heap.size+1) s2;obtain⟨W,hW⟩:∃ W,((w.alloc (.map #[] 0)).alloc (.map #[] 0)).alloc (.cells (zbc (Proofs.YtoijpogadkogcaaGreat.bare true streams) { gm:=w.heap.size,gt:=w.heap.size+1 }) 105)=W:=⟨_,rfl⟩;rw[hW] at S3;have hW':((w.alloc (.map #[] 0)).alloc (.map #[] 0)).alloc (.cells #[.int .i64 1,.int .i64 0,.int .i64 1,.int .i64 0,.map (some w.heap.size),.int .i64 2,.int .i64 0,.int .i64 (streams:Int),.int .i64 0,.map (some (w.heap.size+1)),.int .i64 150,.int .i64 150,.slice none 0 0,.slice none 0 0,.slice none 0 0,.slice none 0 0,.pointer none,.int .u16 0,.bool false,.bool false,.bool false] 105)=W:=hW;have kl:=zga H3 4 0 0 [UInt8.ofNat streams] _ (S3.add (nm (.fr 0)) ((Ext.refl W).alloc _) (zzbdg W streams (streams:Int) rfl (by omega)) (zho W 1 1 rfl)) (zwf true streams 1 hst (by omega));have FN:=hide (λw' hL=>fin true W w' own3 S3 H3 E3 hL);clear hW S3 H3 s1 s2 fin z1 z2
  go_enter Tryz.func27,Tryz.ntmps27
  go_wp2_with fail
  refine kl.mono ?_;rintro e w1 ⟨rfl,hL⟩;have HL:=hide (FN.out w1 hL);clear hL
  go_wp2
  go_ret2
  exact⟨_,rfl,HL.out⟩
 | false =>
  have s3:=(s2.setObj (zag _ _ _) 0 (.int .i64 2)).setObj (zag _ _ _) 5 (.int .i64 1);rw[zzbdk,zzbdk] at s3;obtain⟨own3,S3,H3,E3⟩:=zaa.bare hi h0 false streams w.heap.size (w.heap.size+1) s3;have th0:=s2.thaw (zag _ _ _) 0;have th5:=(s2.setObj (zag _ _ _) 0 (.int .i64 2)).thaw (zag _ _ _) 5;have l0:=s2.cell (zag _ _ _) 0;have l5:=(s2.setObj (zag _ _ _) 0 (.int .i64 2)).cell (zag _ _ _) 5;obtain⟨W0,hW0⟩:∃ W,((w.alloc (.map #[] 0)).alloc (.map #[] 0)).alloc (.cells (zbc (Proofs.YtoijpogadkogcaaGreat.bare true streams) { gm:=w.heap.size,gt:=w.heap.size+1 }) 105)=W:=⟨_,rfl⟩;rw[hW0] at S3 th0 th5 l0 l5;have hW0':((w.alloc (.map #[] 0)).alloc (.map #[] 0)).alloc (.cells #[.int .i64 1,.int .i64 0,.int .i64 1,.int .i64 0,.map (some w.heap.size),.int .i64 2,.int .i64 0,.int .i64 (streams:Int),.int .i64 0,.map (some (w.heap.size+1)),.int .i64 150,.int .i64 150,.slice none 0 0,.slice none 0 0,.slice none 0 0,.slice none 0 0,.pointer none,.int .u16 0,.bool false,.bool false,.bool false] 105)=W0:=hW0;obtain⟨W,hW⟩:∃ W,(W0.setCell ⟨w.heap.size+2,0,none⟩ (.int .i64 2)).setCell ⟨w.heap.size+2,5,none⟩ (.int .i64 1)=W:=⟨_,rfl⟩;rw[hW] at S3;have kl:=zga H3 4 0 0 [UInt8.ofNat streams] _ (S3.add (nm (.fr 0)) ((Ext.refl W).alloc _) (zzbdg W streams (streams:Int) rfl (by omega)) (zho W 1 1 rfl)) (zwf false streams 1 hst (by omega));have FN:=hide (λw' hL=>fin false W w' own3 S3 H3 E3 hL);clear hW0 S3 H3 s1 s2 s3 fin z1 z2
  go_enter Tryz.func27,Tryz.ntmps27
  go_wp2_with fail
  refine kl.mono ?_;rintro e w1 ⟨rfl,hL⟩;have HL:=hide (FN.out w1 hL);clear hL
  go_wp2
  go_ret2
  exact⟨_,rfl,HL.out⟩
end
theorem Sep.sink{N:Type}{own:Option N->Res}{wb w:World}(h:Sep wb w own)(m:N):Sep wb w (upd (λn=>own (some n)) m (own none)):=by
 refine⟨h.base,λn => ?_,λa b k ha hb => ?_,λn k hn => ?_⟩
 ·by_cases e:n=m
  ·subst e;rw[zag];exact h.ok none
  ·rw[zac _ _ e];exact h.ok (some n)
 ·by_cases ea:a=m
  ·by_cases eb:b=m
   ·rw[ea,eb]
   ·subst ea;rw[zag] at ha;rw[zac _ _ eb] at hb
    have:=h.apart none (some b) k ha hb
    cases this
  ·rw[zac _ _ ea] at ha;by_cases eb:b=m
   ·subst eb;rw[zag] at hb
    have:=h.apart (some a) none k ha hb
    cases this
   ·rw[zac _ _ eb] at hb
    have:=h.apart (some a) (some b) k ha hb
    injection this
 ·by_cases e:n=m
  ·subst e;rw[zag] at hn;exact h.low none k hn
  ·rw[zac _ _ e] at hn;exact h.low (some n) k hn
section
variable {N:Type} {own:N->Res} {nm:DN->N} {g:Nat} {d:Ds} {v:DV} {wb w:World}
theorem zaa.setH{own1:Option N->Res}(h:zaa own1 (λx=>some (nm x)) g d v)(hs:Sep wb w own1){s:DS}(hn:d.str s.id=some s)(hd:zal)(hne:hd≠[])(vh:Value)(h0:own1 none = .row 122 2 vh hd.length (zap hd)) :
  ∃ own',Sep wb (w.setCell ⟨v.ptr s.id,5,none⟩ vh) own'/\zaa own' nm g (d.setS s.id { s with headers:=hd }) { v with sv:=λk=>if k=s.id then { v.sv s.id with vH:=vh } else v.sv k }/\zai nm (λn=>own1 (some n)) own':=by
 have hu:=h.unlift (nm:=nm);have s1:=hs.sink (nm (.hdr s.id));rw[h0] at s1;have c1:upd (λn=>own1 (some n)) (nm (.hdr s.id)) (.row 122 2 vh hd.length (zap hd)) (nm (.st s.id)) = .obj (v.ptr s.id) (.cells (zba g s (v.sv s.id)) 94 (0,0)):=by rw[zad hu.inj,if_neg (by simp)];exact hu.st hn
 have s2:=s1.setObj c1 5 vh;have eblock:=hu.block hn;have edata:=hu.data hn;have eunread:=hu.unread hn;refine⟨_,s2,?_,((zai.refl nm _).upd _ _).upd _ _⟩;refine hu.modS hn { s with headers:=hd } { v.sv s.id with vH:=vh } _ ?_ ?_ ?_ ?_ ?_ ?_ rfl rfl rfl (λe=>hu.nilB _ _ hn e) (λe=>absurd e hne)
 ·rw[zag];rfl
 ·rw[zad hu.inj,if_neg (by simp),zad hu.inj,if_pos rfl]
 ·rw[zad hu.inj,if_neg (by simp),zad hu.inj,if_neg (by simp)];exact eblock
 ·rw[zad hu.inj,if_neg (by simp),zad hu.inj,if_neg (by simp)];exact edata
 ·rw[zad hu.inj,if_neg (by simp),zad hu.inj,if_neg (by simp)];exact eunread
 ·intro y h0' h1' _ _ _;rw[zad hu.inj,if_neg h0',zad hu.inj,if_neg h1']
theorem zzbgr(d:Ds)(id:Nat)(fin:Bool)(hd:zal):d.accept id fin hd=if fin then ((((d.keep false id).setS id { Ds.begun id false with headers:=hd }).tell 1 id 0).takeEnd { Ds.begun id false with headers:=hd }) else (((d.keep false id).setS id { Ds.begun id false with headers:=hd }).tell 1 id 0):=rfl
theorem zvn(d:Ds)(s:DS):(d.takeEnd s).failed=d.failed:=zhz d s
set_option maxHeartbeats 6400000 in
theorem zzd(h:zaa own nm g d v)(vh:Value)(hd:zal)(hne:hd≠[])(hlen:hd.length<=1000)(hs:Sep wb w (lift own (.row 122 2 vh hd.length (zap hd))))(hf:d.Fits 5){id:Nat}(hn:d.str id=none)(hid:id<=65535)(fin:Bool)
  (nC:N) (gb:Nat) (vK:Value) (hC:own nC = .obj gb (.cells #[.int .i64 (id:Int),.bool fin,vK] 158 (0,0))) (hC':∀ x,nC≠nm x) :
  Calls Tryz.prog 177 #[.pointer (some ⟨g,0,none⟩),.pointer (some ⟨gb,0,none⟩),vh] w λe w'=>e = .returned (.tuple #[])/\zaf nm g wb own d v w' (d.accept id fin hd):=by
 have H0:=h.lift (.row 122 2 vh hd.length (zap hd));have b0:w.cell? ⟨gb,0,none⟩=some (.int .i64 (id:Int)):=hs.cell (n:=some nC) hC 0;have kk:=zyr H0 (hs.ext (Ext.refl w).drew) (hf.mono (by omega)) hn hid;have F1:(d.keep false id).Fits 4:=hf.keep false id hid;have fb:=zeh id false hid;have fbh:({ Ds.begun id false with headers:=hd }:DS).Fits:=⟨fb.id,fb.state,fb.from0,fb.from1,fb.to0,fb.to1,hlen,fb.block,fb.data,fb.code⟩;have F2:((d.keep false id).setS id { Ds.begun id false with headers:=hd }).Fits 4:=F1.setS _ _ fbh;have F3:(((d.keep false id).setS id { Ds.begun id false with headers:=hd }).tell 1 id 0).Fits 3:=F2.tell _ _ _;have HFT:=hide (zvn (((d.keep false id).setS id { Ds.begun id false with headers:=hd }).tell 1 id 0) { Ds.begun id false with headers:=hd });obtain⟨ah,ch,hvh,-,-⟩:=(hs.get (n:=none) rfl).slice;rw[zzbgr];rw[hvh]
 go_enter Tryz.func177,Tryz.ntmps177
 go_wp2_with fail
 go_region_with (go_at_call 73;refine kk.mono ?_;rintro e w1 ⟨p,rfl,own1,v1,S1,H1,E1,r1,i1,p1,hp1⟩)
 all_goals
  obtain⟨own2,S2,H2,E2⟩:=H1.setH S1 (s:=Ds.begun id false) (zgb d false id) hd hne vh E1.kept;rw[show v1.ptr (Ds.begun id false).id=p from hp1,hvh] at S2;have t5:=H1.sthaw S1 (zgb d false id) 5;have f5:=H1.s5 S1 (zgb d false id);rw[hp1] at t5 f5;have E12:zai nm own own2:=(E1.unlift).trans E2;have n2:=zdt (d.keep false id) id { Ds.begun id false with headers:=hd };obtain⟨W2,hW2⟩:∃ W2,w1.setCell ⟨p,5,none⟩ (.slice ah hd.length ch)=W2:=⟨_,rfl⟩;rw[hW2] at S2;have g0:W2.cell? ⟨p,0,none⟩=some (.int .i64 (id:Int)):=by rw[<-hp1];exact H2.s0 S2 n2
  have kt:=zgq H2 S2 (F2.mono (by omega)) 1 id 0;have HP:=hide (And.intro hp1 (And.intro r1 (And.intro i1 p1)));clear S1 H1
  go_wp2_with fail
  refine kt.mono ?_;rintro e w3 ⟨rfl,own3,v3,S3,H3,E3,r3,i3,p3⟩;have E13:=E12.trans E3;have c1:w3.cell? ⟨gb,1,none⟩=some (.bool fin):=S3.cell ((E13 nC hC').trans hC) 1;obtain⟨hp1',r1',i1',p1'⟩:=HP.out;have hp3:v3.ptr id=p:=((p3 id (congrArg Option.isSome n2)).1).trans hp1';have n3:(((d.keep false id).setS id { Ds.begun id false with headers:=hd }).tell 1 id 0).str id=some { Ds.begun id false with headers:=hd }:=n2;have HLL:Hid (zaf nm g wb own d v w3 (((d.keep false id).setS id { Ds.begun id false with headers:=hd }).tell 1 id 0)):=⟨own3,v3,S3,H3,E13,r3.trans r1',λhx=>(i3 hx).trans (i1' hx),λk hk=>⟨(p3 k (zbf _ _ _ k (p1' k hk).2)).1.trans (p1' k hk).1,(p3 k (zbf _ _ _ k (p1' k hk).2)).2⟩⟩;cases fin with
  | true =>
   have ke:=zon H3 S3 (F3.mono (by omega)) (s:={ Ds.begun id false with headers:=hd }) n3;rw[show v3.ptr ({ Ds.begun id false with headers:=hd }:DS).id=p from hp3] at ke;clear S3 H3 S2 H2
   go_wp2_with fail
   refine ke.mono ?_;rintro e w4 ⟨rfl,hL⟩;have HL:=hide (hL.trans (own:=own) (d:=d) (v:=v) E13 (r3.trans r1') (λhx=>(i3 (HFT.out.symm.trans hx)).trans (i1' (HFT.out.symm.trans hx))) (λk hk=>⟨(p3 k (zbf _ _ _ k (p1' k hk).2)).1.trans (p1' k hk).1,(p3 k (zbf _ _ _ k (p1' k hk).2)).2⟩));clear hL
   go_wp2
   go_end0
   exact⟨rfl,HL.out⟩
  | false =>
   clear S3 H3 S2 H2
   go_wp2
   go_end0
   exact⟨rfl,HLL.out⟩
end
end Go.Proofs.YtoijpogadkogcaaGreat
