import Derived.Test.YtoijpogadkogcaaGreatQi
import Derived.Test.YtoijpogadkogcaaGreatQb
namespace Go.Proofs.YtoijpogadkogcaaGreat
open Go.RowKit
set_option maxRecDepth 100000
set_option maxHeartbeats 1600000 in
theorem znf(w:World)(kind flags id:Nat)(a:Option Addr)(n k:Nat)(hn:n<=1000000) :
  Calls Tryz.prog 45 #[frV kind flags id (.slice a n k)] w λe w'=>e = .returned (.int .i64 (6+n:Int))/\Ext w w':=by
 unfold frV
 go_enter Tryz.func45,Tryz.ntmps45
 go_wp2
 go_ret
 exact⟨rfl,(Ext.refl w).alloc _⟩
theorem zzbdl(w:World){q:Nat}(hq:w.heap.size=q)(x y:Int):Src Tryz.prog 1 34 (.slice (some ⟨q,0,none⟩) 2 2) 2 [.int .u8 x,.int .u8 y] (w.alloc (.cells #[.int .u8 x,.int .u8 y] 5)):=by
 subst hq;exact Src.ofSlice _ Tryz.underlying34 ⟨w.heap.size,0,none⟩ 2 2 _ rfl (λj u hj=>by
  match j,hj with
  | 0,hj=>simp at hj;subst hj;simp[Addr.add]
  | 1,hj=>simp at hj;subst hj;simp[Addr.add]) (λu hu=>by simp at hu;rcases hu with rfl | rfl<;>rfl)
theorem zpg{w:World}{T sz n:Nat}{v:Value}{xs:List Value}(h:OwnAt w T sz v n xs)(o:Obj):OwnAt (w.alloc o) T sz v n xs:=h.ext ((Ext.refl w).alloc o)
set_option maxHeartbeats 1600000 in
theorem zlj(w:World)(l:Bytes)(vl:Value)(n:Nat)(ho:OwnAt w 5 1 vl l.length (zab l))(hn:n<=65535)(hl:l.length<=70368744177664) :
  Calls Tryz.prog 84 #[vl,.int .i64 (n:Int)] w λe w' => ∃ v',e = .returned v'/\OwnAt w' 5 1 v' (l++two n).length (zab (l++two n))/\zau w vl w' v':=by
 obtain⟨i0,hi0,hz0,hz1,hz2⟩:=zbk Tryz.infoU;obtain⟨a,cap,rfl,h1,h2⟩:=ho.slice;have hO:=zpg ho (.cells #[.int .u8 ((n:Int)/256),.int .u8 ((n:Int)%256)] 5);have hsrc:=zzbdl w rfl ((n:Int)/256) ((n:Int)%256);have HC:Hid (zab (l++two n)=zab l++[.int .u8 ((n:Int)/256),.int .u8 ((n:Int)%256)]):=by
  show _=_
  rw[zbe];congr 1;simp only[zab,two,List.map_cons,List.map_nil,zzbdd,List.cons.injEq,Value.int.injEq,true_and,and_true];omega
 have HL:Hid ((l++two n).length=l.length+2):=by show _=_;rw[List.length_append];rfl
 have hm:l.length+2<=maxLen:=by unfold maxLen;omega
 clear ho;generalize zab l=cl at *
 go_enter Tryz.func84,Tryz.ntmps84
 go_wp2_with (at_builtin;refine zbh _ rfl (.tmp 5) (.tmp 11) 34 34 rfl 5 i0 (.int .u8 0) 1 1 Tryz.underlying34 hi0 hz0 hz1 hz2 rfl _ _ _ rfl hO _ 2 _ rfl hsrc hm ?_ ?_)
 ·omega
 ·intro v2 w2 hO2 hG2;have hO3:=zbv hO2 HL.out.symm HC.out.symm;have hG3:=(zau.alloc w (.slice a l.length cap) (.cells #[.int .u8 ((n:Int)/256),.int .u8 ((n:Int)%256)] 5)).trans hG2;obtain⟨a2,k2,hv2,-,-⟩:=hO3.slice;clear hO2 hG2 hO hsrc;rw[hv2]
  go_wp2
  go_ret
  rw[<-hv2];exact⟨v2,rfl,hO3,hG3⟩
theorem zax(kind flags id:Nat)(body:Bytes):(frame kind flags id body).length=6+body.length:=by simp[frame,two];omega
set_option maxHeartbeats 3200000 in
theorem zdp(w:World)(kind flags id:Nat)(vb:Value)(body:Bytes)(l:Bytes)(vl:Value)(ho:OwnAt w 5 1 vl l.length (zab l))(hl:l.length<=35184372088832)(hn:body.length<=65535)(hk:kind<=255)(hfl:flags<=255)(hid:id<=65535)
  (hb:∀ u v',zau w vl u v'->zae u vb body) :
  Calls Tryz.prog 46 #[frV kind flags id vb,vl] w λe w' => ∃ v',e = .returned v'/\OwnAt w' 5 1 v' (l++frame kind flags id body).length (zab (l++frame kind flags id body))/\zau w vl w' v':=by
 obtain⟨i0,hi0,hz0,hz1,hz2⟩:=zbk Tryz.infoU;obtain⟨ab,kb,hvb,hkb1,hkb2,-⟩:=hb w vl (zau.refl _ _);obtain⟨a,cap,hva,h1,h2⟩:=ho.slice;have hne:∀ u v',zau (w.alloc (frO kind flags id vb)) vl u v'->(∀ j,u.cell? ⟨w.heap.size,j,none⟩ = #[.int .i64 (kind:Int),.int .i64 (flags:Int),.int .i64 (id:Int),vb][j]?)/\zae u vb body:=λu v' hg=>by
  refine⟨λj => ?_,hb u v' ((zau.alloc w vl _).trans hg)⟩
  have:u.heap[w.heap.size]? = some (frO kind flags id vb):=by rw[hg.grown.block w.heap.size (by simp) (λe=>by have:=ho.lt _ e.symm;omega),heap_alloc_new w]
  simp[World.cell?,this,frO]
 have NE:=hide hne;clear hne;obtain⟨W0,hW0⟩:∃ W0,w.alloc (frO kind flags id vb)=W0:=⟨_,rfl⟩;have hO0:OwnAt W0 5 1 vl l.length (zab l):=by rw[<-hW0];exact zpg ho _
 have HG0:Hid (zau w vl W0 vl):=by show zau w vl W0 vl;rw[<-hW0];exact zau.alloc _ _ _
 rw[hW0] at NE;obtain⟨bx,hbx⟩:∃ bx,w.heap.size=bx:=⟨_,rfl⟩;rw[hbx] at NE;rw[hvb] at hW0 NE;have hW0':w.alloc (.cells #[.int .i64 (kind:Int),.int .i64 (flags:Int),.int .i64 (id:Int),.slice ab body.length kb] 111)=W0:=hW0;have ec:=(NE.out W0 vl (zau.refl _ _)).1;have b3:W0.cell? ⟨bx,3,none⟩=some (.slice ab body.length kb):=ec 3;have k1:=zlj W0 l vl body.length hO0 hn (by omega);have HF:Hid (l++frame kind flags id body=((l++two body.length++[UInt8.ofNat kind,UInt8.ofNat flags])++two id)++body):=by show _=_;unfold frame;simp only[List.append_assoc]
 have hkk:IntKind.u8.wrap (kind:Int)=(kind:Int):=by rw[zkd];omega
 unfold frV;rw[hvb];rw[hva] at k1 ⊢;clear hW0 ec ho hO0;generalize hL1:l++two body.length=l1 at *;have HL1:Hid (l1.length=l.length+2):=by show _=_;rw[<-hL1,List.length_append];rfl
 clear hL1
 go_enter Tryz.func46,Tryz.ntmps46
 go_wp2_with fail
 refine k1.mono ?_;rintro e w1 ⟨v1,rfl,hO1,hG1⟩;rw[<-hva] at hG1;obtain⟨a1,c1,hv1,-,-⟩:=hO1.slice;obtain⟨ec1,-⟩:=NE.out w1 v1 hG1;have d0:w1.cell? ⟨bx,0,none⟩=some (.int .i64 (kind:Int)):=ec1 0;have d1:w1.cell? ⟨bx,1,none⟩=some (.int .i64 (flags:Int)):=ec1 1;have hO1':=zpg hO1 (.cells #[.int .u8 (kind:Int),.int .u8 (flags:Int)] 5);have hsrc1:=zzbdl w1 rfl (kind:Int) (flags:Int);have HC2:Hid (zab (l1++[UInt8.ofNat kind,UInt8.ofNat flags])=zab l1++[.int .u8 (kind:Int),.int .u8 (flags:Int)]):=by
  show _=_
  rw[zbe];congr 1;simp only[zab,List.map_cons,List.map_nil,zzbdd,List.cons.injEq,Value.int.injEq,true_and,and_true];omega
 have HL2:Hid ((l1++[UInt8.ofNat kind,UInt8.ofNat flags]).length=l1.length+2):=by show _=_;rw[List.length_append];rfl
 have hl1:l1.length<=35184372088900:=by rw[HL1.out];omega
 rw[hv1] at hO1';clear ec1;rw[hv1];generalize zab l1=cl1 at *
 go_wp2_with (at_builtin;refine zbh _ rfl (.tmp 10) (.tmp 17) 34 34 rfl 5 i0 (.int .u8 0) 1 1 Tryz.underlying34 hi0 hz0 hz1 hz2 rfl _ _ _ rfl hO1' _ 2 _ rfl hsrc1 ?_ ?_ ?_)
 ·unfold maxLen;omega
 ·omega
 intro v2 w2 hO2 hG2;rw[<-hv1] at hG2;have hO3:=zbv hO2 HL2.out.symm HC2.out.symm;have hG3:=hG1.trans ((zau.alloc w1 v1 (.cells #[.int .u8 (kind:Int),.int .u8 (flags:Int)] 5)).trans hG2);obtain⟨a2,c2,hv2,-,-⟩:=hO3.slice;obtain⟨ec2,-⟩:=NE.out w2 v2 hG3;have g2:w2.cell? ⟨bx,2,none⟩=some (.int .i64 (id:Int)):=ec2 2;clear hO2 hG2 hsrc1 hO1' ec2 hO1 d0 d1;generalize hL2:l1++[UInt8.ofNat kind,UInt8.ofNat flags]=l2 at *;have hl2:l2.length<=35184372089000:=by rw[HL2.out];omega
 have k2:=zlj w2 l2 v2 id hO3 hid (by omega);rw[hv2] at k2 ⊢;clear hL2;generalize hL3:l2++two id=l3 at *;have hl3:l3.length<=35184372089100:=by rw[<-hL3,List.length_append];show l2.length+2<=_;omega
 clear hL3 hO3
 go_wp2_with fail
 refine k2.mono ?_;rintro e w3 ⟨v3,rfl,hO4,hG4⟩;rw[<-hv2] at hG4;have hG5:=hG3.trans hG4;obtain⟨a3,c3,hv3,-,-⟩:=hO4.slice;obtain⟨ec3,hb3⟩:=NE.out w3 v3 hG5;have g3:w3.cell? ⟨bx,3,none⟩=some (.slice ab body.length kb):=ec3 3;have hsrc3:=zed hb3;rw[hv3] at hO4;clear ec3 hb3 hG4 k2;rw[hv3];have HB:Hid (zab (l3++body)=zab l3++zab body/\(l3++body).length=l3.length+body.length):=⟨zbe _ _,List.length_append⟩;generalize zab l3=cl3 at *;generalize zab body=cb at *
 go_wp2_with (at_builtin;refine zbh _ rfl (.tmp 23) (.tmp 25) 34 34 rfl 5 i0 (.int .u8 0) 1 1 Tryz.underlying34 hi0 hz0 hz1 hz2 rfl _ _ _ rfl hO4 _ body.length _ rfl hsrc3 ?_ ?_ ?_)
 ·unfold maxLen;omega
 ·omega
 intro v5 w5 hO5 hG6;rw[<-hv3] at hG6;have hO6:=zbv hO5 HB.out.2.symm HB.out.1.symm;rw[<-HF.out] at hO6;obtain⟨a5,c5,hv5,-,-⟩:=hO6.slice;have HG7:=hide (HG0.out.trans (hG5.trans hG6));rw[hva] at HG7;clear hO5 hG6 hG5 hsrc3 hO4;rw[hv5]
 go_wp2
 go_ret
 rw[<-hv5];exact⟨v5,rfl,hO6,HG7.out⟩
theorem zko{a b c:World}{v v':Value}(h:Ext a b)(g:zau b v c v')(hv:∀ k,v.ownBlock=some k->a.heap.size<=k):Ext a c :=
 Below.trans h (g.below a.heap.size h.size hv)
theorem zzbgs{w:World}{a:Option Addr}{n cap:Nat}{l:Bytes}(h:zae w (.slice a n cap) l)(k:Nat)(hk:k<=l.length):zae w (.slice a k cap) (l.take k):=by
 obtain⟨a',cap',he,h1,h2,h3⟩:=h;simp only[Value.slice.injEq] at he;obtain⟨rfl,rfl,rfl⟩:=he;have hl:(l.take k).length=k:=by rw[List.length_take];omega
 refine⟨a,cap,by rw[hl],by rw[hl];omega,h2,?_⟩;rcases h3 with rfl | ⟨b,o,rfl,hc⟩
 ·left;simp
 ·refine .inr ⟨b,o,rfl,λi hi => ?_⟩;rw[hl] at hi;rw[hc i (by omega)];simp[List.getD_eq_getElem?_getD,hi]
def lenOf:Value->Nat
 | .slice _ n _=>n
 | _=>0
theorem zph(id fuel kind:Nat)(b:Bytes)(h:64<b.length):Ds.hframes id (fuel+1) kind b=frame kind 0 id (b.take 64)++Ds.hframes id fuel 2 (b.drop 64):=by
 show (if 64<b.length then _ else _)=_
 rw[if_pos h]
theorem zkp(id fuel kind:Nat)(b:Bytes)(h:¬ 64<b.length):Ds.hframes id fuel kind b=frame kind 2 id b:=by
 cases fuel with
 | zero=>rfl
 | succ n=>show (if 64<b.length then _ else _)=_;rw[if_neg h]
set_option maxHeartbeats 3200000 in
theorem zpi(w:World)(id:Nat)(vb:Value)(block:Bytes)(hb:zae w vb block)(hid:id<=65535)(hn:block.length<=1000) :
  Calls Tryz.prog 132 #[.int .i64 (id:Int),vb] w λe w' => ∃ v',e = .returned v'/\OwnAt w' 5 1 v' (Ds.headerFrames id block).length (zab (Ds.headerFrames id block))/\(∀ k,v'.ownBlock=some k->w.heap.size<=k)/\Ext w w':=by
 have hb0:=hb;obtain⟨a0,c0,rfl,h1,h2,-⟩:=hb0
 go_enter Tryz.func132,Tryz.ntmps132
 go_wp2
 go_loopw [1,5,6] (λs1 s5 s6 wr => ∃ (rest:Bytes) (out:Bytes) (kind fuel:Nat),rest.length<=1000/\kind<=2/\s6 = .int .i64 (kind:Int)/\(∃ a cap,s1 = .slice a rest.length cap/\rest.length<=cap/\cap<=maxLen)/\(∃ a cap,s5 = .slice a out.length cap) /\
  Hid (out++Ds.hframes id fuel kind rest=Ds.headerFrames id block/\rest.length<=fuel/\out.length+20*rest.length<=20000/\zae w s1 rest/\OwnAt wr 5 1 s5 out.length (zab out)/\(∀ k,s5.ownBlock=some k->w.heap.size<=k)/\Ext w wr)) (λs1 _ _ _=>lenOf s1)
 case atStart =>
  exact⟨block,[],1,block.length,hn,by omega,rfl,⟨a0,c0,rfl,h1,h2⟩,⟨none,0,rfl⟩,rfl,Nat.le_refl _,by simp;omega,hb,OwnAt.nil _ _ _,λk hk=>by simp[Value.ownBlock] at hk,Ext.refl w⟩
 case round =>
  obtain⟨rest,out,kind,fuel,hr,hk,rfl,⟨a1,c1,rfl,hc1,hc2⟩,⟨a5,c5,rfl⟩,HI⟩:=hrel;obtain⟨heq,hfu,hlen,hB,hO,hfr,hE⟩:=HI.out;unfold maxLen at hc2;by_cases hlt:64<rest.length
  ·have hlt':(64:Int)<(rest.length:Int):=by omega
   have ka:=zdp wr kind 0 id (.slice a1 64 c1) (rest.take 64) out (.slice a5 out.length c5) hO (by omega) (by rw[List.length_take];omega) (by omega) (by omega) hid (λu v' hg=>(zzbgs hB 64 (by omega)).ext (zko hE hg hfr));unfold frV at ka;obtain⟨o2,ho2⟩:∃ o2,out++frame kind 0 id (rest.take 64)=o2:=⟨_,rfl⟩;rw[ho2] at ka;have HO:=hide ho2;clear ho2;obtain⟨f',rfl⟩:∃ f',fuel=f'+1:=⟨fuel-1,by omega⟩;rw[zph id f' kind rest hlt] at heq;obtain⟨A2,hsl,hB2⟩:=zhg hB 64 (by omega);rw[show ((64:Nat):Int)=64 from rfl] at hsl;have HK:=hide (And.intro heq (And.intro hB2 hlen));clear heq hB2 hlen hO hB
   go_wp2_with fail
   refine ka.mono ?_;rintro e w2 ⟨v2,rfl,hO2,hG2⟩;obtain⟨a2,c2,hv2,-,-⟩:=hO2.slice;subst hv2;have hE2:=zko hE hG2 hfr;have hfr2:∀ k,(Value.slice a2 o2.length c2).ownBlock=some k->w.heap.size<=k:=λk hk=>by
    rcases hG2.place with e|⟨q,e,hq⟩
    ·exact hfr k (by rw[<-e];exact hk)
    ·rw[e] at hk;injection hk with hk;have:=hE.size;omega
   have HF:=hide (And.intro hO2 (And.intro hfr2 hE2));clear hO2 hfr2 hE2 hG2
   go_wp2_with fail
   go_region
   all_goals
    go_wp2
    go_roundw
    case rel =>
     obtain⟨heq,hB2,hlen⟩:=HK.out;obtain⟨hO2,hfr2,hE2⟩:=HF.out;have hdl:(rest.drop 64).length=rest.length-64:=List.length_drop;refine⟨rest.drop 64,o2,2,f',by rw[hdl];omega,by omega,rfl,⟨A2,c1-64,by rw[hdl],by rw[hdl];omega,by unfold maxLen;omega⟩,⟨a2,c2,rfl⟩,by rw[<-HO.out,List.append_assoc];exact heq,by rw[hdl];omega,?_,hB2,hO2.ext (Ext.refl w2).drew,hfr2,hE2.drew⟩;rw[hdl,<-HO.out,List.length_append,zax,List.length_take];omega
    case measure=>simp[lenOf];omega
  ·have hlt':¬ (64:Int)<(rest.length:Int):=by omega
   have ka:=zdp wr kind 2 id (.slice a1 rest.length c1) rest out (.slice a5 out.length c5) hO (by omega) (by omega) (by omega) (by omega) hid (λu v' hg=>hB.ext (zko hE hg hfr));unfold frV at ka;obtain⟨o2,ho2⟩:∃ o2,out++frame kind 2 id rest=o2:=⟨_,rfl⟩;rw[zkp id fuel kind rest hlt,ho2] at heq;rw[ho2] at ka;clear ho2;have HQ:=hide heq;clear heq hlen hO hB
   go_wp2_with fail
   refine ka.mono ?_;rintro e w2 ⟨v2,rfl,hO2,hG2⟩;obtain⟨a2,c2,hv2,-,-⟩:=hO2.slice;subst hv2;have hE2:=zko hE hG2 hfr;have hfr2:∀ k,(Value.slice a2 o2.length c2).ownBlock=some k->w.heap.size<=k:=λk hk=>by
    rcases hG2.place with e|⟨q,e,hq⟩
    ·exact hfr k (by rw[<-e];exact hk)
    ·rw[e] at hk;injection hk with hk;have:=hE.size;omega
   have HF:=hide (And.intro hO2 (And.intro hfr2 hE2));clear hO2 hfr2 hE2 hG2
   go_wp2
   go_ret
   obtain⟨hO2,hfr2,hE2⟩:=HF.out;exact⟨_,rfl,zbv hO2 (by rw[HQ.out]) (by rw[HQ.out]),hfr2,hE2⟩
theorem OwnAt.isBytes{w:World}{T:Nat}{v:Value}{l:Bytes}(h:OwnAt w T 1 v l.length (zab l)):zae w v l:=by
 obtain⟨a,cap,rfl,h1,h2⟩:=h.slice;refine⟨a,cap,rfl,h1,h2,?_⟩;by_cases hl:l.length=0
 ·exact .inl (List.eq_nil_of_length_eq_zero hl)
 ·obtain⟨g,o,cap',e,_,_,hc⟩:=h.at (by omega);simp only[Value.slice.injEq] at e;obtain⟨rfl,_,rfl⟩:=e;refine .inr ⟨g,o,rfl,λi hi => ?_⟩;rw[hc i (by omega)];simp[zab,List.getElem?_eq_getElem hi]
theorem ziz(id fuel kind:Nat)(b:Bytes)(hf:b.length<=fuel):(Ds.hframes id fuel kind b).length<=6+7*b.length:=by
 induction fuel generalizing kind b with
 | zero=>rw[zkp id 0 kind b (by omega),zax];omega
 | succ n ih =>
  by_cases h:64<b.length
  ·have hd:(b.drop 64).length=b.length-64:=List.length_drop
   have:=ih 2 (b.drop 64) (by rw[hd];omega)
   rw[zph id n kind b h,List.length_append,zax,List.length_take];rw[hd] at this;omega
  ·rw[zkp id (n+1) kind b h,zax];omega
section
variable {N:Type} {own:N->Res} {nm:DN->N} {g:Nat} {d:Ds} {v:DV} {wb w:World}
theorem zaa.clearB(h:zaa own nm g d v)(hs:Sep wb w own){s:DS}(hn:d.str s.id=some s) :
  ∃ own',Sep wb (w.setCell ⟨v.ptr s.id,6,none⟩ (.slice none 0 0)) own'/\zaa own' nm g (d.setS s.id { s with block:=[] }) { v with sv:=λk=>if k=s.id then { v.sv s.id with vB:=.slice none 0 0 } else v.sv k }/\zai nm own own':=by
 have s1:=hs.nilRow (nm (.block s.id)) 5 1;have c1:upd own (nm (.block s.id)) (.row 5 1 (.slice none 0 0) 0 []) (nm (.st s.id)) = .obj (v.ptr s.id) (.cells (zba g s (v.sv s.id)) 94 (0,0)):=by rw[zad h.inj,if_neg (by simp)];exact h.st hn
 have s2:=s1.setObj c1 6 (.slice none 0 0);have ehdr:=h.hdr hn;have eunread:=h.unread hn;have edata:=h.data hn;refine⟨_,s2,?_,((zai.refl nm own).upd _ _).upd _ _⟩;refine h.modS hn { s with block:=[] } { v.sv s.id with vB:=.slice none 0 0 } _ ?_ ?_ ?_ ?_ ?_ ?_ rfl rfl rfl (λ_=>rfl) (λe=>h.nilH _ _ hn e)
 ·rw[zag];rfl
 ·rw[zad h.inj,if_neg (by simp),zad h.inj,if_neg (by simp)];exact ehdr
 ·rw[zad h.inj,if_neg (by simp),zad h.inj,if_pos rfl];rfl
 ·rw[zad h.inj,if_neg (by simp),zad h.inj,if_neg (by simp)];exact edata
 ·rw[zad h.inj,if_neg (by simp),zad h.inj,if_neg (by simp)];exact eunread
 ·intro y h0 _ h2 _ _;rw[zad h.inj,if_neg h0,zad h.inj,if_neg h2]
def Turned{N:Type}(nm:DN->N)(g:Nat)(wb:World)(own:N->Res)(d:Ds)(v:DV)(t:Bytes×Ds×DS)(e:Ending)(w':World):Prop :=
 ∃ vf,e = .returned vf/\zae w' vf t.1/\zaf nm g wb own d v w' t.2.1
theorem zpj(d:Ds)(s:DS)(room:Int)(hb:s.block≠[]):d.turn s room=if room<(Ds.headerFrames s.id s.block).length then ([],d,s) else (Ds.headerFrames s.id s.block,d.setS s.id { s with block:=[] },{ s with block:=[] }):=by unfold Ds.turn;rw[if_pos hb]
set_option maxHeartbeats 3200000 in
theorem zqs(h:zaa own nm g d v)(hs:Sep wb w own){m:Nat}(hf:d.Fits m){s:DS}(hn:d.str s.id=some s)(hb:s.block≠[])(room:Int) :
  Calls Tryz.prog 85 #[.pointer (some ⟨v.ptr s.id,0,none⟩),.int .i64 room] w (Turned nm g wb own d v (d.turn s room)):=by
 have fs:=hf.st _ _ hn;have fi:=fs.id;have fb:=fs.block;have f0:=h.s0 hs hn;have f6:=h.s6 hs hn;obtain⟨a6,o6,c6,e6,-⟩:=h.blockV hs hn hb;have hB:zae w.drew (v.sv s.id).vB s.block:=((hs.get (h.block hn)).isBytes).ext (Ext.refl w).drew;have kh:=zpi w.drew s.id _ s.block hB fi fb;have hlen:(Ds.headerFrames s.id s.block).length<=7006:=by
  have:=ziz s.id s.block.length 1 s.block (Nat.le_refl _)
  unfold Ds.headerFrames;omega
 have HT:=hide (zpj d s room hb);rw[e6] at f6 kh;generalize Ds.headerFrames s.id s.block=fr at *;have HL:=hide (λw' (he:Ext w w')=>h.left (hs.ext he));have HS:=hide (λw' (he:Ext w w')=>h.clearB (hs.ext he) hn);have HTH:=hide (λw' (he:Ext w w')=>h.sthaw (hs.ext he) hn 6);have HF6:=hide (λw' (he:Ext w w')=>h.s6 (hs.ext he) hn);have hsz:v.ptr s.id<w.heap.size:=(hs.low (nm (.st s.id)) (v.ptr s.id) (by rw[h.st hn];rfl)).2;clear hB;by_cases hlt:room<(fr.length:Int)
 ·go_enter Tryz.func85,Tryz.ntmps85
  go_wp2_with fail
  go_region_with (go_at_call 132;refine kh.mono ?_;rintro e w1 ⟨v1,rfl,hO1,hfr1,hE1⟩;obtain⟨a1,c1,hv1,_,_⟩:=hO1.slice;subst hv1)
  all_goals
   have HX:=hide (And.intro hO1 (And.intro hfr1 hE1));clear hO1 hfr1 hE1
   go_wp2
   go_ret
   refine⟨_,rfl,?_,?_⟩
   ·rw[HT.out,if_pos hlt];exact zae.nil _
   ·rw[HT.out,if_pos hlt];exact HL.out _ (((Ext.refl w).drew).trans HX.out.2.2)
 ·go_enter Tryz.func85,Tryz.ntmps85
  go_wp2_with fail
  go_region_with (go_at_call 132;refine kh.mono ?_;rintro e w1 ⟨v1,rfl,hO1,hfr1,hE1⟩;obtain⟨a1,c1,hv1,_,_⟩:=hO1.slice;subst hv1)
  all_goals
   have hE2:Ext w w1:=((Ext.refl w).drew).trans hE1;have t6:=HTH.out w1 hE2;have g6:=HF6.out w1 hE2;obtain⟨own2,S2,H2,E2⟩:=HS.out w1 hE2;have hO2:OwnAt (w1.setCell ⟨v.ptr s.id,6,none⟩ (.slice none 0 0)) 5 1 (.slice a1 fr.length c1) fr.length (zab fr):=hO1.same (λk hk=>Below.heap_setCell _ _ _ _ (λe=>by have:=hfr1 k hk;have e':k=v.ptr s.id:=e;have hdz:w.drew.heap.size=w.heap.size:=rfl;omega));have HX:=hide (And.intro hO2 (And.intro S2 (And.intro H2 E2)));clear hO1 hfr1 hE1 hO2 S2 H2 E2
   go_wp2
   go_ret
   obtain⟨hO2,S2,H2,E2⟩:=HX.out;refine⟨_,rfl,?_,?_⟩
   ·rw[HT.out,if_neg (by omega)];exact hO2.isBytes
   ·rw[HT.out,if_neg (by omega)];exact⟨own2,_,S2,H2,E2,rfl,λ_=>rfl,λk hk=>⟨rfl,zbf d _ _ k hk⟩⟩
end
theorem zes{w u:World}{v':Value}(h:zau w (.slice none 0 0) u v'):Ext w u:=h.below w.heap.size (Nat.le_refl _) (λk hk=>by simp[Value.ownBlock] at hk)
section
variable {N:Type} {own:N->Res} {nm:DN->N} {g:Nat} {d:Ds} {v:DV} {wb w:World}
theorem zts(d:Ds)(s:DS)(room:Int)(hb:s.block=[])(ht:zan s.state=true):d.turn s room=if room<7 then ([],d,s) else (frame 3 0 s.id [UInt8.ofNat s.code],d.move s 8,Ds.moved s 8):=by unfold Ds.turn;rw[if_neg (by simp[hb]),if_pos ht]
set_option maxHeartbeats 6400000 in
theorem ztt(h:zaa own nm g d v)(hs:Sep wb w own)(hf:d.Fits 1){s:DS}(hn:d.str s.id=some s)(hb:s.block=[])(ht:zan s.state=true)(room:Int) :
  Calls Tryz.prog 87 #[.pointer (some ⟨v.ptr s.id,0,none⟩),.int .i64 room] w (Turned nm g wb own d v (d.turn s room)):=by
 have fs:=hf.st _ _ hn;have fi:=fs.id;have fc:=fs.code;have f0:=h.s0 hs hn;have f10:=h.s10 hs hn;have e3:IntKind.u8.wrap (s.code:Int)=(s.code:Int):=by rw[zkd];omega
 have HT:=hide (zts d s room hb ht);have a0:∀ o1,(w.alloc o1).cell? ⟨v.ptr s.id,0,none⟩=some (.int .i64 (s.id:Int)):=λo1=>((Ext.refl w).alloc o1).cell f0;have a10:∀ o1,(w.alloc o1).cell? ⟨v.ptr s.id,10,none⟩=some (.int .i64 (s.code:Int)):=λo1=>((Ext.refl w).alloc o1).cell f10;have c0:∀ o1 o2,((w.alloc o1).alloc o2).cell? ⟨v.ptr s.id,0,none⟩=some (.int .i64 (s.id:Int)):=λo1 o2=>(((Ext.refl w).alloc o1).alloc o2).cell f0;have c10:∀ o1 o2,((w.alloc o1).alloc o2).cell? ⟨v.ptr s.id,10,none⟩=some (.int .i64 (s.code:Int)):=λo1 o2=>(((Ext.refl w).alloc o1).alloc o2).cell f10;have hsz1:∀ o1,(w.alloc o1).heap.size=w.heap.size+1:=λo1=>by simp
 have HB:Hid (∀ (u:World) (qb:Nat),u.heap[qb]? = some (.cells #[.int .u8 (s.code:Int)] 5 (0,0))->zae u (.slice (some ⟨qb,0,none⟩) 1 1) [UInt8.ofNat s.code]):=λu qb hq=>by
  refine⟨_,1,rfl,Nat.le_refl _,by simp[maxLen],.inr ⟨qb,0,rfl,λi hi => ?_⟩⟩;have hi0:i=0:=by have:i<1:=hi;omega
  subst hi0;simp[World.cell?,hq];omega
 go_enter Tryz.func87,Tryz.ntmps87
 go_wp2_with fail
 go_region
 ·have S1:=((hs.liftObj (.cells #[.int .u8 (s.code:Int)] 5)).liftObj (frO 3 0 s.id (.slice (some ⟨w.heap.size,0,none⟩) 1 1))).ext (Ext.refl _).drew;have H1:=(h.lift (.obj w.heap.size (.cells #[.int .u8 (s.code:Int)] 5))).lift (.obj (w.alloc (.cells #[.int .u8 (s.code:Int)] 5)).heap.size (frO 3 0 s.id (.slice (some ⟨w.heap.size,0,none⟩) 1 1)));rw[hsz1] at S1 H1;obtain⟨W1,hW1⟩:∃ W1,((w.alloc (.cells #[.int .u8 (s.code:Int)] 5)).alloc (frO 3 0 s.id (.slice (some ⟨w.heap.size,0,none⟩) 1 1))).drew=W1:=⟨_,rfl⟩;rw[hW1] at S1;have hW1':((w.alloc (.cells #[.int .u8 (s.code:Int)] 5)).alloc (.cells #[.int .i64 3,.int .i64 0,.int .i64 (s.id:Int),.slice (some ⟨w.heap.size,0,none⟩) 1 1] 111)).drew=W1:=hW1;have b0:W1.cell? ⟨w.heap.size+1,0,none⟩=some (.int .i64 3):=S1.cell (n:=none) rfl 0;have b1:W1.cell? ⟨w.heap.size+1,1,none⟩=some (.int .i64 0):=S1.cell (n:=none) rfl 1;have b2:W1.cell? ⟨w.heap.size+1,2,none⟩=some (.int .i64 (s.id:Int)):=S1.cell (n:=none) rfl 2;have b3:W1.cell? ⟨w.heap.size+1,3,none⟩=some (.slice (some ⟨w.heap.size,0,none⟩) 1 1):=S1.cell (n:=none) rfl 3;have ks:=znf W1 3 0 s.id (some ⟨w.heap.size,0,none⟩) 1 1 (by omega);unfold frV at ks;clear hW1;by_cases hlt:room<7
  ·go_wp2_with fail
   refine ks.mono ?_;rintro e w2 ⟨rfl,he2⟩;have HL:=hide ((H1.left (S1.ext he2)).unlift.unlift);clear S1 H1
   go_wp2
   go_ret
   refine⟨_,rfl,?_,?_⟩
   ·rw[HT.out,if_pos hlt];exact zae.nil _
   ·rw[HT.out,if_pos hlt];exact HL.out
  ·go_wp2_with fail
   refine ks.mono ?_;rintro e w2 ⟨rfl,he2⟩;have km:=zcp H1 (S1.ext he2) hf hn 8 (by omega);clear S1 H1
   go_wp2_with fail
   refine km.mono ?_;rintro e w3 ⟨rfl,own3,v3,S3,H3,E3,r3,i3,p3⟩;have nf3:own3 (none) = .obj (w.heap.size+1) (frO 3 0 s.id (.slice (some ⟨w.heap.size,0,none⟩) 1 1)):=(E3 (none) (λx e=>by cases e)).trans rfl;have nb3:own3 (some none) = .obj (w.heap.size) (.cells #[.int .u8 (s.code:Int)] 5 (0,0)):=(E3 (some none) (λx e=>by cases e)).trans rfl;have g0:w3.cell? ⟨w.heap.size+1,0,none⟩=some (.int .i64 3):=S3.cell nf3 0;have g1:w3.cell? ⟨w.heap.size+1,1,none⟩=some (.int .i64 0):=S3.cell nf3 1;have g2:w3.cell? ⟨w.heap.size+1,2,none⟩=some (.int .i64 (s.id:Int)):=S3.cell nf3 2;have g3:w3.cell? ⟨w.heap.size+1,3,none⟩=some (.slice (some ⟨w.heap.size,0,none⟩) 1 1):=S3.cell nf3 3;have hB:=HB.out w3 (w.heap.size) (S3.get nb3);have ka:=zdp w3 3 0 s.id (.slice (some ⟨w.heap.size,0,none⟩) 1 1) [UInt8.ofNat s.code] [] (.slice none 0 0) (OwnAt.nil _ _ _) (by simp) (by simp) (by omega) (by omega) fi (λu v' hg=>hB.ext (zes hg));unfold frV at ka;rw[List.nil_append] at ka;have HX:=hide (λw4 (he:Ext w3 w4)=>(show zaf (λx=>some (some (nm x))) g wb (lift (lift own (.obj w.heap.size (.cells #[.int .u8 (s.code:Int)] 5))) (.obj (w.heap.size+1) (frO 3 0 s.id (.slice (some ⟨w.heap.size,0,none⟩) 1 1)))) d v w4 (d.move s 8) from ⟨own3,v3,S3.ext he,H3,E3,r3,i3,p3⟩).unlift.unlift);clear S3 H3 hB
   go_wp2_with fail
   refine ka.mono ?_;rintro e w4 ⟨v4,rfl,hO4,hG4⟩;obtain⟨a4,k4,hv4,-,-⟩:=hO4.slice;subst hv4;have HY:=hide (And.intro hO4.isBytes (HX.out w4 (zes hG4)));clear hO4 hG4;generalize hfr:frame 3 0 s.id [UInt8.ofNat s.code]=fr at *
   go_wp2
   go_ret
   refine⟨_,rfl,?_,?_⟩
   ·rw[HT.out,if_neg (by omega)];exact HY.out.1
   ·rw[HT.out,if_neg (by omega)];exact HY.out.2
 ·have S1:=((hs.liftObj (frO 3 0 s.id (.slice (some ⟨w.heap.size+1,0,none⟩) 1 1))).liftObj (.cells #[.int .u8 (s.code:Int)] 5)).ext (Ext.refl _).drew;have H1:=(h.lift (.obj w.heap.size (frO 3 0 s.id (.slice (some ⟨w.heap.size+1,0,none⟩) 1 1)))).lift (.obj (w.alloc (frO 3 0 s.id (.slice (some ⟨w.heap.size+1,0,none⟩) 1 1))).heap.size (.cells #[.int .u8 (s.code:Int)] 5));rw[hsz1] at S1 H1;obtain⟨W1,hW1⟩:∃ W1,((w.alloc (frO 3 0 s.id (.slice (some ⟨w.heap.size+1,0,none⟩) 1 1))).alloc (.cells #[.int .u8 (s.code:Int)] 5)).drew=W1:=⟨_,rfl⟩;rw[hW1] at S1;have hW1':((w.alloc (.cells #[.int .i64 3,.int .i64 0,.int .i64 (s.id:Int),.slice (some ⟨w.heap.size+1,0,none⟩) 1 1] 111)).alloc (.cells #[.int .u8 (s.code:Int)] 5)).drew=W1:=hW1;have b0:W1.cell? ⟨w.heap.size,0,none⟩=some (.int .i64 3):=S1.cell (n:=some none) rfl 0;have b1:W1.cell? ⟨w.heap.size,1,none⟩=some (.int .i64 0):=S1.cell (n:=some none) rfl 1;have b2:W1.cell? ⟨w.heap.size,2,none⟩=some (.int .i64 (s.id:Int)):=S1.cell (n:=some none) rfl 2;have b3:W1.cell? ⟨w.heap.size,3,none⟩=some (.slice (some ⟨w.heap.size+1,0,none⟩) 1 1):=S1.cell (n:=some none) rfl 3;have ks:=znf W1 3 0 s.id (some ⟨w.heap.size+1,0,none⟩) 1 1 (by omega);unfold frV at ks;clear hW1;by_cases hlt:room<7
  ·go_wp2_with fail
   refine ks.mono ?_;rintro e w2 ⟨rfl,he2⟩;have HL:=hide ((H1.left (S1.ext he2)).unlift.unlift);clear S1 H1
   go_wp2
   go_ret
   refine⟨_,rfl,?_,?_⟩
   ·rw[HT.out,if_pos hlt];exact zae.nil _
   ·rw[HT.out,if_pos hlt];exact HL.out
  ·go_wp2_with fail
   refine ks.mono ?_;rintro e w2 ⟨rfl,he2⟩;have km:=zcp H1 (S1.ext he2) hf hn 8 (by omega);clear S1 H1
   go_wp2_with fail
   refine km.mono ?_;rintro e w3 ⟨rfl,own3,v3,S3,H3,E3,r3,i3,p3⟩;have nf3:own3 (some none) = .obj (w.heap.size) (frO 3 0 s.id (.slice (some ⟨w.heap.size+1,0,none⟩) 1 1)):=(E3 (some none) (λx e=>by cases e)).trans rfl;have nb3:own3 (none) = .obj (w.heap.size+1) (.cells #[.int .u8 (s.code:Int)] 5 (0,0)):=(E3 (none) (λx e=>by cases e)).trans rfl;have g0:w3.cell? ⟨w.heap.size,0,none⟩=some (.int .i64 3):=S3.cell nf3 0;have g1:w3.cell? ⟨w.heap.size,1,none⟩=some (.int .i64 0):=S3.cell nf3 1;have g2:w3.cell? ⟨w.heap.size,2,none⟩=some (.int .i64 (s.id:Int)):=S3.cell nf3 2;have g3:w3.cell? ⟨w.heap.size,3,none⟩=some (.slice (some ⟨w.heap.size+1,0,none⟩) 1 1):=S3.cell nf3 3;have hB:=HB.out w3 (w.heap.size+1) (S3.get nb3);have ka:=zdp w3 3 0 s.id (.slice (some ⟨w.heap.size+1,0,none⟩) 1 1) [UInt8.ofNat s.code] [] (.slice none 0 0) (OwnAt.nil _ _ _) (by simp) (by simp) (by omega) (by omega) fi (λu v' hg=>hB.ext (zes hg));unfold frV at ka;rw[List.nil_append] at ka;have HX:=hide (λw4 (he:Ext w3 w4)=>(show zaf (λx=>some (some (nm x))) g wb (lift (lift own (.obj w.heap.size (frO 3 0 s.id (.slice (some ⟨w.heap.size+1,0,none⟩) 1 1)))) (.obj (w.heap.size+1) (.cells #[.int .u8 (s.code:Int)] 5))) d v w4 (d.move s 8) from ⟨own3,v3,S3.ext he,H3,E3,r3,i3,p3⟩).unlift.unlift);clear S3 H3 hB
   go_wp2_with fail
   refine ka.mono ?_;rintro e w4 ⟨v4,rfl,hO4,hG4⟩;obtain⟨a4,k4,hv4,-,-⟩:=hO4.slice;subst hv4;have HY:=hide (And.intro hO4.isBytes (HX.out w4 (zes hG4)));clear hO4 hG4;generalize hfr:frame 3 0 s.id [UInt8.ofNat s.code]=fr at *
   go_wp2
   go_ret
   refine⟨_,rfl,?_,?_⟩
   ·rw[HT.out,if_neg (by omega)];exact HY.out.1
   ·rw[HT.out,if_neg (by omega)];exact HY.out.2
end
end Go.Proofs.YtoijpogadkogcaaGreat
