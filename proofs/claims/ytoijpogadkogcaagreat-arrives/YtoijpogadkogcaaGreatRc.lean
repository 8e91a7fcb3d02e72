import Derived.Test.YtoijpogadkogcaaGreatRb
import Derived.Test.YtoijpogadkogcaaGreatQw
import Derived.Lib.SlBytesConst
import Derived.BigQuiet
import Derived.Test.YtoijpogadkogcaaGreatQz
namespace Go.Proofs.YtoijpogadkogcaaGreat
open Go.RowKit
set_option maxRecDepth 100000
theorem Tryz.infoLine:(Tryz.prog.info? 45).map (λi=>(i.zero,i.size,i.bytes))=some (some (.agg #[.int .i64 0,.bool false,.slice none 0 0,.int .i64 0,.bool false,.slice none 0 0,.int .i64 0,.bool false,.bool false,.slice none 0 0]),10,128):=by kernel_rfl
theorem Tryz.underlying35:Tryz.prog.underlying 35=some (.slice 45):=by kernel_rfl
def pk(c m:Int):Int:=if c<0 then -((c+1).tmod m) else c%m
theorem zhb(c m:Int)(hm:0<m):0<=pk c m/\pk c m<m:=by
 unfold pk;split
 ·rename_i h;exact zmc c m h hm
 ·exact⟨Int.emod_nonneg _ (by omega),Int.emod_lt_of_pos _ hm⟩
set_option maxHeartbeats 800000 in
theorem zvr(c m:Int)(w:World)(hc1:-9223372036854775808<=c)(hc2:c<=9223372036854775807)(hm1:0<m)(hm2:m<=9223372036854775807) :
  Calls Tryz.prog 19 #[.int .i64 c,.int .i64 m] w λe w'=>e = .returned (.int .i64 (pk c m))/\w'=w:=by
 by_cases h:c<0
 ·have e:pk c m = -((c+1).tmod m):=by unfold pk;rw[if_pos h]
  rw[e]
  go_enter Tryz.func19,Tryz.ntmps19
  go_wp2
  go_ret
  exact⟨rfl,rfl⟩
 ·have e:pk c m=c%m:=by unfold pk;rw[if_neg h]
  rw[e]
  go_enter Tryz.func19,Tryz.ntmps19
  go_wp2
  go_ret
  exact⟨rfl,rfl⟩
def zdb(id:Int)(byA:Bool)(cs:Value)(cr:Int)(ce:Bool)(ss:Value)(sr:Int)(se rs:Bool)(vh:Value):List Value:=[.int .i64 id,.bool byA,cs,.int .i64 cr,.bool ce,ss,.int .i64 sr,.bool se,.bool rs,vh]
def zzbdx(wb:World)(a b:Nat)(e:Ending)(w':World):Prop :=
 ∃ gl gx gy gs own vu vd vl m vh,e = .returned (.pointer (some ⟨gl,0,none⟩))/\Sep wb w' own/\zbi m=true/\zak own gl gx gy (Ay a b) (Bx a b m) vu vd vl [] [] 1 (zdb 1 true (.slice (some ⟨gs,0,none⟩) 4 4) 2 false (.slice none 0 0) 0 false false vh) false/\own (.e 0) = .row 122 2 vh m.length (zap m)/\own (.e 1) = .obj gs (.cells #[.int .u8 119,.int .u8 111,.int .u8 114,.int .u8 100] 5 (4,5))
theorem LN.xi:∀ a b:DN,LN.x a=LN.x b->a=b:=λ_ _ e=>by injection e
theorem LN.yi:∀ a b:DN,LN.y a=LN.y b->a=b:=λ_ _ e=>by injection e
theorem zzbhl(w:World):Sep w w (λ_:LN=>Res.none):=⟨Ext.refl w,λ_=>trivial,λ_ _ _ h=>h.elim,λ_ _ h=>h.elim⟩
theorem OwnAt.isPairs{w:World}{T:Nat}{v:Value}{m:zal}(h:OwnAt w T 2 v m.length (zap m)):zbq w v m:=by
 rcases h.2 with ⟨rfl,h0⟩|⟨g,o,cap,cur,rfl,hg,h3,h4,h5,h6⟩
 ·have:m=[]:=List.length_eq_zero_iff.1 h0
  subst this;exact zbq.nil w
 ·refine⟨_,cap,rfl,h3,h4,.inr ⟨g,o,rfl,λi hi => ?_⟩⟩;have hc:∀ j,j<m.length*2->w.cell? ⟨g,o+j,none⟩=(zap m)[j]?:=λj hj=>by
   rw[<-h6,List.getElem?_take,if_pos hj,List.getElem?_drop,Array.getElem?_toList];simp[World.cell?,hg]
  have e1:=hc (i*2) (by omega);have e2:=hc (i*2+1) (by omega);rw[<-Nat.add_assoc] at e2;exact⟨e1.trans (zov m i hi).1,e2.trans (zov m i hi).2⟩
theorem tdiv6(x:Int)(h1:-9223372036854775808<=x)(h2:x<=9223372036854775807):-9223372036854775808<=x.tdiv 6/\x.tdiv 6<=9223372036854775807:=by
 by_cases h:0<=x
 ·rw[Int.tdiv_eq_ediv_of_nonneg h];omega
 ·have e:x.tdiv 6 = -((-x).tdiv 6):=by rw[Int.neg_tdiv];omega
  rw[e,Int.tdiv_eq_ediv_of_nonneg (by omega)];omega
theorem zie{w:World}{base:Nat}{e:TypeId}{size n:Nat}{v:Value}{xs:List Value}(h:w.ownsRow base e size v n xs)(b:Nat)(hb:v.ownBlock=some b):base<=b:=by
 rcases h.2 with ⟨rfl,-⟩|⟨g,cap,cur,rfl,hg,-⟩
 ·simp[Value.ownBlock] at hb
 ·simp only[Value.ownBlock,Option.some.injEq] at hb;omega
section
variable {own own':LN->Res} {gl gx gy:Nat} {dx dy d':Ds} {vu vd vl:Value} {up down:Bytes} {nl:Nat} {xs:List Value} {lv:Bool}
theorem zak.alike(h:zak own gl gx gy dx dy vu vd vl up down nl xs lv)(e:∀ n,(∀ k,n ≠ .e k)->n ≠ .o->own' n=own n):zak own' gl gx gy dx dy vu vd vl up down nl xs lv :=
 ⟨h.ex.alike (λx=>e (.x x) (λ_ e=>by cases e) (λe=>by cases e)),h.ey.alike (λx=>e (.y x) (λ_ e=>by cases e) (λe=>by cases e)),(e .link (λ_ e=>by cases e) (λe=>by cases e)).trans h.lk,(e .up (λ_ e=>by cases e) (λe=>by cases e)).trans h.nu,(e .down (λ_ e=>by cases e) (λe=>by cases e)).trans h.nd,(e .lines (λ_ e=>by cases e) (λe=>by cases e)).trans h.nl⟩
theorem zak.withX(h:zak own gl gx gy dx dy vu vd vl up down nl xs lv)(X:zar own' LN.x gx d')(e:∀ n,(∀ k,n ≠ .e k)->n ≠ .o->(∀ x,n ≠ .x x)->own' n=own n):zak own' gl gx gy d' dy vu vd vl up down nl xs lv :=
 ⟨X,h.ey.alike (λx=>e (.y x) (λ_ e=>by cases e) (λe=>by cases e) (λ_ e=>by cases e)),(e .link (λ_ e=>by cases e) (λe=>by cases e) (λ_ e=>by cases e)).trans h.lk,(e .up (λ_ e=>by cases e) (λe=>by cases e) (λ_ e=>by cases e)).trans h.nu,(e .down (λ_ e=>by cases e) (λe=>by cases e) (λ_ e=>by cases e)).trans h.nd,(e .lines (λ_ e=>by cases e) (λe=>by cases e) (λ_ e=>by cases e)).trans h.nl⟩
theorem zak.withY(h:zak own gl gx gy dx dy vu vd vl up down nl xs lv)(Y:zar own' LN.y gy d')(e:∀ n,(∀ k,n ≠ .e k)->n ≠ .o->(∀ x,n ≠ .y x)->own' n=own n):zak own' gl gx gy dx d' vu vd vl up down nl xs lv :=
 ⟨h.ex.alike (λx=>e (.x x) (λ_ e=>by cases e) (λe=>by cases e) (λ_ e=>by cases e)),Y,(e .link (λ_ e=>by cases e) (λe=>by cases e) (λ_ e=>by cases e)).trans h.lk,(e .up (λ_ e=>by cases e) (λe=>by cases e) (λ_ e=>by cases e)).trans h.nu,(e .down (λ_ e=>by cases e) (λe=>by cases e) (λ_ e=>by cases e)).trans h.nd,(e .lines (λ_ e=>by cases e) (λe=>by cases e) (λ_ e=>by cases e)).trans h.nl⟩
end
theorem zso{P:Program}(w:World){t e':TypeId}(e:TypeId)(ht:P.underlying t=some (.slice e'))(id:Int)(byA:Bool)(r:Option Addr)(n k:Nat):Src P 10 t (.slice (some ⟨w.heap.size,0,none⟩) 1 1) 1 (zdb id byA (.slice none 0 0) 0 false (.slice none 0 0) 0 false false (.slice r n k)) (w.alloc (.cells #[.int .i64 id,.bool byA,.slice none 0 0,.int .i64 0,.bool false,.slice none 0 0,.int .i64 0,.bool false,.bool false,.slice r n k] e)) :=
 Src.ofSlice (w.alloc (.cells #[.int .i64 id,.bool byA,.slice none 0 0,.int .i64 0,.bool false,.slice none 0 0,.int .i64 0,.bool false,.bool false,.slice r n k] e)) ht ⟨w.heap.size,0,none⟩ 1 1 (zdb id byA (.slice none 0 0) 0 false (.slice none 0 0) 0 false false (.slice r n k)) rfl (λj x hj=>by
  unfold zdb at hj
  match j,hj with
  | 0,hj=>simp at hj;subst hj;simp[Addr.add]
  | 1,hj=>simp at hj;subst hj;simp[Addr.add]
  | 2,hj=>simp at hj;subst hj;simp[Addr.add]
  | 3,hj=>simp at hj;subst hj;simp[Addr.add]
  | 4,hj=>simp at hj;subst hj;simp[Addr.add]
  | 5,hj=>simp at hj;subst hj;simp[Addr.add]
  | 6,hj=>simp at hj;subst hj;simp[Addr.add]
  | 7,hj=>simp at hj;subst hj;simp[Addr.add]
  | 8,hj=>simp at hj;subst hj;simp[Addr.add]
  | 9,hj=>simp at hj;subst hj;simp[Addr.add]) (λx hx=>by simp[zdb] at hx;rcases hx with rfl | rfl | rfl | rfl | rfl | rfl | rfl | rfl | rfl<;>rfl)
theorem OwnAt.thawL{w:World}{T sz n a o cap:Nat}{xs:List Value}(h:OwnAt w T sz (.slice (some ⟨a,o,none⟩) n cap) n xs)(x:Nat):w.frozen? ⟨a,x,none⟩=false:=by
 rcases h.2 with ⟨h1,-⟩|⟨g,o',cap',cur,h1,hg,-⟩
 ·cases h1
 ·simp only[Value.slice.injEq,Option.some.injEq,Addr.mk.injEq] at h1;obtain⟨⟨rfl,-,-⟩,-,-⟩:=h1;simp[World.frozen?,hg]
theorem OwnAt.readL{w:World}{T sz n a o cap:Nat}{xs:List Value}(h:OwnAt w T sz (.slice (some ⟨a,o,none⟩) n cap) n xs)(j:Nat)(hj:j<n*sz):w.cell? ⟨a,o+j,none⟩=xs[j]?:=by
 obtain⟨g,o',cap',e,-,-,hc⟩:=h.at (by
  rcases Nat.eq_zero_or_pos n with h0|h0
  ·rw[h0] at hj;omega
  ·exact h0)
 simp only[Value.slice.injEq,Option.some.injEq,Addr.mk.injEq] at e;obtain⟨⟨rfl,rfl,-⟩,-,-⟩:=e;exact hc j hj
section
variable {own own':LN->Res} {gl gx gy:Nat} {dx dy d':Ds} {vu vd:Value} {up down:Bytes} {nl al ol cl:Nat} {xs:List Value} {lv:Bool} {wb w:World}
theorem zak.setLine(h:zak own gl gx gy dx dy vu vd (.slice (some ⟨al,ol,none⟩) nl cl) up down nl xs lv)(hs:Sep wb w own)(j:Nat)(u:Value):∃ own',Sep wb (w.setCell ⟨al,ol+j,none⟩ u) own'/\zak own' gl gx gy dx dy vu vd (.slice (some ⟨al,ol,none⟩) nl cl) up down nl (xs.set j u) lv /\ ∀ k,own' (.e k)=own (.e k) :=
 ⟨_,hs.setRow h.nl j u,⟨h.ex.updO (λ_ e=>by cases e) _,h.ey.updO (λ_ e=>by cases e) _,(zac _ _ (λe=>by cases e)).trans h.lk,(zac _ _ (λe=>by cases e)).trans h.nu,(zac _ _ (λe=>by cases e)).trans h.nd,zag _ _ _⟩,λk=>zac _ _ (λe=>by cases e)⟩
theorem zak.line(h:zak own gl gx gy dx dy vu vd (.slice (some ⟨al,ol,none⟩) nl cl) up down nl xs lv)(hs:Sep wb w own)(j:Nat)(hj:j<nl*10):w.cell? ⟨al,ol+j,none⟩=xs[j]? /\ w.frozen? ⟨al,ol+j,none⟩=false :=
 ⟨OwnAt.readL (show OwnAt w 45 10 _ nl xs from hs.get h.nl) j hj,OwnAt.thawL (show OwnAt w 45 10 _ nl xs from hs.get h.nl) _⟩
end
theorem zek(w:World)(cs:Array Value)(T:TypeId)(f:Nat×Nat)(k:Nat):(w.alloc (.cells cs T f)).cell? ⟨w.heap.size,k,none⟩=cs[k]?:=by have h2:=heap_alloc_new w (.cells cs T f);unfold World.cell?;rw[h2];rfl
theorem zzblm(w:World)(W:World)(hW:w.alloc (.cells #[.int .u8 119,.int .u8 111,.int .u8 114,.int .u8 100] 5 (4,5))=W):zae W (.slice (some ⟨w.heap.size,0,none⟩) 4 4) word:=by
 refine⟨_,4,rfl,Nat.le_refl _,by simp[maxLen],.inr ⟨w.heap.size,0,rfl,λi hi => ?_⟩⟩;have hi4:i<4:=hi;rw[<-hW]
 match i,hi4 with
 | 0,_=>exact zek w #[.int .u8 119,.int .u8 111,.int .u8 114,.int .u8 100] 5 (4,5) 0
 | 1,_=>exact zek w #[.int .u8 119,.int .u8 111,.int .u8 114,.int .u8 100] 5 (4,5) 1
 | 2,_=>exact zek w #[.int .u8 119,.int .u8 111,.int .u8 114,.int .u8 100] 5 (4,5) 2
 | 3,_=>exact zek w #[.int .u8 119,.int .u8 111,.int .u8 114,.int .u8 100] 5 (4,5) 3
theorem zww(w W:World)(hW:w.alloc (.cells #[.int .u8 119,.int .u8 111,.int .u8 114,.int .u8 100] 5 (4,5))=W):(convert 34 34 (.slice (some ⟨w.heap.size,0,none⟩) 4 4)).run Tryz.prog (w.alloc (.cells #[.int .u8 119,.int .u8 111,.int .u8 114,.int .u8 100] 5)) = .ok (.slice (some ⟨w.heap.size,0,none⟩) 4 4) W :=
 (Lib.run_convert_bytes_const (P:=Tryz.prog) w 34 5 #[.int .u8 119,.int .u8 111,.int .u8 114,.int .u8 100] 4 4 Tryz.underlying34 Tryz.underlying5).trans (by rw[<-hW];rfl)
set_option maxHeartbeats 6400000 in
theorem zzbfj(streams:Int)(w:World)(h1:-9223372036854775808<=streams)(h2:streams<=9223372036854775807)(na nb:Nat)(ha:pk streams 6=(na:Int))(hb:pk (streams.tdiv 6) 6=(nb:Int)) :
  Calls Tryz.prog 11 #[.int .i64 streams] w (zzbdx w (1+na) (1+nb)):=by
 obtain⟨i0,hi0,hz0,hz1,hz2⟩:=zbk Tryz.infoLine;have pa:=zhb streams 6 (by omega);have pb:=zhb (streams.tdiv 6) 6 (by omega);obtain⟨hd1,hd2⟩:=tdiv6 streams h1 h2;have kp:=zvr streams 6 w h1 h2 (by omega) (by omega);have hna:na<=5:=by omega
 have hnb:nb<=5:=by omega
 rw[ha] at kp;have kx:=zzu (nm:=LN.x) LN.xi (λ_=>rfl) (zzbhl w) true (1+na) (by omega);have ca:((1+na:Nat):Int)=1+(na:Int):=by omega
 have cb:((1+nb:Nat):Int)=1+(nb:Int):=by omega
 rw[ca] at kx;have HB:=hide hb;have CB:=hide cb;clear ha hb ca cb pa pb
 go_enter Tryz.func11,Tryz.ntmps11
 go_wp2_with fail
 refine kp.mono ?_;rintro e w0 ⟨rfl,hw⟩;replace hw:=hw.symm;subst hw
 go_wp2_with fail
 refine kx.mono ?_;rintro e w1 ⟨gx,own1,rfl,S1,X1,E1⟩;have kp2:=zvr (streams.tdiv 6) 6 w1 hd1 hd2 (by omega) (by omega);rw[HB.out] at kp2;have ky:=zzu (nm:=LN.y) LN.yi (λx=>E1 (.y x) (λ_ e=>by cases e)) S1 false (1+nb) (by omega);rw[CB.out] at ky;clear kx kp
 go_wp2_with fail
 refine kp2.mono ?_;rintro e w0 ⟨rfl,hw⟩;replace hw:=hw.symm;subst hw;clear S1 kp2
 go_wp2_with fail
 refine ky.mono ?_;rintro e w2 ⟨gy,own2,rfl,S2,Y2,E2⟩;have X2:=X1.alike (λx=>E2 (.x x) (λ_ e=>by cases e));have S3:=(((S2.addObj .link (.cells #[.pointer (some ⟨gx,0,none⟩),.pointer (some ⟨gy,0,none⟩),.slice none 0 0,.slice none 0 0,.slice none 0 0,.bool false] 37 (0,0))).nilRow .up 5 1).nilRow .down 5 1).nilRow .lines 45 10;obtain⟨own3,hown3⟩:∃ own3,upd (upd (upd (upd own2 .link (.obj w2.heap.size (.cells #[.pointer (some ⟨gx,0,none⟩),.pointer (some ⟨gy,0,none⟩),.slice none 0 0,.slice none 0 0,.slice none 0 0,.bool false] 37 (0,0)))) .up (.row 5 1 (.slice none 0 0) 0 [])) .down (.row 5 1 (.slice none 0 0) 0 [])) .lines (.row 45 10 (.slice none 0 0) 0 [])=own3:=⟨_,rfl⟩;rw[hown3] at S3;have L3:zak own3 w2.heap.size gx gy (Ds.new true (1+na)) (Ds.new false (1+nb)) (.slice none 0 0) (.slice none 0 0) (.slice none 0 0) [] [] 0 [] false:=by
  subst hown3;refine⟨?_,?_,?_,?_,?_,?_⟩
  ·exact(((X2.updO (λ_ e=>by cases e) _).updO (λ_ e=>by cases e) _).updO (λ_ e=>by cases e) _).updO (λ_ e=>by cases e) _
  ·exact(((Y2.updO (λ_ e=>by cases e) _).updO (λ_ e=>by cases e) _).updO (λ_ e=>by cases e) _).updO (λ_ e=>by cases e) _
  ·rw[zac _ _ (λe=>by cases e),zac _ _ (λe=>by cases e),zac _ _ (λe=>by cases e),zag]
  ·rw[zac _ _ (λe=>by cases e),zac _ _ (λe=>by cases e),zag];rfl
  ·rw[zac _ _ (λe=>by cases e),zag];rfl
  ·rw[zag]
 obtain⟨p5,pg⟩:=zzbdt (a:=1+na) (b:=1+nb) (R:=1099511627776) (by omega) (by omega) rfl;have ks:=zpt L3 S3 1099511627776 rfl pg;rw[p5] at ks;dsimp only at ks;clear ky S2 X1 Y2 E1 E2 X2 L3 S3 p5 pg hown3
 go_wp2_with fail
 refine ks.mono ?_;rintro e w4 ⟨rfl,own4,vu4,vd4,S4,L4,-⟩;have kh:=zmd streams w4 h1 h2;clear ks
 go_wp2_with fail
 refine kh.mono ?_;rintro e w5 ⟨m,vh,rfl,hpk,how,he5⟩;have hP:=zbq.ofOwns how;have S5:=S4.add (.e 0) he5 (OwnAt.ofOwns how) (zie how);have L5:zak (upd own4 (.e 0) (.row 122 2 vh m.length (zap m))) w2.heap.size gx gy (Az (1+na) (1+nb)) (Bz (1+na) (1+nb)) vu4 vd4 (.slice none 0 0) [] [] 0 [] false:=L4.alike (λn h _=>zac _ _ (h 0));have q5:upd own4 (.e 0) (.row 122 2 vh m.length (zap m)) (.e 0) = .row 122 2 vh m.length (zap m):=zag _ _ _;obtain⟨own5,hown5⟩:∃ own5,upd own4 (.e 0) (.row 122 2 vh m.length (zap m))=own5:=⟨_,rfl⟩;rw[hown5] at S5 L5 q5;have AOK:(Az (1+na) (1+nb)).Ok 3000000 1 3000010:=zok true (1+nb) (1+na) (by omega) (by omega) [] (by simp) (λf hf=>by cases hf);have kO:=zps L5.ex S5 (AOK.fits.mono (by omega)) rfl vh m hP (znj m hpk);rw[zzbdu (by omega) hpk,zwv] at kO;have c1:(((Az (1+na) (1+nb)).next:Nat):Int)=1:=rfl;rw[c1] at kO;obtain⟨ah,ch,hvh,-,-,-⟩:=hP;subst hvh;clear c1 AOK hown5 how he5 kh S4 L4 S5
 go_wp2_with fail
 refine kO.mono ?_;rintro e w6 ⟨own6,S6,E6,hor⟩;have hor':e = .returned (.tuple #[.int .i64 1,.int .i64 0])/\zar own6 LN.x gx (Cl (1+na) (1+nb) 1 1 150 [1] (S1b m []) none):=by
  rcases hor with ⟨-,h1,h2⟩|⟨hno,-,-⟩
  ·exact⟨h1,h2⟩
  ·exact absurd rfl hno
 obtain⟨rfl,X6⟩:=hor';have L6:=L5.withX X6 (λn _ _ h=>E6 n h);have q6:=(E6 (.e 0) (λ_ e=>by cases e)).trans q5;obtain⟨W7,hW7⟩:∃ W7,w6.alloc (.cells #[.int .i64 1,.bool true,.slice none 0 0,.int .i64 0,.bool false,.slice none 0 0,.int .i64 0,.bool false,.bool false,.slice ah m.length ch] 45 (0,0))=W7:=⟨_,rfl⟩;have S7:Sep w W7 own6:=by rw[<-hW7];exact S6.ext ((Ext.refl w6).alloc _)
 have hsrc:=zso (P:=Tryz.prog) w6 45 Tryz.underlying35 1 true ah m.length ch;rw[hW7] at hsrc;have c4:w6.cell? ⟨w2.heap.size,4,none⟩=some (.slice none 0 0):=L6.cc S6 4;have HST:Hid (∀ (v3:Value) (w3:World),OwnAt w3 45 10 v3 1 (zdb 1 true (.slice none 0 0) 0 false (.slice none 0 0) 0 false false (.slice ah m.length ch))->zau W7 (.slice none 0 0) w3 v3->(w3.cell? ⟨w2.heap.size,4,none⟩=some (.slice none 0 0)/\w3.frozen? ⟨w2.heap.size,4,none⟩=false) /\ ∃ own3,Sep w (w3.setCell ⟨w2.heap.size,4,none⟩ v3) own3/\zak own3 w2.heap.size gx gy (Cl (1+na) (1+nb) 1 1 150 [1] (S1b m []) none) (Bz (1+na) (1+nb)) vu4 vd4 v3 [] [] 1 (zdb 1 true (.slice none 0 0) 0 false (.slice none 0 0) 0 false false (.slice ah m.length ch)) false /\ ∀ k,own3 (.e k)=own6 (.e k)):=λv3 w3 hO3 hG3=>by
  have S3:=S7.grew L6.nl hG3 hO3;have lk3:=(zac own6 (.row 45 10 v3 1 (zdb 1 true (.slice none 0 0) 0 false (.slice none 0 0) 0 false false (.slice ah m.length ch))) (show LN.link ≠ .lines from λe=>by cases e)).trans L6.lk;refine⟨⟨S3.cell lk3 4,S3.thaw lk3 4⟩,_,S3.setObj lk3 4 v3,⟨?_,?_,?_,?_,?_,?_⟩,λk => ?_⟩
  ·exact(L6.ex.updO (λ_ e=>by cases e) _).updO (λ_ e=>by cases e) _
  ·exact(L6.ey.updO (λ_ e=>by cases e) _).updO (λ_ e=>by cases e) _
  ·rw[zag];rfl
  ·rw[zac _ _ (λe=>by cases e),zac _ _ (λe=>by cases e)];exact L6.nu
  ·rw[zac _ _ (λe=>by cases e),zac _ _ (λe=>by cases e)];exact L6.nd
  ·rw[zac _ _ (λe=>by cases e),zag]
  ·rw[zac _ _ (λe=>by cases e),zac _ _ (λe=>by cases e)]
 clear hor kO E6 X6 L5 q5 L6 S6 S7 h1 h2 hd1 hd2 HB CB
 go_wp2_with (at_builtin;refine zbh _ rfl (.tmp 71) (.tmp 74) 35 35 rfl 45 i0 (.agg #[.int .i64 0,.bool false,.slice none 0 0,.int .i64 0,.bool false,.slice none 0 0,.int .i64 0,.bool false,.bool false,.slice none 0 0]) 10 128 Tryz.underlying35 hi0 hz0 hz1 hz2 rfl _ _ _ rfl (OwnAt.nil W7 45 10) _ _ _ rfl hsrc ?_ ?_ ?_)
 ·unfold maxLen;omega
 ·omega
 intro v8 w8 hO8 hG8;have hO9:=zbv (m:=1) (ys:=zdb 1 true (.slice none 0 0) 0 false (.slice none 0 0) 0 false false (.slice ah m.length ch)) hO8 (by omega) (List.nil_append _);obtain⟨⟨c4',t4'⟩,own9,S9,L9,e9⟩:=HST.out v8 w8 hO9 hG8;obtain⟨al,ol,cl,hvl,-,-,-⟩:=hO9.at (by omega);subst hvl;have q9:=(e9 0).trans q6;clear hO8 hO9 hG8 hsrc HST hW7 c4 q6;obtain⟨W9,hW9⟩:∃ W9,w8.setCell ⟨w2.heap.size,4,none⟩ (.slice (some ⟨al,ol,none⟩) 1 cl)=W9:=⟨_,rfl⟩;rw[hW9] at S9;obtain⟨W10,hW10⟩:∃ W10,W9.alloc (.cells #[.int .u8 119,.int .u8 111,.int .u8 114,.int .u8 100] 5 (4,5))=W10:=⟨_,rfl⟩;have hcv:=zww W9 W10 hW10;have S10:Sep w W10 own9:=by rw[<-hW10];exact S9.ext ((Ext.refl W9).alloc _)
 have AOK:=aw_ok (a:=1+na) (b:=1+nb) (by omega) (by omega) hpk [] (by simp);have kW:=znl L9.ex S10 (AOK.fits.mono (by omega)) 1 (by omega) (by omega) _ word (zzblm W9 W10 hW10);rw[zzz 1 (by omega) _ _ _ _ _ rfl rfl,zqj.1,(zqj (a:=1) (b:=1)).2.1,zqj.2.2] at kW;have c4n:((4:Nat):Int)=4:=rfl;rw[c4n] at kW;clear c4n AOK S9 S10 hW10
 go_wp2_with fail
 refine kW.mono ?_;rintro e w11 ⟨own11,S11,E11,hor⟩;have hor':e = .returned (.tuple #[.int .i64 4,.int .i64 0])/\zar own11 LN.x gx (Cl (1+na) (1+nb) 1 1 150 [1] (S1b m word) none):=by
  rcases hor with ⟨hno,-,-⟩|⟨-,h1,h2⟩
  ·exact absurd rfl hno
  ·exact⟨h1,h2⟩
 obtain⟨rfl,X11⟩:=hor';have L11:=L9.withX X11 (λn _ _ h=>E11 n h);have q11:=(E11 (.e 0) (λ_ e=>by cases e)).trans q9;have c4:w11.cell? ⟨w2.heap.size,4,none⟩=some (.slice (some ⟨al,ol,none⟩) 1 cl):=L11.cc S11 4;obtain⟨W12,hW12⟩:∃ W12,w11.alloc (.cells #[.int .u8 119,.int .u8 111,.int .u8 114,.int .u8 100] 5 (4,5))=W12:=⟨_,rfl⟩;have hcv2:=zww w11 W12 hW12;have S12:Sep w W12 (upd own11 (.e 1) (.obj w11.heap.size (.cells #[.int .u8 119,.int .u8 111,.int .u8 114,.int .u8 100] 5 (4,5)))):=by rw[<-hW12];exact S11.addObj (.e 1) _
 have L12:zak (upd own11 (.e 1) (.obj w11.heap.size (.cells #[.int .u8 119,.int .u8 111,.int .u8 114,.int .u8 100] 5 (4,5)))) w2.heap.size gx gy (Cl (1+na) (1+nb) 1 1 150 [1] (S1b m word) none) (Bz (1+na) (1+nb)) vu4 vd4 (.slice (some ⟨al,ol,none⟩) 1 cl) [] [] 1 (zdb 1 true (.slice none 0 0) 0 false (.slice none 0 0) 0 false false (.slice ah m.length ch)) false:=L11.alike (λn h _=>zac _ _ (h 1));have q12:upd own11 (.e 1) (.obj w11.heap.size (.cells #[.int .u8 119,.int .u8 111,.int .u8 114,.int .u8 100] 5 (4,5))) (.e 0)=_:=(zac _ _ (λe=>by cases e)).trans q11;have r12:=zag own11 (.e 1) (.obj w11.heap.size (.cells #[.int .u8 119,.int .u8 111,.int .u8 114,.int .u8 100] 5 (4,5)));obtain⟨own12,hown12⟩:∃ own12,upd own11 (.e 1) (.obj w11.heap.size (.cells #[.int .u8 119,.int .u8 111,.int .u8 114,.int .u8 100] 5 (4,5)))=own12:=⟨_,rfl⟩;rw[hown12] at S12 L12 q12 r12;obtain⟨x2,y2⟩:=L12.line S12 2 (by omega);have x2':W12.cell? ⟨al,ol+2,none⟩=some (.slice none 0 0):=x2;obtain⟨own13,S13,L13,e13⟩:=L12.setLine S12 2 (.slice (some ⟨w11.heap.size,0,none⟩) 4 4);have q13:=(e13 0).trans q12;have r13:=(e13 1).trans r12;obtain⟨W13,hW13⟩:∃ W13,W12.setCell ⟨al,ol+2,none⟩ (.slice (some ⟨w11.heap.size,0,none⟩) 4 4)=W13:=⟨_,rfl⟩;rw[hW13] at S13;have L13':zak own13 w2.heap.size gx gy (Cl (1+na) (1+nb) 1 1 150 [1] (S1b m word) none) (Bz (1+na) (1+nb)) vu4 vd4 (.slice (some ⟨al,ol,none⟩) 1 cl) [] [] 1 (zdb 1 true (.slice (some ⟨w11.heap.size,0,none⟩) 4 4) 0 false (.slice none 0 0) 0 false false (.slice ah m.length ch)) false:=L13;obtain⟨p5,pg⟩:=zzbdv (a:=1+na) (b:=1+nb) (R:=1099511627776) (by omega) (by omega) (by omega) hpk rfl;have ks:=zpt L13' S13 1099511627776 rfl pg;rw[p5] at ks;dsimp only at ks;clear hor kW E11 X11 L9 q9 L11 q11 S11 hW12 S12 L12 q12 r12 hown12 x2 S13 L13 L13' e13 p5 pg e9 hW9 hcv
 go_wp2_with fail
 refine ks.mono ?_;rintro e w14 ⟨rfl,own14,vu,vd,S14,L14,e14⟩;have q14:=(e14 0).trans q13;have r14:=(e14 1).trans r13;have S15:=(S14.drop .o).drop (.e 2);have L15:zak (upd (upd own14 .o .none) (.e 2) .none) w2.heap.size gx gy (Ay (1+na) (1+nb)) (By (1+na) (1+nb) m) vu vd (.slice (some ⟨al,ol,none⟩) 1 cl) [] [] 1 (zdb 1 true (.slice (some ⟨w11.heap.size,0,none⟩) 4 4) 0 false (.slice none 0 0) 0 false false (.slice ah m.length ch)) false:=L14.alike (λn h h'=>(zac _ _ (h 2)).trans (zac _ _ h'));have q15:upd (upd own14 .o .none) (.e 2) .none (.e 0)=_:=((zac _ _ (λe=>by cases e)).trans (zac _ _ (λe=>by cases e))).trans q14;have r15:upd (upd own14 .o .none) (.e 2) .none (.e 1)=_:=((zac _ _ (λe=>by cases e)).trans (zac _ _ (λe=>by cases e))).trans r14;have z15:upd (upd own14 .o .none) (.e 2) .none .o = .none:=(zac _ _ (λe=>by cases e)).trans (zag _ _ _);have z15':upd (upd own14 .o .none) (.e 2) .none (.e 2) = .none:=zag _ _ _;obtain⟨own15,hown15⟩:∃ own15,upd (upd own14 .o .none) (.e 2) .none=own15:=⟨_,rfl⟩;rw[hown15] at S15 L15 q15 r15 z15 z15';have BOK:=by_ok (a:=1+na) (b:=1+nb) (by omega) (by omega) hpk;have kR:=zjm L15.ey S15 (BOK.fits.mono (by omega)) 1 2 (by omega) (by omega) (by omega) .o (λ_ e=>by cases e) z15;obtain⟨b1,b2,b3,b4⟩:=zzbdw (a:=1+na) (b:=1+nb) (h:=m);rw[b1,b2,b3,b4] at kR;clear ks q13 r13 S14 L14 e14 q14 r14 hown15 BOK b1 b2 b3 b4
 go_wp2_with fail
 refine kR.mono ?_;rintro e w16 ⟨vo,own16,S16,E16,hor⟩;have hor':e = .returned (.tuple #[vo,.int .i64 0])/\zar own16 LN.y gy (Bx (1+na) (1+nb) m)/\own16 .o = .row 5 1 vo 2 (zab [119,111]):=by
  rcases hor with ⟨hno,-⟩|⟨-,h1,h2,h3⟩
  ·exact absurd rfl hno
  ·exact⟨h1,h2,h3⟩
 obtain⟨rfl,Y16,o16⟩:=hor';have L16:=L15.withY Y16 (λn _ ho h=>E16 n ho h);have q16:=(E16 (.e 0) (λe=>by cases e) (λ_ e=>by cases e)).trans q15;have r16:=(E16 (.e 1) (λe=>by cases e) (λ_ e=>by cases e)).trans r15;have z16:=(E16 (.e 2) (λe=>by cases e) (λ_ e=>by cases e)).trans z15';obtain⟨ao,co,hvo,-,-⟩:=(show OwnAt w16 5 1 vo 2 _ from S16.get o16).slice;subst hvo;have c4:w16.cell? ⟨w2.heap.size,4,none⟩=some (.slice (some ⟨al,ol,none⟩) 1 cl):=L16.cc S16 4;obtain⟨x3,y3⟩:=L16.line S16 3 (by omega);have x3':w16.cell? ⟨al,ol+3,none⟩=some (.int .i64 0):=x3;have S17:=S16.setRow L16.nl 3 (.int .i64 2);obtain⟨own17,hown17⟩:∃ own17,upd own16 .lines (.row 45 10 (.slice (some ⟨al,ol,none⟩) 1 cl) 1 ((zdb 1 true (.slice (some ⟨w11.heap.size,0,none⟩) 4 4) 0 false (.slice none 0 0) 0 false false (.slice ah m.length ch)).set 3 (.int .i64 2)))=own17:=⟨_,rfl⟩;rw[hown17] at S17;have e17:∀ n,n ≠ .lines->own17 n=own16 n:=λn hn=>by rw[<-hown17];exact zac _ _ hn
 have L17:zak own17 w2.heap.size gx gy (Ay (1+na) (1+nb)) (Bx (1+na) (1+nb) m) vu vd (.slice (some ⟨al,ol,none⟩) 1 cl) [] [] 1 (zdb 1 true (.slice (some ⟨w11.heap.size,0,none⟩) 4 4) 2 false (.slice none 0 0) 0 false false (.slice ah m.length ch)) false :=
  ⟨L16.ex.alike (λx=>e17 _ (λe=>by cases e)),L16.ey.alike (λx=>e17 _ (λe=>by cases e)),(e17 _ (λe=>by cases e)).trans L16.lk,(e17 _ (λe=>by cases e)).trans L16.nu,(e17 _ (λe=>by cases e)).trans L16.nd,by rw[<-hown17,zag];rfl⟩
 have q17:=(e17 (.e 0) (λe=>by cases e)).trans q16;have r17:=(e17 (.e 1) (λe=>by cases e)).trans r16;have z17:=(e17 (.e 2) (λe=>by cases e)).trans z16;have o17:=(e17 .o (λe=>by cases e)).trans o16;obtain⟨W17,hW17⟩:∃ W17,w16.setCell ⟨al,ol+3,none⟩ (.int .i64 2)=W17:=⟨_,rfl⟩;rw[hW17] at S17;have BOK:=bx_ok (a:=1+na) (b:=1+nb) (by omega) (by omega) hpk;have kH:=zgf L17.ey S17 (BOK.fits.mono (by omega)) 1 (by omega) (by omega) (.e 2) (λ_ e=>by cases e) z17;rw[zzbfi hpk] at kH;clear kR S15 L15 q15 r15 z15 z15' E16 Y16 o16 S16 L16 q16 r16 z16 hor x3 hown17 e17 BOK z17
 go_wp2_with fail
 refine kH.mono ?_;rintro e w18 ⟨own18,S18,Y18,E18,hor⟩;obtain⟨vk,rfl,k18⟩:∃ vk,e = .returned (.tuple #[vk,.int .i64 0])/\own18 (.e 2) = .row 122 2 vk m.length (zap m):=by
  rcases hor with ⟨hno,-⟩|⟨hd,vo,h1,h2,h3⟩
  ·cases hno
  ·injection h1 with h1
   subst h1;exact⟨vo,h2,h3⟩
 have L18:=L17.withY Y18 (λn h _ h'=>E18 n (h 2) h');have q18:=(E18 (.e 0) (λe=>by cases e) (λ_ e=>by cases e)).trans q17;have r18:=(E18 (.e 1) (λe=>by cases e) (λ_ e=>by cases e)).trans r17;have o18:=(E18 .o (λe=>by cases e) (λ_ e=>by cases e)).trans o17;have hP1:=OwnAt.isPairs (show OwnAt w18 122 2 (.slice ah m.length ch) m.length (zap m) from S18.get q18);have hP2:=OwnAt.isPairs (show OwnAt w18 122 2 vk m.length (zap m) from S18.get k18);have ksm:=zzv _ _ m w18 hP1 hP2 (by have:=(zff m hpk).2.2;omega);have HFIN:Hid (∀ w19,Ext w18 w19->zzbdx w (1+na) (1+nb) (.returned (.pointer (some ⟨w2.heap.size,0,none⟩))) w19):=λw19 he=>⟨w2.heap.size,gx,gy,w11.heap.size,own18,vu,vd,.slice (some ⟨al,ol,none⟩) 1 cl,m,.slice ah m.length ch,rfl,S18.ext he,hpk,L18,q18,r18⟩;have v1:=λ(w19:World) (he:Ext w18 w19)=>zgn ((OwnAt.isBytes (l:=[119,111]) (show OwnAt w18 5 1 (.slice ao 2 co) 2 (zab [119,111]) from S18.get o18)).ext he);obtain⟨ak,ck,hvk,-,-,-⟩:=hP2;subst hvk;clear kH S17 L17 q17 r17 o17 Y18 E18 hor hP1 k18 L18 q18 r18 o18
 go_wp2_with fail
 refine ksm.mono ?_;rintro e w19 ⟨rfl,he19⟩;have v2:=v1 w19 he19;have HF:=hide (HFIN.out w19 he19);clear v1 HFIN S18 ksm he19
 go_wp2
 go_ret
 exact HF.out
set_option maxHeartbeats 1600000 in
theorem zwx(f n s:Nat)(w:World)(hf:f<=1000000)(hn:n<=1000)(hs:s<=65535) :
  Calls Tryz.prog 77 #[.int .i64 (f:Int),.int .i64 (n:Int),.int .i64 (s:Int)] w λe w' => ∃ (l:Bytes) (v:Value),e = .returned v/\l.length=n/\w'.ownsRow w.heap.size 5 1 v l.length (zab l)/\Ext w w':=by
 obtain⟨i0,hi,hz0,hz1,hz2⟩:=zbk Tryz.infoU
 go_enter Tryz.func77,Tryz.ntmps77
 go_wp2
 go_loopw [7,8] (λb i wr => ∃ l:Bytes,l.length<=n/\i = .int .i64 (l.length:Int)/\wr.ownsRow w.heap.size 5 1 b l.length (zab l)/\Ext w wr) (λ_ i _=>n-(intOf i).toNat)
 case atStart=>exact⟨[],Nat.zero_le _,rfl,World.ownsRow_nil _ _ _ _,Ext.refl _⟩
 case round =>
  obtain⟨l,hl,rfl,hown,hE⟩:=hrel;by_cases hlt:l.length<n
  ·have hlt':(l.length:Int)<(n:Int):=by omega
   have hsz:w.heap.size<=wr.heap.size:=hE.size;obtain⟨x,hx⟩:∃ x:UInt8,(x.toNat:Int)=(((f:Int)+(l.length:Int))*7+(s:Int))%256:=⟨UInt8.ofNat ((f+l.length)*7+s),by rw[UInt8.toNat_ofNat'];omega⟩
   go_wp2_with (at_builtin;refine zbw _ rfl (.tmp 14) (.tmp 22) 34 34 rfl w.heap.size 5 i0 (.int .u8 0) 1 1 Tryz.underlying34 hi hz0 hz1 hz2 rfl (by decide) _ _ _ rfl (hown.alloc _) _ 1 [.int .u8 ((((f:Int)+(l.length:Int))*7+(s:Int))%256)] rfl (zhn _ _ Tryz.underlying34 _ rfl) ?_ ?_ ?_ ?_)
   ·unfold maxLen;omega
   ·omega
   ·simp;omega
   intro v1 w1 hown1 hgrew1;have hown2:w1.ownsRow w.heap.size 5 1 v1 (l++[x]).length (zab (l++[x])):=zfi hown1 (by simp) (by rw[zbe,<-hx];rfl);have hE2:Ext w w1:=Ext.trans' (hE.alloc _) hgrew1 (hown.alloc _) (Nat.le_refl _);clear hown1 hgrew1 hown hE hx
   go_wp2
   go_roundw
   case rel=>exact⟨l++[x],by simp;omega,by simp,hown2,hE2⟩
   case measure=>simp[intOf];omega
  ·have hlt':decide ((l.length:Int)<(n:Int))=false:=by simp;omega
   have hln:l.length=n:=by omega
   have HL:=hide hln;clear hln
   go_wp2
   go_ret
   exact⟨l,_,rfl,HL.out,hown,hE⟩
theorem zzbaa(g:Nat)(s:DS)(v:DSV):(zba g s v).setIfInBounds 8 (.bool true)=zba g { s with ends:=true } v:=rfl
def Ds.endeds(d:Ds)(id:Int):Ds:=if d.unwritable (d.find id)=0 then d.endIt (d.find id) else d
theorem zzbcc(d:Ds)(id:Int):(d.endeds id).failed=d.failed/\(d.endeds id).inn=d.inn:=by
 unfold Ds.endeds;split
 ·unfold Ds.endIt Ds.enter;split<;>exact⟨rfl,rfl⟩
 ·exact⟨rfl,rfl⟩
section
variable {N:Type} {own:N->Res} {nm:DN->N} {g:Nat} {d:Ds} {v:DV} {wb w:World}
set_option maxHeartbeats 3200000 in
theorem zzbhm(h:zaa own nm g d v)(hs:Sep wb w own)(hf:d.Fits 1)(id:Int)(h1:-9223372036854775808<=id)(h2:id<=9223372036854775807) :
  Calls Tryz.prog 35 #[.pointer (some ⟨g,0,none⟩),.int .i64 id] w λe w'=>e = .returned (.int .i64 (d.unwritable (d.find id):Int))/\zaf nm g wb own d v w' (d.endeds id):=by
 cases hr:d.real id with
 | none =>
  obtain⟨z,hz,hzz⟩:=zkg d id;obtain⟨W1,hW⟩:∃ W1,w.alloc (.cells (zcl z) 94)=W1:=⟨_,rfl⟩;obtain⟨hE,z2,z8,-⟩:=zmn w z hW;have S1:=hs.ext hE;have k:=zdx h hs h1 h2 hr hz hW;have efind:=zhq hr;rw[hz] at efind;have ku:=zeg h S1 w.heap.size { state:=z } (by show z<=8;rcases hzz with e | e<;>omega) z2 z8;rw[<-efind] at ku;have hne:d.unwritable (d.find id)≠0:=by
   rw[efind];unfold Ds.unwritable;rcases hzz with rfl | rfl
   ·rw[if_pos rfl];omega
   ·rw[if_neg (by show ¬ (8:Nat)=0;omega)];split
    ·omega
    ·show (if zbx 8=true then 7 else _)≠0
     rw[if_pos (by decide)];omega
  have HF:Hid (zaf nm g wb own d v W1 (d.endeds id)):=by
   show zaf nm g wb own d v W1 (d.endeds id)
   unfold Ds.endeds;rw[if_neg hne];exact h.left S1
  have hnb:((d.unwritable (d.find id):Int) != 0)=true:=bne_iff_ne.2 (by omega);generalize d.unwritable (d.find id)=er at *;clear hne efind hr hz hW
  go_enter Tryz.func35,Tryz.ntmps35
  go_wp2_with fail
  refine k.mono ?_;rintro e w1 ⟨rfl,hw⟩;replace hw:=hw.symm;subst hw
  go_wp2_with fail
  refine ku.mono ?_;rintro e w2 ⟨rfl,hw⟩;replace hw:=hw.symm;subst hw
  go_wp2
  go_ret
  exact⟨rfl,HF.out⟩
 | some s =>
  have hst:=zhi h hr;have fs:=hf.st _ _ hst;have k:=zer h hs h1 h2 hr;have efind:=zfe hr;have ku:=zeg h hs (v.ptr s.id) s fs.state (h.s2 hs hst) (h.s8 hs hst);by_cases hu:d.unwritable s=0
  ·have f8:=h.s8 hs hst;have t8:=h.sthaw hs hst 8;rw[hu] at ku;have S6:=hs.setObj (h.st hst) 8 (.bool true);rw[zzbaa] at S6;have H6:=h.scalS (n:=s.id) hst { s with ends:=true } rfl rfl rfl rfl rfl rfl rfl;obtain⟨W6,hW6⟩:∃ W6,w.setCell ⟨v.ptr s.id,8,none⟩ (.bool true)=W6:=⟨_,rfl⟩;rw[hW6] at S6;have E6:=(zai.refl nm own).upd (.st s.id) (.obj (v.ptr s.id) (.cells (zba g { s with ends:=true } (v.sv s.id)) 94 (0,0)));have n6:(d.setS s.id { s with ends:=true }).str s.id=some { s with ends:=true }:=by rw[zaj];exact if_pos rfl
   have FN:=hf.setS s.id { s with ends:=true } { fs with };have ke:=zfu H6 S6 FN (n:=s.id) n6;have HF:Hid (∀ w',zaf nm g wb own d v w' (d.endIt s)->zaf nm g wb own d v w' (d.endeds id)):=λw' hL=>by unfold Ds.endeds;rw[efind,if_pos hu];exact hL
   have HU:Hid (d.unwritable (d.find id)=0):=by
    show _=_
    rw[efind];exact hu
   have HE:=hide E6;clear hu efind hr S6 H6 E6 n6 FN;rw[HU.out]
   go_enter Tryz.func35,Tryz.ntmps35
   go_wp2_with fail
   refine k.mono ?_;rintro e w1 ⟨rfl,hw⟩;replace hw:=hw.symm;subst hw
   go_wp2_with fail
   refine ku.mono ?_;rintro e w2 ⟨rfl,hw⟩;replace hw:=hw.symm;subst hw
   go_wp2_with fail
   refine ke.mono ?_;rintro e w7 ⟨rfl,hL⟩;have HL:=hide (HF.out w7 (hL.trans (own:=own) (d:=d) (v:=v) HE.out rfl (λ_=>rfl) (λk hk=>⟨rfl,zbf _ _ _ k hk⟩)));clear hL
   go_wp2
   go_ret
   exact⟨rfl,HL.out⟩
  ·have HF:Hid (zaf nm g wb own d v w (d.endeds id)):=by
    show zaf nm g wb own d v w (d.endeds id)
    unfold Ds.endeds;rw[efind,if_neg hu];exact h.left hs
   have hnb:((d.unwritable s:Int) != 0)=true:=bne_iff_ne.2 (by omega);rw[efind];generalize d.unwritable s=er at *;clear hu efind hr
   go_enter Tryz.func35,Tryz.ntmps35
   go_wp2_with fail
   refine k.mono ?_;rintro e w1 ⟨rfl,hw⟩;replace hw:=hw.symm;subst hw
   go_wp2_with fail
   refine ku.mono ?_;rintro e w2 ⟨rfl,hw⟩;replace hw:=hw.symm;subst hw
   go_wp2
   go_ret
   exact⟨rfl,HF.out⟩
theorem zzbab(h:zar own nm g d)(hs:Sep wb w own)(hf:d.Fits 1)(id:Int)(h1:-9223372036854775808<=id)(h2:id<=9223372036854775807) :
  Calls Tryz.prog 35 #[.pointer (some ⟨g,0,none⟩),.int .i64 id] w λe w'=>e = .returned (.int .i64 (d.unwritable (d.find id):Int)) /\ ∃ own',Sep wb w' own'/\zar own' nm g (d.endeds id)/\zai nm own own':=by
 obtain⟨v,k1,k2⟩:=h;refine(zzbhm k1 hs hf id h1 h2).mono ?_;rintro e w' ⟨rfl,c⟩;exact⟨rfl,c.endAt k2 (zzbcc d id)⟩
end
end Go.Proofs.YtoijpogadkogcaaGreat
