import Derived.Test.YtoijpogadkogcaaGreatRt
import Derived.Test.YtoijpogadkogcaaGreatRp
import Derived.Test.YtoijpogadkogcaaGreatRq
import Derived.Test.YtoijpogadkogcaaGreatRr
namespace Go.Proofs.YtoijpogadkogcaaGreat
open Go.RowKit
set_option maxRecDepth 100000
def EvN(r:Nat)(d e:Ds):Prop:=d.ev.length<=28320000000+1010000*r/\e.ev.length<=28320000000+1010000*r
theorem ev_b{r:Nat}(h:r<=150):28320000000+1010000*r<=28500000000:=by omega
def AQ(r:Nat)(d e:Ds)(_:List Line)(_:Res):Prop:=EvN r d e/\(1<=r->RS r d e)
def PQ(r k:Nat)(d e:Ds)(ls:List Line)(_:Res):Prop:=EvN r d e/\RP r k d e (ls.map Line.id)
def PX(r k:Nat)(d e:Ds)(ls:List Line)(_:Res):Prop:=EvN r d e/\RP r k d e (ls.map Line.id) /\ ∀ n,(ls.map Line.id)[k]? = some n->un d n=0
def FQ(d e:Ds)(_:List Line)(_:Res):Prop:=FS d e
def zyg(wb:World)(gl:Nat)(lv:Bool)(r m L S:Nat)(w:World):Prop :=
 ∃ own gx gy dx dy vu vd vl down ls xs,Sep wb w own/\zak own gl gx gy dx dy vu vd vl [] down ls.length xs lv/\LS own ls xs/\SB ls S/\1<=ls.length/\TD true dx dy [] down ls 2 m L/\S1 r dx dy down/\(dx.ev.length<=28320000000+1010000*r/\dy.ev.length<=28320000000+1010000*(r+1))
section
variable {wb w:World} {gl:Nat} {lv:Bool} {S:Nat}
theorem a_up{r L:Nat}(h:zbz wb gl lv 2 40000000 L S (AQ r) w)(hL:L<=36000)(hr0:1<=r->L=0)(R:Int)(hR:R=1099511627776) :
  Calls Tryz.prog 13 #[.pointer (some ⟨gl,0,none⟩),.bool true,.int .i64 R,.int .i64 R,.int .i64 R] w λe w'=>e = .returned (.tuple #[])/\zyg wb gl lv r 37000000 L S w':=by
 obtain⟨own,gx,gy,dx,dy,vu,vd,vl,up,down,ls,xs,h1,h2,h3,h4,h5,h6,h7,h8⟩:=h;have H:=h6;have hO:=H.outLen R;obtain⟨o1,-⟩:=H.lk.outE (c:=0) H.od (by omega);have hul:=H.ul;refine(znn h2 h1 R R R (by omega) (by omega) (by omega) (by omega) (by omega) (by omega) o1.out H.od.ck (GoodB 0 50000010) (zmp 0 50000010) (by omega) (TD.goodIn (m:=37000000) (R:=9*(10050+2)+881100) (H.mono (by omega)) R hO)).mono ?_;rintro e w' ⟨rfl,own',v',q1,q2,q3⟩;have T:=TD.carryAll (m:=37000000) (R:=9*(10050+2)+881100) (H.mono (by omega)) R hO R (by omega) (by omega);obtain⟨e1,e2⟩:=zmt dy (up++(dx.out R).2) R (by omega) (by rw[List.length_append];omega);rw[e1,e2] at q2;refine⟨rfl,own',gx,gy,_,_,v',vd,vl,down,ls,xs,q1,q2,h3.alike q3,h4,h5,T,?_,?_,?_⟩
 ·by_cases hr:r=0
  ·subst hr;exact zzbkt hR (H.mono (by omega)) T
  ·have hz:=hr0 (by omega);have eu:up=[]:=List.eq_nil_of_length_eq_zero (by omega);have ed:down=[]:=List.eq_nil_of_length_eq_zero (by have:=H.vl;omega);subst eu ed;exact zzbmf hR (H.mono (by omega)) T (h8 (by omega))
 ·rw[zux];exact h7.1
 ·have k:=zxp dy (up++(dx.out R).2);rw[List.length_append] at k
  have:=H.ei
  have:=h7.2
  omega
theorem zzbmv{r L:Nat}(h:zyg wb gl lv r 37000000 L S w)(hL:L<=36000)(hr:r<150)(R:Int)(hR:R=1099511627776) :
  Calls Tryz.prog 13 #[.pointer (some ⟨gl,0,none⟩),.bool false,.int .i64 R,.int .i64 R,.int .i64 R] w λe w'=>e = .returned (.tuple #[])/\zbz wb gl lv 2 40000000 0 S (PQ (r+1) 0) w':=by
 obtain⟨own,gx,gy,dx,dy,vu,vd,vl,down,ls,xs,h1,h2,h3,h4,h5,h6,h7,h8,h9⟩:=h;have H:=h6.swap;have hO:=H.outLen R;obtain⟨o1,-⟩:=H.lk.outE (c:=0) H.od (by omega);have hul:=H.ul;refine(zku h2 h1 R R R (by omega) (by omega) (by omega) (by omega) (by omega) (by omega) o1.out H.od.ck (GoodB 0 50000010) (zmp 0 50000010) (by omega) (TD.goodIn (m:=34000000) (R:=9*(10050+2)+881100) (H.mono (by omega)) R hO)).mono ?_;rintro e w' ⟨rfl,own',v',q1,q2,q3⟩;have T:=TD.carryAll (m:=34000000) (R:=9*(10050+2)+881100) (H.mono (by omega)) R hO R (by omega) (by omega);obtain⟨e1,e2⟩:=zmt dx (down++(dy.out R).2) R (by omega) (by rw[List.length_append];omega);rw[e1,e2] at q2;have T2:=TD.unswap (c:=true) T;have k:=zxp dx (down++(dy.out R).2);rw[List.length_append] at k
 have:=h6.di
 have hx:(dx.takes (down++(dy.out R).2)).ev.length<=28320000000+1010000*(r+1):=by omega
 have hy:(dy.out R).1.ev.length<=28320000000+1010000*(r+1):=by rw[zux];exact h9
 have T3:=T2.fresh (Nat.le_trans hx (ev_b hr)) (Nat.le_trans hy (ev_b hr));have T4:TD true (dx.takes (down++(dy.out R).2)) (dy.out R).1 [] [] ls 2 40000000 0:=⟨T3.lk,T3.nodup,T3.has,T3.od,T3.oe,T3.di,T3.ei,Nat.le_refl _,Nat.le_refl _,T3.db,T3.eb⟩;exact⟨rfl,own',gx,gy,_,_,vu,v',vl,[],[],ls,xs,q1,q2,h3.alike q3,h4,h5,T4,⟨hx,hy⟩,zzbiz hR (h6.mono (by omega)) T2 h7,λj n hj=>by omega,λj n hj=>by omega⟩
theorem zzbmg{nl r k m:Nat}(h:zcm nl wb gl lv 2 (m+3) 0 S (PQ r k) w)(hS:S<=100000)(hm:10<=m)(hk:k<nl) :
  Calls Tryz.prog 14 #[.pointer (some ⟨gl,0,none⟩),.int .i64 (k:Int),.bool true,.int .i64 ((1000:Nat):Int)] w λe w'=>e = .returned (.bool true)/\zcm nl wb gl lv 2 m 0 S (PX r k) w':=by
 obtain⟨own,gx,gy,dx,dy,vu,vd,vl,up,down,ls,xs,rfl,h1,h2,h3,h4,h5,h6,h7,h8⟩:=h;obtain⟨t,ht⟩:∃ t,ls[k]? = some t:=⟨_,List.getElem?_eq_getElem hk⟩;refine(zxm h2 h1 h3 h4 hS h6 hm (.inr (Nat.le_refl _)) k hk 1000 (Nat.le_refl _)).mono ?_;rintro e w' ⟨rfl,own',ls',xs',d',q1,q2,q3,q4,q5,q6,q7⟩;obtain⟨r1,r2⟩:=zzbja h6 ht q7.2.2;refine⟨rfl,own',gx,gy,d',dy,vu,vd,vl,up,down,ls',xs',q5,q1,q2,q3,q4,by omega,q6,⟨by rw[r1.ev];exact h7.1,h7.2⟩,by rw[r2];exact h8.readX r1,λn hn => ?_⟩;rw[r2,List.getElem?_map,ht] at hn;injection hn with hn
 rw[<-hn];exact r1.zero
theorem zzbmh{nl r k m:Nat}(h:zcm nl wb gl lv 2 (m+3) 0 S (PX r k) w)(hS:S<=100000)(hm:10<=m)(hk:k<nl) :
  Calls Tryz.prog 14 #[.pointer (some ⟨gl,0,none⟩),.int .i64 (k:Int),.bool false,.int .i64 ((1000:Nat):Int)] w λe w'=>e = .returned (.bool true)/\zcm nl wb gl lv 2 m 0 S (PQ r (k+1)) w':=by
 obtain⟨own,gx,gy,dx,dy,vu,vd,vl,up,down,ls,xs,rfl,h1,h2,h3,h4,h5,h6,h7,h8,h9⟩:=h;obtain⟨t,ht⟩:∃ t,ls[k]? = some t:=⟨_,List.getElem?_eq_getElem hk⟩;refine(zxn h2 h1 h3 h4 hS h6.swap hm (.inr (Nat.le_refl _)) k hk 1000 (Nat.le_refl _)).mono ?_;rintro e w' ⟨rfl,own',ls',xs',d',q1,q2,q3,q4,q5,q6,q7⟩;obtain⟨r1,r2⟩:=zzbja h6.swap ht q7.2.2;have hk2:(ls.map Line.id)[k]? = some t.id:=by rw[List.getElem?_map,ht];rfl
 exact⟨rfl,own',gx,gy,dx,d',vu,vd,vl,up,down,ls',xs',q5,q1,q2,q3,q4,by omega,(TD.unswap (c:=true) q6),⟨h7.1,by rw[r1.ev];exact h7.2⟩,by rw[r2];exact(h8.readY r1).next hk2 (h9 t.id hk2) r1.zero⟩
theorem zzbmi{nl r m:Nat}(h:zcm nl wb gl lv 2 m 0 S (PQ r nl) w)(hr:r<=150):zbz wb gl lv 2 40000000 0 S (AQ r) w:=by obtain⟨own,gx,gy,dx,dy,vu,vd,vl,up,down,ls,xs,rfl,h1,h2,h3,h4,h5,h6,h7,h8⟩:=h;have eu:up=[]:=List.eq_nil_of_length_eq_zero (Nat.le_zero.1 h6.ul);have ed:down=[]:=List.eq_nil_of_length_eq_zero (Nat.le_zero.1 h6.vl);subst eu ed;exact⟨own,gx,gy,dx,dy,vu,vd,vl,[],[],ls,xs,h1,h2,h3,h4,h5,h6.fresh (Nat.le_trans h7.1 (ev_b hr)) (Nat.le_trans h7.2 (ev_b hr)),h7,λ_=>RP.rest h6 h8⟩
theorem zzbmj{m L:Nat}(h:zbz wb gl lv 2 m L S zkb w)(hm:40400000<=m):zbz wb gl lv 2 40000000 L S (AQ 0) w:=by obtain⟨own,gx,gy,dx,dy,vu,vd,vl,up,down,ls,xs,h1,h2,h3,h4,h5,h6,-⟩:=h;have a:=h6.od.fits.ev;have b:=h6.oe.fits.ev;exact⟨own,gx,gy,dx,dy,vu,vd,vl,up,down,ls,xs,h1,h2,h3,h4,h5,h6.mono (by omega),⟨by omega,by omega⟩,λq=>by omega⟩
theorem a_fin{L r:Nat}(h:zbz wb gl lv 2 40000000 0 S (AQ r) w)(hr:65<=r)(hL:L=0):zbz wb gl lv 2 40000000 L S FQ w:=by subst hL;obtain⟨own,gx,gy,dx,dy,vu,vd,vl,up,down,ls,xs,h1,h2,h3,h4,h5,h6,h7,h8⟩:=h;have eu:up=[]:=List.eq_nil_of_length_eq_zero (Nat.le_zero.1 h6.ul);have ed:down=[]:=List.eq_nil_of_length_eq_zero (Nat.le_zero.1 h6.vl);subst eu ed;exact⟨own,gx,gy,dx,dy,vu,vd,vl,[],[],ls,xs,h1,h2,h3,h4,h5,h6,RS.fin h6 (h8 (by omega)) hr⟩
def zhm(wb:World)(gl:Nat)(lv:Bool)(gx gy:Nat)(vu vd vl:Value)(ls:List Line)(xs:List Value)(S m:Nat)(w:World):Prop :=
 ∃ own dx dy,Sep wb w own/\zak own gl gx gy dx dy vu vd vl [] [] ls.length xs lv/\LS own ls xs/\SB ls S/\1<=ls.length/\TD true dx dy [] [] ls 2 m 0/\FS dx dy
theorem zhm.ext{gx gy:Nat}{vu vd vl:Value}{ls:List Line}{xs:List Value}{m:Nat}{w':World}(h:zhm wb gl lv gx gy vu vd vl ls xs S m w)(e:Ext w w'):zhm wb gl lv gx gy vu vd vl ls xs S m w':=by obtain⟨own,dx,dy,h1,h2⟩:=h;exact⟨own,dx,dy,h1.ext e,h2⟩
theorem zhm.hold{gx gy:Nat}{vu vd vl:Value}{ls:List Line}{xs:List Value}{m:Nat}(h:zhm wb gl lv gx gy vu vd vl ls xs S m w):zcm ls.length wb gl lv 2 m 0 S FQ w:=by obtain⟨own,dx,dy,h1,h2,h3,h4,h5,h6,h7⟩:=h;exact⟨own,gx,gy,dx,dy,vu,vd,vl,[],[],ls,xs,rfl,h1,h2,h3,h4,h5,h6,h7⟩
theorem zzbmk{nl m:Nat}(h:zcm nl wb gl lv 2 m 0 S FQ w):∃ gx gy vu vd al ol cl ls xs,ls.length=nl/\zhm wb gl lv gx gy vu vd (.slice (some ⟨al,ol,none⟩) ls.length cl) ls xs S m w:=by obtain⟨own,gx,gy,dx,dy,vu,vd,vl,up,down,ls,xs,h0,h1,h2,h3,h4,h5,h6,h7⟩:=h;have eu:up=[]:=List.eq_nil_of_length_eq_zero (Nat.le_zero.1 h6.ul);have ed:down=[]:=List.eq_nil_of_length_eq_zero (Nat.le_zero.1 h6.vl);subst eu ed;obtain⟨al,ol,cl,hv,-⟩:=h2.linesV h1 (by omega);subst hv;exact⟨gx,gy,vu,vd,al,ol,cl,ls,xs,h0,own,dx,dy,h1,h2,h3,h4,h5,h6,h7⟩
theorem zhm.cells{gx gy:Nat}{vu vd:Value}{al ol cl:Nat}{ls:List Line}{xs:List Value}{m:Nat}(h:zhm wb gl lv gx gy vu vd (.slice (some ⟨al,ol,none⟩) ls.length cl) ls xs S m w){k:Nat}{t:Line}(hk:ls[k]? = some t)(c:Bool) :
  w.cell? ⟨gl,0,none⟩=some (.pointer (some ⟨gx,0,none⟩))/\w.cell? ⟨gl,1,none⟩=some (.pointer (some ⟨gy,0,none⟩))/\w.cell? ⟨gl,4,none⟩=some (.slice (some ⟨al,ol,none⟩) ls.length cl)/\w.cell? ⟨al,ol+k*10,none⟩=some (.int .i64 (t.id:Int)) /\
  w.cell? ⟨al,ol+k*10+wi c+1,none⟩=some (.int .i64 ((t.inn c).read:Int))/\w.cell? ⟨al,ol+k*10+wi c+2,none⟩=some (.bool (t.inn c).ended) /\ ∃ a cap,w.cell? ⟨al,ol+k*10+wi c,none⟩=some (.slice a (t.inn c).sent.length cap):=by
 obtain⟨own,dx,dy,h1,h2,h3,-⟩:=h;have hlt:k<ls.length:=(List.getElem?_eq_some_iff.1 hk).1;obtain⟨vc,vs,vh,hx,s1,s2,-⟩:=h3.at_ k t hk;have cell:∀ j u,j<10->xs[10*k+j]? = some u->w.cell? ⟨al,ol+k*10+j,none⟩=some u:=λj u hj hxj=>by
  obtain⟨r1,r2⟩:=h2.line h1 (10*k+j) (by omega);rw[hxj] at r1;have e3:ol+k*10+j=ol+(10*k+j):=by omega
  rw[e3];exact r1
 refine⟨h2.cc h1 0,h2.cc h1 1,h2.cc h1 4,cell 0 _ (by omega) (hx 0 (by omega)),?_,?_,?_⟩
 ·cases c
  ·exact cell 3 _ (by omega) (hx 3 (by omega))
  ·exact cell 6 _ (by omega) (hx 6 (by omega))
 ·cases c
  ·exact cell 4 _ (by omega) (hx 4 (by omega))
  ·exact cell 7 _ (by omega) (hx 7 (by omega))
 ·cases c
  ·obtain⟨a,cap,e,-⟩:=s1.isBytes h1;refine⟨a,cap,?_⟩
   show _=some (Value.slice a t.client.sent.length cap)
   rw[<-e];exact cell 2 _ (by omega) (hx 2 (by omega))
  ·obtain⟨a,cap,e,-⟩:=s2.isBytes h1;refine⟨a,cap,?_⟩
   show _=some (Value.slice a t.server.sent.length cap)
   rw[<-e];exact cell 5 _ (by omega) (hx 5 (by omega))
theorem zhm.read{gx gy:Nat}{vu vd vl:Value}{ls:List Line}{xs:List Value}{m:Nat}(h:zhm wb gl lv gx gy vu vd vl ls xs S m w){k:Nat}{t:Line}(ht:ls[k]? = some t)(c:Bool):(t.inn c).read=(t.inn c).sent.length/\1<=t.id/\t.id<=99:=by
 obtain⟨own,dx,dy,h1,h2,h3,h4,h5,h6,h7⟩:=h;have hid:=h6.line ht;refine⟨?_,hid.1,hid.2.1⟩;cases c
 ·exact(zog (c:=false) h6.swap h7.iy h7.ix h7.px h7.uy h7.tx ht).1
 ·exact(zog h6 h7.ix h7.iy h7.py h7.ux h7.ty ht).1
theorem zzbmw{gx gy:Nat}{vu vd vl:Value}{ls:List Line}{xs:List Value}{k m:Nat}{t:Line}(c:Bool)(h:zhm wb gl lv gx gy vu vd vl ls xs S (m+3) w)(ht:ls[k]? = some t)(hm:10<=m) :
  Calls Tryz.prog 17 #[.pointer (some ⟨if c then gx else gy,0,none⟩),.int .i64 (t.id:Int),.int .i64 1] w λe w' => ∃ (a:Option Addr) (cap:Nat),e = .returned (.tuple #[.slice a 0 cap,.int .i64 ((if (t.inn c).ended=true then 8 else 0:Nat):Int)])/\zhm wb gl lv gx gy vu vd vl ls xs S m w':=by
 obtain⟨own,dx,dy,h1,h2,h3,h4,h5,h6,h7⟩:=h;have s0:=h1.drop .o;have l0:zak (upd own .o .none) gl gx gy dx dy vu vd vl [] [] ls.length xs lv:=h2.alike (λn _ hn=>zac _ _ hn);have e0:∀ i,upd own .o .none (.e i)=own (.e i):=λi=>zac _ _ (λe=>by cases e)
 have hid:=h6.line ht;cases c
 ·obtain⟨f1,f2,f3⟩:=zog (c:=false) h6.swap h7.iy h7.ix h7.px h7.uy h7.tx ht;refine(zjm l0.ey s0 (h6.oe.fits.mono (by omega)) (t.id:Int) 1 (by omega) (by omega) (by omega) .o (λ_ e=>by cases e) (zag _ _ _)).mono ?_;rintro e w' ⟨vo,own',S',E',hor⟩;have ee:∀ i,own' (.e i)=own (.e i):=λi=>(E' _ (λe=>by cases e) (λ_ e=>by cases e)).trans (e0 i)
  rcases hor with ⟨g0,rfl,X',-⟩|⟨g0,rfl,X',O'⟩
  ·exact⟨none,0,by rw[f2],own',dx,dy,S',l0.withY X' (λn _ a2 a3=>E' n a2 a3),h3.alike ee,h4,h5,h6.mono (by omega),h7⟩
  ·rw[f3] at X' O';obtain⟨T0,R0⟩:=TD.read0 (c:=false) (m:=m) h6.swap ht g0 f3;obtain⟨a,cap,rfl,-⟩:=OwnAt.slice (S'.get O');exact⟨a,cap,by rw[<-f2,g0];rfl,own',dx,_,S',l0.withY X' (λn _ a2 a3=>E' n a2 a3),h3.alike ee,h4,h5,TD.unswap (c:=true) T0,h7.readY R0⟩
 ·obtain⟨f1,f2,f3⟩:=zog h6 h7.ix h7.iy h7.py h7.ux h7.ty ht;refine(zjm l0.ex s0 (h6.od.fits.mono (by omega)) (t.id:Int) 1 (by omega) (by omega) (by omega) .o (λ_ e=>by cases e) (zag _ _ _)).mono ?_;rintro e w' ⟨vo,own',S',E',hor⟩;have ee:∀ i,own' (.e i)=own (.e i):=λi=>(E' _ (λe=>by cases e) (λ_ e=>by cases e)).trans (e0 i)
  rcases hor with ⟨g0,rfl,X',-⟩|⟨g0,rfl,X',O'⟩
  ·exact⟨none,0,by rw[f2],own',dx,dy,S',l0.withX X' (λn _ a2 a3=>E' n a2 a3),h3.alike ee,h4,h5,h6.mono (by omega),h7⟩
  ·rw[f3] at X' O';obtain⟨T0,R0⟩:=TD.read0 (m:=m) h6 ht g0 f3;obtain⟨a,cap,rfl,-⟩:=OwnAt.slice (S'.get O');exact⟨a,cap,by rw[<-f2,g0];rfl,own',_,dy,S',l0.withX X' (λn _ a2 a3=>E' n a2 a3),h3.alike ee,h4,h5,T0,h7.readX R0⟩
end
end Go.Proofs.YtoijpogadkogcaaGreat
