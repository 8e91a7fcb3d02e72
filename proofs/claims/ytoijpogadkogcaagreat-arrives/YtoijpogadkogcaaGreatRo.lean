import Derived.Test.YtoijpogadkogcaaGreatRm
import Derived.Test.YtoijpogadkogcaaGreatRn
import Derived.Test.YtoijpogadkogcaaGreatRa
namespace Go.Proofs.YtoijpogadkogcaaGreat
open Go.RowKit
set_option maxRecDepth 100000
section
variable {own:LN->Res} {gl gx gy:Nat} {dx dy:Ds} {vu vd vl:Value} {up down:Bytes} {ls:List Line} {xs:List Value} {lv:Bool} {wb w:World} {p m L S:Nat}
def ROpx(wb:World)(gl gx gy:Nat)(dx dy:Ds)(vu vd:Value)(up down:Bytes)(lv:Bool)(own:LN->Res)(ls:List Line)(p m L S:Nat)(e:Ending)(w':World):Prop :=
 e = .returned (.tuple #[]) /\ ∃ own' vl ls' xs' d',Sep wb w' own'/\zak own' gl gx gy d' dy vu vd vl up down ls'.length xs' lv/\LS own' ls' xs'/\SB ls' S/\1<=ls'.length/\TD true d' dy up down ls' p m L/\zcr true dx ls d' ls'/\own' (.e 1000)=own (.e 1000)
set_option maxHeartbeats 6400000 in
theorem zzbio(h:zak own gl gx gy dx dy vu vd vl up down ls.length xs lv)(hs:Sep wb w own)(hl:LS own ls xs)(hsb:SB ls S)(h1l:1<=ls.length)(H:TD true dx dy up down ls p (m+2) L)(hm:5<=m)(cc:Int)(hc1:-9223372036854775808<=cc)(hc2:cc<=9223372036854775807) :
  Calls Tryz.prog 33 #[.pointer (some ⟨gl,0,none⟩),.bool true,.int .i64 cc] w (ROpx wb gl gx gy dx dy vu vd up down lv own ls p m L S):=by
 obtain⟨i0,hi0,hz0,hz1,hz2⟩:=zbk Tryz.infoLine;obtain⟨hnew,hll⟩:=H.newStr;obtain⟨al,ol,cl,hvl,hcl⟩:=h.linesV hs (by omega);subst hvl;have kh:=zmd cc w hc1 hc2
 go_enter Tryz.func33,Tryz.ntmps33
 go_wp2_with fail
 refine kh.mono ?_;rintro e w5 ⟨hd,vh,rfl,hpk,how,he5⟩;have hP:=zbq.ofOwns how;have S5:=hs.add (.e (3*ls.length)) he5 (OwnAt.ofOwns how) (zie how);have L5:zak (upd own (.e (3*ls.length)) (.row 122 2 vh hd.length (zap hd))) gl gx gy dx dy vu vd (.slice (some ⟨al,ol,none⟩) ls.length cl) up down ls.length xs lv:=h.alike (λn h _=>zac _ _ (h _));have q5:upd own (.e (3*ls.length)) (.row 122 2 vh hd.length (zap hd)) (.e (3*ls.length)) = .row 122 2 vh hd.length (zap hd):=zag _ _ _;have e5:∀ i,i≠3*ls.length->upd own (.e (3*ls.length)) (.row 122 2 vh hd.length (zap hd)) (.e i)=own (.e i):=λi hi=>zac _ _ (λe=>hi (by injection e))
 obtain⟨own5,hown5⟩:∃ own5,upd own (.e (3*ls.length)) (.row 122 2 vh hd.length (zap hd))=own5:=⟨_,rfl⟩;rw[hown5] at S5 L5 q5 e5;have kO:=zps L5.ex S5 (H.od.fits.mono (by omega)) hnew vh hd hP (znj hd hpk);have g0:w5.cell? ⟨gl,0,none⟩=some (.pointer (some ⟨gx,0,none⟩)):=L5.cc S5 0;have g1:w5.cell? ⟨gl,1,none⟩=some (.pointer (some ⟨gy,0,none⟩)):=L5.cc S5 1;have ke:Calls Tryz.prog 16 #[.pointer (some ⟨gl,0,none⟩),.bool true] w5 λe w'=>e = .returned (.pointer (some ⟨gx,0,none⟩))/\w'=w5:=zdl true w5 g0 g1;obtain⟨ah,ch,hvh,-,-,-⟩:=hP;subst hvh;clear hown5 how he5 kh hs h
 go_wp2_with fail
 refine ke.mono ?_;rintro e w0 ⟨rfl,hw⟩;replace hw:=hw.symm;subst hw
 go_wp2_with fail
 refine kO.mono ?_;rintro e w6 ⟨own6,S6,E6,hor⟩;have e6:∀ i,own6 (.e i)=own5 (.e i):=λi=>E6 (.e i) (λx e=>by cases e)
 rcases hor with ⟨ho,rfl,X6⟩|⟨hno,rfl,X6⟩
 ·have L6:=L5.withX X6 (λn _ _ h=>E6 n h);obtain⟨T6,n1,n2,n3,n4,n5⟩:=H.opened hd hpk ho;have K6:=zcr.opened H hd n3 n5 n4;clear n4 n5;have hby:(dx.next%2 == 1)=true:=by
   unfold ownB at n3;simpa using n3
  generalize hnx:dx.next=nx at *;obtain⟨W7,hW7⟩:∃ W7,w6.alloc (.cells #[.int .i64 (nx:Int),.bool true,.slice none 0 0,.int .i64 0,.bool false,.slice none 0 0,.int .i64 0,.bool false,.bool false,.slice ah hd.length ch] 45 (0,0))=W7:=⟨_,rfl⟩;have S7:Sep wb W7 own6:=by rw[<-hW7];exact S6.ext ((Ext.refl w6).alloc _)
  have hsrc:=zso (P:=Tryz.prog) w6 45 Tryz.underlying35 (nx:Int) true ah hd.length ch;rw[hW7] at hsrc;have c4:w6.cell? ⟨gl,4,none⟩=some (.slice (some ⟨al,ol,none⟩) ls.length cl):=L6.cc S6 4;have hrow7:OwnAt W7 45 10 (.slice (some ⟨al,ol,none⟩) ls.length cl) ls.length xs:=S7.get L6.nl;have HST:Hid (∀ (v3:Value) (w3:World),OwnAt w3 45 10 v3 (ls.length+1) (xs++zdb (nx:Int) true (.slice none 0 0) 0 false (.slice none 0 0) 0 false false (.slice ah hd.length ch))->zau W7 (.slice (some ⟨al,ol,none⟩) ls.length cl) w3 v3->(w3.cell? ⟨gl,4,none⟩=some (.slice (some ⟨al,ol,none⟩) ls.length cl)/\w3.frozen? ⟨gl,4,none⟩=false)/\ROpx wb gl gx gy dx dy vu vd up down lv own ls p m L S (.returned (.tuple #[])) (w3.setCell ⟨gl,4,none⟩ v3)):=λv3 w3 hO3 hG3=>by
   have S3:=S7.grew L6.nl hG3 hO3;have lk3:=(zac own6 (.row 45 10 v3 (ls.length+1) (xs++zdb (nx:Int) true (.slice none 0 0) 0 false (.slice none 0 0) 0 false false (.slice ah hd.length ch))) (show LN.link ≠ .lines from λe=>by cases e)).trans L6.lk;refine⟨⟨S3.cell lk3 4,S3.thaw lk3 4⟩,rfl,?_⟩;have S4:=S3.setObj lk3 4 v3;have S5':=(S4.nilRow (.e (3*ls.length+1)) 5 1).nilRow (.e (3*ls.length+2)) 5 1;refine⟨_,v3,ls++[{ id:=nx,h:=hd }],_,dx.opened hd,S5',⟨?_,?_,?_,?_,?_,?_⟩,hl.add { id:=nx,h:=hd } (.slice none 0 0) (.slice none 0 0) (.slice ah hd.length ch) (λi hi => ?_) (λi hi => ?_) (.inl ?_) (.inl ?_) ?_,?_,by simp,T6,K6,?_⟩
   ·exact(((L6.ex.updO (λ_ e=>by cases e) _).updO (λ_ e=>by cases e) _).updO (λ_ e=>by cases e) _).updO (λ_ e=>by cases e) _
   ·exact(((L6.ey.updO (λ_ e=>by cases e) _).updO (λ_ e=>by cases e) _).updO (λ_ e=>by cases e) _).updO (λ_ e=>by cases e) _
   ·rw[zac _ _ (λe=>by cases e),zac _ _ (λe=>by cases e),zag];rfl
   ·rw[zac _ _ (λe=>by cases e),zac _ _ (λe=>by cases e),zac _ _ (λe=>by cases e),zac _ _ (λe=>by cases e)];exact L6.nu
   ·rw[zac _ _ (λe=>by cases e),zac _ _ (λe=>by cases e),zac _ _ (λe=>by cases e),zac _ _ (λe=>by cases e)];exact L6.nd
   ·rw[zac _ _ (λe=>by cases e),zac _ _ (λe=>by cases e),zac _ _ (λe=>by cases e),zag];have eb:zdb (nx:Int) true (.slice none 0 0) 0 false (.slice none 0 0) 0 false false (.slice ah hd.length ch)=zik { id:=nx,h:=hd } (.slice none 0 0) (.slice none 0 0) (.slice ah hd.length ch):=by
     show _=zdb (nx:Int) (nx%2 == 1) _ _ _ _ _ _ _ _
     rw[hby];rfl
    rw[eb,List.length_append];rfl
   ·rw[zac _ _ (λe=>by injection e with e;omega),zac _ _ (λe=>by injection e with e;omega),zac _ _ (λe=>by cases e),zac _ _ (λe=>by cases e),e6,e5 i (by omega)]
   ·rw[zac _ _ (λe=>by injection e with e;omega),zac _ _ (λe=>by injection e with e;omega),zac _ _ (λe=>by cases e),zac _ _ (λe=>by cases e),e6,e5 i (by omega)]
   ·rw[zac _ _ (λe=>by injection e with e;omega),zag];rfl
   ·rw[zag];rfl
   ·rw[zac _ _ (λe=>by injection e with e;omega),zac _ _ (λe=>by injection e with e;omega),zac _ _ (λe=>by cases e),zac _ _ (λe=>by cases e),e6];exact q5
   ·intro t ht;rcases List.mem_append.1 ht with ht | ht
    ·exact hsb t ht
    ·rw[List.mem_singleton.1 ht];exact⟨Nat.zero_le _,Nat.zero_le _⟩
   ·rw[zac _ _ (λe=>by injection e with e;omega),zac _ _ (λe=>by injection e with e;omega),zac _ _ (λe=>by cases e),zac _ _ (λe=>by cases e),e6,e5 1000 (by omega)]
  clear hnx T6 K6 X6 L5 q5 e5 e6 L6 S6 S7 E6 kO ke S5 g0 g1 ho hby n3 hnew
  go_wp2_with (at_builtin;refine zbh _ rfl (.tmp 25) (.tmp 30) 35 35 rfl 45 i0 (.agg #[.int .i64 0,.bool false,.slice none 0 0,.int .i64 0,.bool false,.slice none 0 0,.int .i64 0,.bool false,.bool false,.slice none 0 0]) 10 128 Tryz.underlying35 hi0 hz0 hz1 hz2 rfl _ _ _ rfl hrow7 _ _ _ rfl hsrc ?_ ?_ ?_)
  ·unfold maxLen;omega
  ·omega
  intro v8 w8 hO8 hG8;obtain⟨⟨c4',t4'⟩,hfin⟩:=HST.out v8 w8 hO8 hG8;obtain⟨al8,ol8,cl8,hvl8,-,-,-⟩:=hO8.at (by omega);subst hvl8;have HF:=hide hfin;clear hO8 hG8 hsrc HST hW7 c4 hfin hrow7
  go_wp2
  go_end0
  exact HF.out
 ·have L6:=L5.withX X6 (λn _ _ h=>E6 n h);have HF:Hid (ROpx wb gl gx gy dx dy vu vd up down lv own ls p m L S (.returned (.tuple #[])) w6):=by
   refine⟨rfl,upd own6 (.e (3*ls.length)) .none,_,ls,xs,dx,S6.drop _,L6.alike (λn h _=>zac _ _ (h _)),?_,hsb,h1l,H.mono (by omega),zcr.refl _ _ _,by rw[zac _ _ (λx=>by injection x with x;omega),e6,e5 1000 (by omega)]⟩;refine hl.alike (λi => ?_);by_cases e:i=3*ls.length
   ·rw[e,zag];exact(hl.free _ (Nat.le_refl _) (by omega)).symm
   ·rw[zac _ _ (λx=>e (by injection x)),e6,e5 i e]
  have hne:((dx.open? hd:Int) == 0)=false:=by rw[beq_eq_false_iff_ne];omega
  generalize dx.open? hd=er at *;clear hno X6 L5 q5 e5 e6 L6 S6 E6 kO ke S5 g0 g1 hnew
  go_wp2
  go_end0
  exact HF.out
def ROpy(wb:World)(gl gx gy:Nat)(dx dy:Ds)(vu vd:Value)(up down:Bytes)(lv:Bool)(own:LN->Res)(ls:List Line)(p m L S:Nat)(e:Ending)(w':World):Prop :=
 e = .returned (.tuple #[]) /\ ∃ own' vl ls' xs' d',Sep wb w' own'/\zak own' gl gx gy dx d' vu vd vl up down ls'.length xs' lv/\LS own' ls' xs'/\SB ls' S/\1<=ls'.length/\TD false d' dx down up ls' p m L/\zcr false dy ls d' ls'/\own' (.e 1000)=own (.e 1000)
set_option maxHeartbeats 6400000 in
theorem zzbip(h:zak own gl gx gy dx dy vu vd vl up down ls.length xs lv)(hs:Sep wb w own)(hl:LS own ls xs)(hsb:SB ls S)(h1l:1<=ls.length)(H:TD false dy dx down up ls p (m+2) L)(hm:5<=m)(cc:Int)(hc1:-9223372036854775808<=cc)(hc2:cc<=9223372036854775807) :
  Calls Tryz.prog 33 #[.pointer (some ⟨gl,0,none⟩),.bool false,.int .i64 cc] w (ROpy wb gl gx gy dx dy vu vd up down lv own ls p m L S):=by
 obtain⟨i0,hi0,hz0,hz1,hz2⟩:=zbk Tryz.infoLine;obtain⟨hnew,hll⟩:=H.newStr;obtain⟨al,ol,cl,hvl,hcl⟩:=h.linesV hs (by omega);subst hvl;have kh:=zmd cc w hc1 hc2
 go_enter Tryz.func33,Tryz.ntmps33
 go_wp2_with fail
 refine kh.mono ?_;rintro e w5 ⟨hd,vh,rfl,hpk,how,he5⟩;have hP:=zbq.ofOwns how;have S5:=hs.add (.e (3*ls.length)) he5 (OwnAt.ofOwns how) (zie how);have L5:zak (upd own (.e (3*ls.length)) (.row 122 2 vh hd.length (zap hd))) gl gx gy dx dy vu vd (.slice (some ⟨al,ol,none⟩) ls.length cl) up down ls.length xs lv:=h.alike (λn h _=>zac _ _ (h _));have q5:upd own (.e (3*ls.length)) (.row 122 2 vh hd.length (zap hd)) (.e (3*ls.length)) = .row 122 2 vh hd.length (zap hd):=zag _ _ _;have e5:∀ i,i≠3*ls.length->upd own (.e (3*ls.length)) (.row 122 2 vh hd.length (zap hd)) (.e i)=own (.e i):=λi hi=>zac _ _ (λe=>hi (by injection e))
 obtain⟨own5,hown5⟩:∃ own5,upd own (.e (3*ls.length)) (.row 122 2 vh hd.length (zap hd))=own5:=⟨_,rfl⟩;rw[hown5] at S5 L5 q5 e5;have kO:=zps L5.ey S5 (H.od.fits.mono (by omega)) hnew vh hd hP (znj hd hpk);have g0:w5.cell? ⟨gl,0,none⟩=some (.pointer (some ⟨gx,0,none⟩)):=L5.cc S5 0;have g1:w5.cell? ⟨gl,1,none⟩=some (.pointer (some ⟨gy,0,none⟩)):=L5.cc S5 1;have ke:Calls Tryz.prog 16 #[.pointer (some ⟨gl,0,none⟩),.bool false] w5 λe w'=>e = .returned (.pointer (some ⟨gy,0,none⟩))/\w'=w5:=zdl false w5 g0 g1;obtain⟨ah,ch,hvh,-,-,-⟩:=hP;subst hvh;clear hown5 how he5 kh hs h
 go_wp2_with fail
 refine ke.mono ?_;rintro e w0 ⟨rfl,hw⟩;replace hw:=hw.symm;subst hw
 go_wp2_with fail
 refine kO.mono ?_;rintro e w6 ⟨own6,S6,E6,hor⟩;have e6:∀ i,own6 (.e i)=own5 (.e i):=λi=>E6 (.e i) (λx e=>by cases e)
 rcases hor with ⟨ho,rfl,X6⟩|⟨hno,rfl,X6⟩
 ·have L6:=L5.withY X6 (λn _ _ h=>E6 n h);obtain⟨T6,n1,n2,n3,n4,n5⟩:=H.opened hd hpk ho;have K6:=zcr.opened H hd n3 n5 n4;clear n4 n5;have hby:(dy.next%2 == 1)=false:=by
   unfold ownB at n3;simpa using n3
  generalize hnx:dy.next=nx at *;obtain⟨W7,hW7⟩:∃ W7,w6.alloc (.cells #[.int .i64 (nx:Int),.bool false,.slice none 0 0,.int .i64 0,.bool false,.slice none 0 0,.int .i64 0,.bool false,.bool false,.slice ah hd.length ch] 45 (0,0))=W7:=⟨_,rfl⟩;have S7:Sep wb W7 own6:=by rw[<-hW7];exact S6.ext ((Ext.refl w6).alloc _)
  have hsrc:=zso (P:=Tryz.prog) w6 45 Tryz.underlying35 (nx:Int) false ah hd.length ch;rw[hW7] at hsrc;have c4:w6.cell? ⟨gl,4,none⟩=some (.slice (some ⟨al,ol,none⟩) ls.length cl):=L6.cc S6 4;have hrow7:OwnAt W7 45 10 (.slice (some ⟨al,ol,none⟩) ls.length cl) ls.length xs:=S7.get L6.nl;have HST:Hid (∀ (v3:Value) (w3:World),OwnAt w3 45 10 v3 (ls.length+1) (xs++zdb (nx:Int) false (.slice none 0 0) 0 false (.slice none 0 0) 0 false false (.slice ah hd.length ch))->zau W7 (.slice (some ⟨al,ol,none⟩) ls.length cl) w3 v3->(w3.cell? ⟨gl,4,none⟩=some (.slice (some ⟨al,ol,none⟩) ls.length cl)/\w3.frozen? ⟨gl,4,none⟩=false)/\ROpy wb gl gx gy dx dy vu vd up down lv own ls p m L S (.returned (.tuple #[])) (w3.setCell ⟨gl,4,none⟩ v3)):=λv3 w3 hO3 hG3=>by
   have S3:=S7.grew L6.nl hG3 hO3;have lk3:=(zac own6 (.row 45 10 v3 (ls.length+1) (xs++zdb (nx:Int) false (.slice none 0 0) 0 false (.slice none 0 0) 0 false false (.slice ah hd.length ch))) (show LN.link ≠ .lines from λe=>by cases e)).trans L6.lk;refine⟨⟨S3.cell lk3 4,S3.thaw lk3 4⟩,rfl,?_⟩;have S4:=S3.setObj lk3 4 v3;have S5':=(S4.nilRow (.e (3*ls.length+1)) 5 1).nilRow (.e (3*ls.length+2)) 5 1;refine⟨_,v3,ls++[{ id:=nx,h:=hd }],_,dy.opened hd,S5',⟨?_,?_,?_,?_,?_,?_⟩,hl.add { id:=nx,h:=hd } (.slice none 0 0) (.slice none 0 0) (.slice ah hd.length ch) (λi hi => ?_) (λi hi => ?_) (.inl ?_) (.inl ?_) ?_,?_,by simp,T6,K6,?_⟩
   ·exact(((L6.ex.updO (λ_ e=>by cases e) _).updO (λ_ e=>by cases e) _).updO (λ_ e=>by cases e) _).updO (λ_ e=>by cases e) _
   ·exact(((L6.ey.updO (λ_ e=>by cases e) _).updO (λ_ e=>by cases e) _).updO (λ_ e=>by cases e) _).updO (λ_ e=>by cases e) _
   ·rw[zac _ _ (λe=>by cases e),zac _ _ (λe=>by cases e),zag];rfl
   ·rw[zac _ _ (λe=>by cases e),zac _ _ (λe=>by cases e),zac _ _ (λe=>by cases e),zac _ _ (λe=>by cases e)];exact L6.nu
   ·rw[zac _ _ (λe=>by cases e),zac _ _ (λe=>by cases e),zac _ _ (λe=>by cases e),zac _ _ (λe=>by cases e)];exact L6.nd
   ·rw[zac _ _ (λe=>by cases e),zac _ _ (λe=>by cases e),zac _ _ (λe=>by cases e),zag];have eb:zdb (nx:Int) false (.slice none 0 0) 0 false (.slice none 0 0) 0 false false (.slice ah hd.length ch)=zik { id:=nx,h:=hd } (.slice none 0 0) (.slice none 0 0) (.slice ah hd.length ch):=by
     show _=zdb (nx:Int) (nx%2 == 1) _ _ _ _ _ _ _ _
     rw[hby];rfl
    rw[eb,List.length_append];rfl
   ·rw[zac _ _ (λe=>by injection e with e;omega),zac _ _ (λe=>by injection e with e;omega),zac _ _ (λe=>by cases e),zac _ _ (λe=>by cases e),e6,e5 i (by omega)]
   ·rw[zac _ _ (λe=>by injection e with e;omega),zac _ _ (λe=>by injection e with e;omega),zac _ _ (λe=>by cases e),zac _ _ (λe=>by cases e),e6,e5 i (by omega)]
   ·rw[zac _ _ (λe=>by injection e with e;omega),zag];rfl
   ·rw[zag];rfl
   ·rw[zac _ _ (λe=>by injection e with e;omega),zac _ _ (λe=>by injection e with e;omega),zac _ _ (λe=>by cases e),zac _ _ (λe=>by cases e),e6];exact q5
   ·intro t ht;rcases List.mem_append.1 ht with ht | ht
    ·exact hsb t ht
    ·rw[List.mem_singleton.1 ht];exact⟨Nat.zero_le _,Nat.zero_le _⟩
   ·rw[zac _ _ (λe=>by injection e with e;omega),zac _ _ (λe=>by injection e with e;omega),zac _ _ (λe=>by cases e),zac _ _ (λe=>by cases e),e6,e5 1000 (by omega)]
  clear hnx T6 K6 X6 L5 q5 e5 e6 L6 S6 S7 E6 kO ke S5 g0 g1 ho hby n3 hnew
  go_wp2_with (at_builtin;refine zbh _ rfl (.tmp 25) (.tmp 30) 35 35 rfl 45 i0 (.agg #[.int .i64 0,.bool false,.slice none 0 0,.int .i64 0,.bool false,.slice none 0 0,.int .i64 0,.bool false,.bool false,.slice none 0 0]) 10 128 Tryz.underlying35 hi0 hz0 hz1 hz2 rfl _ _ _ rfl hrow7 _ _ _ rfl hsrc ?_ ?_ ?_)
  ·unfold maxLen;omega
  ·omega
  intro v8 w8 hO8 hG8;obtain⟨⟨c4',t4'⟩,hfin⟩:=HST.out v8 w8 hO8 hG8;obtain⟨al8,ol8,cl8,hvl8,-,-,-⟩:=hO8.at (by omega);subst hvl8;have HF:=hide hfin;clear hO8 hG8 hsrc HST hW7 c4 hfin hrow7
  go_wp2
  go_end0
  exact HF.out
 ·have L6:=L5.withY X6 (λn _ _ h=>E6 n h);have HF:Hid (ROpy wb gl gx gy dx dy vu vd up down lv own ls p m L S (.returned (.tuple #[])) w6):=by
   refine⟨rfl,upd own6 (.e (3*ls.length)) .none,_,ls,xs,dy,S6.drop _,L6.alike (λn h _=>zac _ _ (h _)),?_,hsb,h1l,H.mono (by omega),zcr.refl _ _ _,by rw[zac _ _ (λx=>by injection x with x;omega),e6,e5 1000 (by omega)]⟩;refine hl.alike (λi => ?_);by_cases e:i=3*ls.length
   ·rw[e,zag];exact(hl.free _ (Nat.le_refl _) (by omega)).symm
   ·rw[zac _ _ (λx=>e (by injection x)),e6,e5 i e]
  have hne:((dy.open? hd:Int) == 0)=false:=by rw[beq_eq_false_iff_ne];omega
  generalize dy.open? hd=er at *;clear hno X6 L5 q5 e5 e6 L6 S6 E6 kO ke S5 g0 g1 hnew
  go_wp2
  go_end0
  exact HF.out
end
def zbz(wb:World)(gl:Nat)(lv:Bool)(p m L S:Nat)(Q:Ds->Ds->List Line->Res->Prop)(w:World):Prop :=
 ∃ own gx gy dx dy vu vd vl up down ls xs,Sep wb w own/\zak own gl gx gy dx dy vu vd vl up down ls.length xs lv/\LS own ls xs/\SB ls S/\1<=ls.length/\TD true dx dy up down ls p m L/\Q dx dy ls (own (.e 1000))
def NoEv(p:Nat)(d e:Ds)(_:List Line)(_:Res):Prop:=(d.ev=[]/\e.ev=[])\/p<=2
def zkb(_ _:Ds)(_:List Line)(_:Res):Prop:=True
def Stable(Q:Ds->Ds->List Line->Res->Prop):Prop:=∀ dx dy ls R dx' dy' ls',Q dx dy ls R->(zcr true dx ls dx' ls'/\dy'=dy)\/(zcr false dy ls dy' ls'/\dx'=dx)->Q dx' dy' ls' R
theorem zkb.stable:Stable zkb:=λ_ _ _ _ _ _ _ _ _=>trivial
theorem TD.wide{c:Bool}{d e:Ds}{u v:Bytes}{ls:List Line}{p m L L':Nat}(H:TD c d e u v ls p m L)(hL:L<=L'):TD c d e u v ls p m L':=⟨H.lk,H.nodup,H.has,H.od,H.oe,H.di,H.ei,Nat.le_trans H.ul hL,Nat.le_trans H.vl hL,H.db,H.eb⟩
section
variable {wb w:World} {gl:Nat} {lv:Bool} {p m L S:Nat} {Q0:Ds->Ds->List Line->Res->Prop}
theorem zzblz(h:zbz wb gl lv p (m+2) L S Q0 w)(hQ:Stable Q0)(hm:5<=m)(c:Bool)(cc:Int)(hc1:-9223372036854775808<=cc)(hc2:cc<=9223372036854775807) :
  Calls Tryz.prog 33 #[.pointer (some ⟨gl,0,none⟩),.bool c,.int .i64 cc] w λe w'=>e = .returned (.tuple #[])/\zbz wb gl lv p m L S Q0 w':=by
 obtain⟨own,gx,gy,dx,dy,vu,vd,vl,up,down,ls,xs,h1,h2,h3,h4,h5,h6,h7⟩:=h;cases c
 ·refine(zzbip h2 h1 h3 h4 h5 h6.swap hm cc hc1 hc2).mono ?_;rintro e w' ⟨rfl,own',vl',ls',xs',d',q1,q2,q3,q4,q5,q6,q7⟩;exact⟨rfl,own',gx,gy,dx,d',vu,vd,vl',up,down,ls',xs',q1,q2,q3,q4,q5,(TD.unswap (c:=true) q6),by rw[q7.2];exact hQ _ _ _ _ _ _ _ h7 (.inr ⟨q7.1,rfl⟩)⟩
 ·refine(zzbio h2 h1 h3 h4 h5 h6 hm cc hc1 hc2).mono ?_;rintro e w' ⟨rfl,own',vl',ls',xs',d',q1,q2,q3,q4,q5,q6,q7⟩;exact⟨rfl,own',gx,gy,d',dy,vu,vd,vl',up,down,ls',xs',q1,q2,q3,q4,q5,q6,by rw[q7.2];exact hQ _ _ _ _ _ _ _ h7 (.inl ⟨q7.1,rfl⟩)⟩
def Lines(gl nl:Nat)(w:World):Prop:=∃ al ol cl,w.cell? ⟨gl,4,none⟩=some (.slice (some ⟨al,ol,none⟩) nl cl)/\1<=nl/\nl<=99
def zcm(nl:Nat)(wb:World)(gl:Nat)(lv:Bool)(p m L S:Nat)(Q:Ds->Ds->List Line->Res->Prop)(w:World):Prop :=
 ∃ own gx gy dx dy vu vd vl up down ls xs,ls.length=nl/\Sep wb w own/\zak own gl gx gy dx dy vu vd vl up down ls.length xs lv/\LS own ls xs/\SB ls S/\1<=ls.length/\TD true dx dy up down ls p m L/\Q dx dy ls (own (.e 1000))
theorem zbz.num{Q:Ds->Ds->List Line->Res->Prop}(h:zbz wb gl lv p m L S Q w):∃ nl,zcm nl wb gl lv p m L S Q w/\Lines gl nl w:=by obtain⟨own,gx,gy,dx,dy,vu,vd,vl,up,down,ls,xs,h1,h2,h3,h4,h5,h6,h7⟩:=h;obtain⟨al,ol,cl,hv,-⟩:=h2.linesV h1 (by omega);subst hv;exact⟨ls.length,⟨own,gx,gy,dx,dy,vu,vd,_,up,down,ls,xs,rfl,h1,h2,h3,h4,h5,h6,h7⟩,al,ol,cl,h2.cc h1 4,h5,h6.newStr.2⟩
theorem zcm.hold{nl:Nat}{Q:Ds->Ds->List Line->Res->Prop}(h:zcm nl wb gl lv p m L S Q w):zbz wb gl lv p m L S Q w:=by obtain⟨own,gx,gy,dx,dy,vu,vd,vl,up,down,ls,xs,-,h⟩:=h;exact⟨own,gx,gy,dx,dy,vu,vd,vl,up,down,ls,xs,h⟩
theorem zcm.ext{nl:Nat}{w':World}{Q:Ds->Ds->List Line->Res->Prop}(h:zcm nl wb gl lv p m L S Q w)(e:Ext w w'):zcm nl wb gl lv p m L S Q w':=by obtain⟨own,gx,gy,dx,dy,vu,vd,vl,up,down,ls,xs,h0,h1,h2⟩:=h;exact⟨own,gx,gy,dx,dy,vu,vd,vl,up,down,ls,xs,h0,h1.ext e,h2⟩
theorem zzbkm{nl:Nat}(h:zcm nl wb gl lv p (m+1) L S Q0 w)(hQ:Stable Q0)(hS:S<=100000)(c:Bool)(k:Nat)(hk:k<nl)(n:Nat)(hn:n<=300) :
  Calls Tryz.prog 34 #[.pointer (some ⟨gl,0,none⟩),.int .i64 (k:Int),.bool c,.int .i64 (n:Int)] w λe w'=>e = .returned (.bool true)/\zbz wb gl lv p m L (S+300) Q0 w':=by
 obtain⟨own,gx,gy,dx,dy,vu,vd,vl,up,down,ls,xs,rfl,h1,h2,h3,h4,h5,h6,h7⟩:=h;cases c
 ·refine(zzbfw h2 h1 h3 h4 hS h6.swap k hk n hn).mono ?_;rintro e w' ⟨rfl,own',ls',xs',d',q1,q2,q3,q4,q5,q6,q7⟩;exact⟨rfl,own',gx,gy,dx,d',vu,vd,vl,up,down,ls',xs',q1,q2,q3,q4,by omega,(TD.unswap (c:=true) q6),by rw[q7.2.1];exact hQ _ _ _ _ _ _ _ h7 (.inr ⟨q7.1,rfl⟩)⟩
 ·refine(zzbfv h2 h1 h3 h4 hS h6 k hk n hn).mono ?_;rintro e w' ⟨rfl,own',ls',xs',d',q1,q2,q3,q4,q5,q6,q7⟩;exact⟨rfl,own',gx,gy,d',dy,vu,vd,vl,up,down,ls',xs',q1,q2,q3,q4,by omega,q6,by rw[q7.2.1];exact hQ _ _ _ _ _ _ _ h7 (.inl ⟨q7.1,rfl⟩)⟩
theorem zzbma{nl:Nat}(h:zcm nl wb gl lv p (m+3) L S Q0 w)(hQ:Stable Q0)(hev:∀ d e ls R,Q0 d e ls R->NoEv p d e ls R)(hS:S<=100000)(hm:10<=m)(c:Bool)(k:Nat)(hk:k<nl)(n:Nat)(hn:n<=1000) :
  Calls Tryz.prog 14 #[.pointer (some ⟨gl,0,none⟩),.int .i64 (k:Int),.bool c,.int .i64 (n:Int)] w λe w'=>e = .returned (.bool true)/\zbz wb gl lv p m L S Q0 w':=by
 obtain⟨own,gx,gy,dx,dy,vu,vd,vl,up,down,ls,xs,rfl,h1,h2,h3,h4,h5,h6,h7⟩:=h;cases c
 ·refine(zxn h2 h1 h3 h4 hS h6.swap hm ((hev _ _ _ _ h7).imp And.right id) k hk n hn).mono ?_;rintro e w' ⟨rfl,own',ls',xs',d',q1,q2,q3,q4,q5,q6,q7⟩;exact⟨rfl,own',gx,gy,dx,d',vu,vd,vl,up,down,ls',xs',q1,q2,q3,q4,by omega,(TD.unswap (c:=true) q6),by rw[q7.2.1];exact hQ _ _ _ _ _ _ _ h7 (.inr ⟨q7.1,rfl⟩)⟩
 ·refine(zxm h2 h1 h3 h4 hS h6 hm ((hev _ _ _ _ h7).imp And.left id) k hk n hn).mono ?_;rintro e w' ⟨rfl,own',ls',xs',d',q1,q2,q3,q4,q5,q6,q7⟩;exact⟨rfl,own',gx,gy,d',dy,vu,vd,vl,up,down,ls',xs',q1,q2,q3,q4,by omega,q6,by rw[q7.2.1];exact hQ _ _ _ _ _ _ _ h7 (.inl ⟨q7.1,rfl⟩)⟩
theorem TD.goodIn{c:Bool}{d e:Ds}{u v:Bytes}{ls:List Line}{R:Nat}(H:TD c d e u v ls p (m+300+2*L+2*R) L)(room:Int)(hR:(d.out room).2.length<=R) :
  ∀ (D:Ds) (j k:Nat),(D=e/\j=0\/D=e.takes ((u++(d.out room).2).take j))->j+k<=(u++(d.out room).2).length->D.failed=false->D.inn.length+k<=68719476736/\GoodB 0 50000010 { D with inn:=D.inn++((u++(d.out room).2).drop j).take k }:=by
 intro D j k hD hj hf;have hul:=H.ul;have hei:=H.ei;have hcb:=H.oe.fits.ctl;have hlen:(u++(d.out room).2).length<=L+R:=by rw[List.length_append];omega
 generalize u++(d.out room).2=U at hD hj hlen ⊢;have htl:(U.take j).length=j:=by rw[List.length_take];omega
 have hdl:((U.drop j).take k).length=k:=by rw[List.length_take,List.length_drop];omega
 have hDD:D.inn.length<=69/\D.Ok (m+L+R+100) 0 50000010:=by
  rcases hD with ⟨e1,e2⟩|e1
  ·rw[e1];exact⟨hei,H.oe.mono (by omega)⟩
  ·rw[e1] at hf ⊢;refine⟨?_,?_⟩
   ·rcases zrr e (U.take j) with q|q
    ·rw[q] at hf;cases hf
    ·exact q
   ·exact Ds.Ok.takes _ (H.oe.mono (by rw[htl];omega)) (by rw[htl];omega)
 refine⟨by omega,?_⟩;unfold GoodB;refine(hDD.2.inn _ (by rw[List.length_append,hdl];omega)).mono ?_
 show 6+(D.inn++(U.drop j).take k).length<=_
 rw[List.length_append,hdl];omega
theorem zzbmb(h:zbz wb gl lv p (m+1000+2*L) L S Q0 w)(c:Bool)(room n piece:Nat)(hr:room<=300)(hn:n<=1000)(hp0:1<=piece)(hp:piece<=1000)(hL:L<=1000000) :
  Calls Tryz.prog 13 #[.pointer (some ⟨gl,0,none⟩),.bool c,.int .i64 (room:Int),.int .i64 (n:Int),.int .i64 (piece:Int)] w λe w'=>e = .returned (.tuple #[])/\zbz wb gl lv p m (L+300) S zkb w':=by
 obtain⟨own,gx,gy,dx,dy,vu,vd,vl,up,down,ls,xs,h1,h2,h3,h4,h5,h6,-⟩:=h;cases c
 ·have H:=h6.swap;have hR:(dy.out (room:Int)).2.length<=300:=by have:=H.outRoom (room:Int);omega
  obtain⟨o1,-⟩:=H.lk.outE (c:=0) H.od (by omega);have hul:=H.ul;refine(zku h2 h1 (room:Int) (n:Int) (piece:Int) (by omega) (by omega) (by omega) (by omega) (by omega) (by omega) o1.out H.od.ck (GoodB 0 50000010) (zmp 0 50000010) (by omega) (TD.goodIn (m:=m+100) (R:=300) (H.mono (by omega)) (room:Int) hR)).mono ?_;rintro e w' ⟨rfl,own',v',q1,q2,q3⟩;refine⟨rfl,own',gx,gy,_,_,vu,v',vl,up,_,ls,xs,q1,q2,h3.alike q3,h4,h5,TD.unswap (TD.carry (R:=300) (m:=m) (H.mono (by omega)) (room:Int) hR (n:Int)),trivial⟩
 ·have H:=h6;have hR:(dx.out (room:Int)).2.length<=300:=by have:=H.outRoom (room:Int);omega
  obtain⟨o1,-⟩:=H.lk.outE (c:=0) H.od (by omega);have hul:=H.ul;refine(znn h2 h1 (room:Int) (n:Int) (piece:Int) (by omega) (by omega) (by omega) (by omega) (by omega) (by omega) o1.out H.od.ck (GoodB 0 50000010) (zmp 0 50000010) (by omega) (TD.goodIn (m:=m+100) (R:=300) (H.mono (by omega)) (room:Int) hR)).mono ?_;rintro e w' ⟨rfl,own',v',q1,q2,q3⟩;refine⟨rfl,own',gx,gy,_,_,v',vd,vl,_,down,ls,xs,q1,q2,h3.alike q3,h4,h5,TD.carry (R:=300) (m:=m) (H.mono (by omega)) (room:Int) hR (n:Int),trivial⟩
end
theorem LS.setC{own own':LN->Res}{ls:List Line}{xs:List Value}(h:LS own ls xs){k:Nat}{t:Line}(hk:ls[k]? = some t)(j:Nat)(hj:j<10)(u:Value)(f:Line->Line)(ho:∀ i,own' (.e i)=own (.e i))(h1:(f t).client.sent=t.client.sent)(h2:(f t).server.sent=t.server.sent)(h3:(f t).h=t.h)(hl:∀ vc vs vh,zik (f t) vc vs vh=(zik t vc vs vh).set j u):LS own' (ls.modify k f) (xs.set (10*k+j) u):=by
 have hkl:k<ls.length:=(List.getElem?_eq_some_iff.1 hk).1;have hlen:=h.len;obtain⟨vc,vs,vh,q1,q2,q3,q4⟩:=h.at_ k t hk;refine h.mod hk _ (List.length_set ..) (λi hi => ?_) (λi _=>ho i) ⟨vc,vs,vh,λi hi => ?_,?_,?_,?_⟩
 ·rw[zgw _ _ _ _ (by omega),if_neg (by omega)]
 ·rw[zgw _ _ _ _ (by omega),hl,zgw _ _ _ _ (by simp[zik,zdb];omega)];by_cases e:i=j
  ·rw[if_pos (by omega),if_pos e]
  ·rw[if_neg (by omega),if_neg e];exact q1 i hi
 ·rw[h1];exact q2.alike (ho _)
 ·rw[h2];exact q3.alike (ho _)
 ·rw[h3];exact(ho _).trans q4
section
variable {c:Bool} {d e:Ds} {u v:Bytes} {ls:List Line} {p m L:Nat}
theorem TD.carryAll{R:Nat}(H:TD c d e u v ls p (m+300+L+R) L)(room:Int)(hR:(d.out room).2.length<=R)(n:Int)(hn0:0<n)(hn:((L+R:Nat):Int)<=n) :
  TD c (d.out room).1 (e.takes (u++(d.out room).2)) [] v ls p m L:=by
 have T:=H.carry room hR n;have hul:=H.ul;have hl:(u++(d.out room).2).length<=L+R:=by rw[List.length_append];omega
 obtain⟨e1,e2⟩:=zmt e (u++(d.out room).2) n hn0 (by omega);rw[e1,e2] at T;exact⟨T.lk,T.nodup,T.has,T.od,T.oe,T.di,T.ei,Nat.zero_le _,H.vl,T.db,T.eb⟩
end
section
variable {wb w:World} {gl:Nat} {lv:Bool} {p m L S:Nat} {Q0:Ds->Ds->List Line->Res->Prop}
theorem zbz.less{m':Nat}(h:zbz wb gl lv p m L S Q0 w)(hm:m'<=m):zbz wb gl lv p m' L S Q0 w:=by obtain⟨own,gx,gy,dx,dy,vu,vd,vl,up,down,ls,xs,h1,h2,h3,h4,h5,h6,h7⟩:=h;exact⟨own,gx,gy,dx,dy,vu,vd,vl,up,down,ls,xs,h1,h2,h3,h4,h5,h6.mono hm,h7⟩
end
end Go.Proofs.YtoijpogadkogcaaGreat
