import Derived.Test.YtoijpogadkogcaaGreatRm
import Derived.Test.YtoijpogadkogcaaGreatRn
import Derived.Test.YtoijpogadkogcaaGreatRa
namespace Go.Proofs.YtoijpogadkogcaaGreat
open Go.RowKit
set_option maxRecDepth 100000
theorem TD.newStr {c:Bool} {d e:Ds} {u v:Bytes} {ls:List Line} {p m L:Nat} (H:TD c d e u v ls p m L):d.str d.next=none∧ls.length≤99:=by
 have hlk:=H.lk;have hl:=hlk.last;constructor
 ·generalize wOut c ls=wA at hlk;generalize wIn c ls=wB at hlk;generalize lr ls=r at hlk;generalize lh ls=h at hlk;obtain ⟨A,B,U,D,CA,CB,h1,h2,S,-⟩:=hlk;obtain ⟨n1,n2,n3⟩:=zjn S.ab;have hn:=h1.next;have hml:=h1.sc.mL;have hcl:=h1.sc.cl;refine H.od.newM d.next ?_ (by omega);unfold Ds.side;rw [if_pos (by omega),hcl];have e:((d.next:Int) % 2 == 1)=(d.next % 2 == 1):=by
   rw [Bool.eq_iff_iff];simp only [beq_iff_eq];omega
  rw [e,hn];exact congrArg some n2
 ·have h1:=zjt _ H.nodup 100 (fun x hx=>by
   obtain ⟨t,ht,rfl⟩:=List.mem_map.1 hx
   have:=H.has t ht
   omega)
  rw [List.length_map] at h1;have h2:0 ∉ ls.map Line.id:=fun hx=>by
   obtain ⟨t,ht,e⟩:=List.mem_map.1 hx
   have:=H.has t ht
   omega
  have h3:=zjt (0::ls.map Line.id) (List.nodup_cons.2 ⟨h2,H.nodup⟩) 100 (fun x hx=>by
   rcases List.mem_cons.1 hx with rfl | hx
   ·omega
   ·obtain ⟨t,ht,rfl⟩:=List.mem_map.1 hx
    have:=H.has t ht
    omega)
  rw [List.length_cons,List.length_map] at h3;omega
theorem zsh (d:Ds) (hd:Hdrs):(d.opened hd).ev=d.ev:=by
 unfold Ds.opened;dsimp only;rw [zdj];rfl
section
variable {own:LN→Res} {gl gx gy:Nat} {dx dy:Ds} {vu vd vl:Value} {up down:Bytes} {ls:List Line} {xs:List Value} {lv:Bool} {wb w:World} {p m L S:Nat}
def ROpx (wb:World) (gl gx gy:Nat) (dx dy:Ds) (vu vd:Value) (up down:Bytes) (lv:Bool) (p m L S:Nat) (e:Ending) (w':World):Prop :=
 e = .returned (.tuple #[]) ∧ ∃ own' vl ls' xs' d',Sep wb w' own'∧LinkAt own' gl gx gy d' dy vu vd vl up down ls'.length xs' lv∧LS own' ls' xs'∧SB ls' S∧1≤ls'.length∧TD true d' dy up down ls' p m L∧d'.ev=dx.ev
set_option maxHeartbeats 6400000 in
theorem zzbct (h:LinkAt own gl gx gy dx dy vu vd vl up down ls.length xs lv) (hs:Sep wb w own) (hl:LS own ls xs) (hsb:SB ls S) (h1l:1≤ls.length) (H:TD true dx dy up down ls p (m+2) L) (hm:5≤m) (cc:Int) (hc1:-9223372036854775808≤cc) (hc2:cc≤9223372036854775807) :
  Calls Tryz.prog 33 #[.pointer (some ⟨gl,0,none⟩),.bool true,.int .i64 cc] w (ROpx wb gl gx gy dx dy vu vd up down lv p m L S):=by
 obtain ⟨i0,hi0,hz0,hz1,hz2⟩:=zam Tryz.infoLine;obtain ⟨hnew,hll⟩:=H.newStr;obtain ⟨al,ol,cl,hvl,hcl⟩:=h.linesV hs (by omega);subst hvl;have kh:=zic cc w hc1 hc2
 go_enter Tryz.func33,Tryz.ntmps33
 go_wp2_with fail
 refine kh.mono ?_;rintro e w5 ⟨hd,vh,rfl,hpk,how,he5⟩;have hP:=IsPairs.ofOwns how;have S5:=hs.add (.e (3 * ls.length)) he5 (OwnAt.ofOwns how) (zen how);have L5:LinkAt (upd own (.e (3 * ls.length)) (.row 122 2 vh hd.length (pcells hd))) gl gx gy dx dy vu vd (.slice (some ⟨al,ol,none⟩) ls.length cl) up down ls.length xs lv:=h.alike (fun n h _=>zaa _ _ (h _));have q5:upd own (.e (3 * ls.length)) (.row 122 2 vh hd.length (pcells hd)) (.e (3 * ls.length)) = .row 122 2 vh hd.length (pcells hd):=zad _ _ _;have e5:∀ i,i≠3 * ls.length→upd own (.e (3 * ls.length)) (.row 122 2 vh hd.length (pcells hd)) (.e i)=own (.e i):=fun i hi=>zaa _ _ (fun e=>hi (by injection e))
 obtain ⟨own5,hown5⟩:∃ own5,upd own (.e (3 * ls.length)) (.row 122 2 vh hd.length (pcells hd))=own5:=⟨_,rfl⟩;rw [hown5] at S5 L5 q5 e5;have kO:=zlg L5.ex S5 (H.od.fits.mono (by omega)) hnew vh hd hP (zje hd hpk);have g0:w5.cell? ⟨gl,0,none⟩=some (.pointer (some ⟨gx,0,none⟩)):=L5.cc S5 0;have g1:w5.cell? ⟨gl,1,none⟩=some (.pointer (some ⟨gy,0,none⟩)):=L5.cc S5 1;have ke:Calls Tryz.prog 16 #[.pointer (some ⟨gl,0,none⟩),.bool true] w5 fun e w'=>e = .returned (.pointer (some ⟨gx,0,none⟩))∧w'=w5:=zav true w5 g0 g1;obtain ⟨ah,ch,hvh,-,-,-⟩:=hP;subst hvh;clear hown5 how he5 kh hs h
 go_wp2_with fail
 refine ke.mono ?_;rintro e w0 ⟨rfl,hw⟩;replace hw:=hw.symm;subst hw
 go_wp2_with fail
 refine kO.mono ?_;rintro e w6 ⟨own6,S6,E6,hor⟩;have e6:∀ i,own6 (.e i)=own5 (.e i):=fun i=>E6 (.e i) (fun x e=>by cases e)
 rcases hor with ⟨ho,rfl,X6⟩ | ⟨hno,rfl,X6⟩
 ·have L6:=L5.withX X6 (fun n _ _ h=>E6 n h);obtain ⟨T6,n1,n2,n3,-⟩:=H.opened hd hpk ho;have hby:(dx.next % 2 == 1)=true:=by
   unfold ownB at n3;simpa using n3
  generalize hnx:dx.next=nx at *;obtain ⟨W7,hW7⟩:∃ W7,w6.alloc (.cells #[.int .i64 (nx:Int),.bool true,.slice none 0 0,.int .i64 0,.bool false,.slice none 0 0,.int .i64 0,.bool false,.bool false,.slice ah hd.length ch] 45 (0,0))=W7:=⟨_,rfl⟩;have S7:Sep wb W7 own6:=by rw [← hW7]; exact S6.ext ((Ext.refl w6).alloc _)
  have hsrc:=znx (P:=Tryz.prog) w6 45 Tryz.underlying35 (nx:Int) true ah hd.length ch;rw [hW7] at hsrc;have c4:w6.cell? ⟨gl,4,none⟩=some (.slice (some ⟨al,ol,none⟩) ls.length cl):=L6.cc S6 4;have hrow7:OwnAt W7 45 10 (.slice (some ⟨al,ol,none⟩) ls.length cl) ls.length xs:=S7.get L6.nl;have HST:Hid (∀ (v3:Value) (w3:World),OwnAt w3 45 10 v3 (ls.length+1) (xs++lineC (nx:Int) true (.slice none 0 0) 0 false (.slice none 0 0) 0 false false (.slice ah hd.length ch))→Grew W7 (.slice (some ⟨al,ol,none⟩) ls.length cl) w3 v3→(w3.cell? ⟨gl,4,none⟩=some (.slice (some ⟨al,ol,none⟩) ls.length cl)∧w3.frozen? ⟨gl,4,none⟩=false)∧ROpx wb gl gx gy dx dy vu vd up down lv p m L S (.returned (.tuple #[])) (w3.setCell ⟨gl,4,none⟩ v3)):=fun v3 w3 hO3 hG3=>by
   have S3:=S7.grew L6.nl hG3 hO3;have lk3:=(zaa own6 (.row 45 10 v3 (ls.length+1) (xs++lineC (nx:Int) true (.slice none 0 0) 0 false (.slice none 0 0) 0 false false (.slice ah hd.length ch))) (show LN.link ≠ .lines from fun e=>by cases e)).trans L6.lk;refine ⟨⟨S3.cell lk3 4,S3.thaw lk3 4⟩,rfl,?_⟩;have S4:=S3.setObj lk3 4 v3;have S5':=(S4.nilRow (.e (3 * ls.length+1)) 5 1).nilRow (.e (3 * ls.length+2)) 5 1;refine ⟨_,v3,ls++[{ id:=nx,h:=hd }],_,dx.opened hd,S5',⟨?_,?_,?_,?_,?_,?_⟩,hl.add { id:=nx,h:=hd } (.slice none 0 0) (.slice none 0 0) (.slice ah hd.length ch) (fun i hi => ?_) (fun i hi => ?_) (.inl ?_) (.inl ?_) ?_,?_,by simp,T6,zsh _ _⟩
   ·exact (((L6.ex.updO (fun _ e=>by cases e) _).updO (fun _ e=>by cases e) _).updO (fun _ e=>by cases e) _).updO (fun _ e=>by cases e) _
   ·exact (((L6.ey.updO (fun _ e=>by cases e) _).updO (fun _ e=>by cases e) _).updO (fun _ e=>by cases e) _).updO (fun _ e=>by cases e) _
   ·rw [zaa _ _ (fun e=>by cases e),zaa _ _ (fun e=>by cases e),zad]; rfl
   ·rw [zaa _ _ (fun e=>by cases e),zaa _ _ (fun e=>by cases e),zaa _ _ (fun e=>by cases e),zaa _ _ (fun e=>by cases e)]; exact L6.nu
   ·rw [zaa _ _ (fun e=>by cases e),zaa _ _ (fun e=>by cases e),zaa _ _ (fun e=>by cases e),zaa _ _ (fun e=>by cases e)]; exact L6.nd
   ·rw [zaa _ _ (fun e=>by cases e),zaa _ _ (fun e=>by cases e),zaa _ _ (fun e=>by cases e),zad];have eb:lineC (nx:Int) true (.slice none 0 0) 0 false (.slice none 0 0) 0 false false (.slice ah hd.length ch)=lineOf { id:=nx,h:=hd } (.slice none 0 0) (.slice none 0 0) (.slice ah hd.length ch):=by
     show _=lineC (nx:Int) (nx % 2 == 1) _ _ _ _ _ _ _ _
     rw [hby]; rfl
    rw [eb,List.length_append]; rfl
   ·rw [zaa _ _ (fun e=>by injection e with e; omega),zaa _ _ (fun e=>by injection e with e; omega),zaa _ _ (fun e=>by cases e),zaa _ _ (fun e=>by cases e),e6,e5 i (by omega)]
   ·rw [zaa _ _ (fun e=>by injection e with e; omega),zaa _ _ (fun e=>by injection e with e; omega),zaa _ _ (fun e=>by cases e),zaa _ _ (fun e=>by cases e),e6,e5 i (by omega)]
   ·rw [zaa _ _ (fun e=>by injection e with e; omega),zad]; rfl
   ·rw [zad]; rfl
   ·rw [zaa _ _ (fun e=>by injection e with e; omega),zaa _ _ (fun e=>by injection e with e; omega),zaa _ _ (fun e=>by cases e),zaa _ _ (fun e=>by cases e),e6]; exact q5
   ·intro t ht;rcases List.mem_append.1 ht with ht | ht
    ·exact hsb t ht
    ·rw [List.mem_singleton.1 ht]; exact ⟨Nat.zero_le _,Nat.zero_le _⟩
  clear hnx T6 X6 L5 q5 e5 e6 L6 S6 S7 E6 kO ke S5 g0 g1 ho hby n3 hnew
  go_wp2_with (at_builtin; refine zak _ rfl (.tmp 25) (.tmp 30) 35 35 rfl 45 i0 (.agg #[.int .i64 0,.bool false,.slice none 0 0,.int .i64 0,.bool false,.slice none 0 0,.int .i64 0,.bool false,.bool false,.slice none 0 0]) 10 128 Tryz.underlying35 hi0 hz0 hz1 hz2 rfl _ _ _ rfl hrow7 _ _ _ rfl hsrc ?_ ?_ ?_)
  ·unfold maxLen; omega
  ·omega
  intro v8 w8 hO8 hG8;obtain ⟨⟨c4',t4'⟩,hfin⟩:=HST.out v8 w8 hO8 hG8;obtain ⟨al8,ol8,cl8,hvl8,-,-,-⟩:=hO8.at (by omega);subst hvl8;have HF:=hide hfin;clear hO8 hG8 hsrc HST hW7 c4 hfin hrow7
  go_wp2
  go_end0
  exact HF.out
 ·have L6:=L5.withX X6 (fun n _ _ h=>E6 n h);have HF:Hid (ROpx wb gl gx gy dx dy vu vd up down lv p m L S (.returned (.tuple #[])) w6):=by
   refine ⟨rfl,upd own6 (.e (3 * ls.length)) .none,_,ls,xs,dx,S6.drop _,L6.alike (fun n h _=>zaa _ _ (h _)),?_,hsb,h1l,H.mono (by omega),rfl⟩;refine hl.alike (fun i => ?_);by_cases e:i=3 * ls.length
   ·rw [e,zad]; exact (hl.free _ (Nat.le_refl _)).symm
   ·rw [zaa _ _ (fun x=>e (by injection x)),e6,e5 i e]
  have hne:((dx.open? hd:Int) == 0)=false:=by rw [beq_eq_false_iff_ne]; omega
  generalize dx.open? hd=er at *;clear hno X6 L5 q5 e5 e6 L6 S6 E6 kO ke S5 g0 g1 hnew
  go_wp2
  go_end0
  exact HF.out
def ROpy (wb:World) (gl gx gy:Nat) (dx dy:Ds) (vu vd:Value) (up down:Bytes) (lv:Bool) (p m L S:Nat) (e:Ending) (w':World):Prop :=
 e = .returned (.tuple #[]) ∧ ∃ own' vl ls' xs' d',Sep wb w' own'∧LinkAt own' gl gx gy dx d' vu vd vl up down ls'.length xs' lv∧LS own' ls' xs'∧SB ls' S∧1≤ls'.length∧TD false d' dx down up ls' p m L∧d'.ev=dy.ev
set_option maxHeartbeats 6400000 in
theorem zzbcu (h:LinkAt own gl gx gy dx dy vu vd vl up down ls.length xs lv) (hs:Sep wb w own) (hl:LS own ls xs) (hsb:SB ls S) (h1l:1≤ls.length) (H:TD false dy dx down up ls p (m+2) L) (hm:5≤m) (cc:Int) (hc1:-9223372036854775808≤cc) (hc2:cc≤9223372036854775807) :
  Calls Tryz.prog 33 #[.pointer (some ⟨gl,0,none⟩),.bool false,.int .i64 cc] w (ROpy wb gl gx gy dx dy vu vd up down lv p m L S):=by
 obtain ⟨i0,hi0,hz0,hz1,hz2⟩:=zam Tryz.infoLine;obtain ⟨hnew,hll⟩:=H.newStr;obtain ⟨al,ol,cl,hvl,hcl⟩:=h.linesV hs (by omega);subst hvl;have kh:=zic cc w hc1 hc2
 go_enter Tryz.func33,Tryz.ntmps33
 go_wp2_with fail
 refine kh.mono ?_;rintro e w5 ⟨hd,vh,rfl,hpk,how,he5⟩;have hP:=IsPairs.ofOwns how;have S5:=hs.add (.e (3 * ls.length)) he5 (OwnAt.ofOwns how) (zen how);have L5:LinkAt (upd own (.e (3 * ls.length)) (.row 122 2 vh hd.length (pcells hd))) gl gx gy dx dy vu vd (.slice (some ⟨al,ol,none⟩) ls.length cl) up down ls.length xs lv:=h.alike (fun n h _=>zaa _ _ (h _));have q5:upd own (.e (3 * ls.length)) (.row 122 2 vh hd.length (pcells hd)) (.e (3 * ls.length)) = .row 122 2 vh hd.length (pcells hd):=zad _ _ _;have e5:∀ i,i≠3 * ls.length→upd own (.e (3 * ls.length)) (.row 122 2 vh hd.length (pcells hd)) (.e i)=own (.e i):=fun i hi=>zaa _ _ (fun e=>hi (by injection e))
 obtain ⟨own5,hown5⟩:∃ own5,upd own (.e (3 * ls.length)) (.row 122 2 vh hd.length (pcells hd))=own5:=⟨_,rfl⟩;rw [hown5] at S5 L5 q5 e5;have kO:=zlg L5.ey S5 (H.od.fits.mono (by omega)) hnew vh hd hP (zje hd hpk);have g0:w5.cell? ⟨gl,0,none⟩=some (.pointer (some ⟨gx,0,none⟩)):=L5.cc S5 0;have g1:w5.cell? ⟨gl,1,none⟩=some (.pointer (some ⟨gy,0,none⟩)):=L5.cc S5 1;have ke:Calls Tryz.prog 16 #[.pointer (some ⟨gl,0,none⟩),.bool false] w5 fun e w'=>e = .returned (.pointer (some ⟨gy,0,none⟩))∧w'=w5:=zav false w5 g0 g1;obtain ⟨ah,ch,hvh,-,-,-⟩:=hP;subst hvh;clear hown5 how he5 kh hs h
 go_wp2_with fail
 refine ke.mono ?_;rintro e w0 ⟨rfl,hw⟩;replace hw:=hw.symm;subst hw
 go_wp2_with fail
 refine kO.mono ?_;rintro e w6 ⟨own6,S6,E6,hor⟩;have e6:∀ i,own6 (.e i)=own5 (.e i):=fun i=>E6 (.e i) (fun x e=>by cases e)
 rcases hor with ⟨ho,rfl,X6⟩ | ⟨hno,rfl,X6⟩
 ·have L6:=L5.withY X6 (fun n _ _ h=>E6 n h);obtain ⟨T6,n1,n2,n3,-⟩:=H.opened hd hpk ho;have hby:(dy.next % 2 == 1)=false:=by
   unfold ownB at n3;simpa using n3
  generalize hnx:dy.next=nx at *;obtain ⟨W7,hW7⟩:∃ W7,w6.alloc (.cells #[.int .i64 (nx:Int),.bool false,.slice none 0 0,.int .i64 0,.bool false,.slice none 0 0,.int .i64 0,.bool false,.bool false,.slice ah hd.length ch] 45 (0,0))=W7:=⟨_,rfl⟩;have S7:Sep wb W7 own6:=by rw [← hW7]; exact S6.ext ((Ext.refl w6).alloc _)
  have hsrc:=znx (P:=Tryz.prog) w6 45 Tryz.underlying35 (nx:Int) false ah hd.length ch;rw [hW7] at hsrc;have c4:w6.cell? ⟨gl,4,none⟩=some (.slice (some ⟨al,ol,none⟩) ls.length cl):=L6.cc S6 4;have hrow7:OwnAt W7 45 10 (.slice (some ⟨al,ol,none⟩) ls.length cl) ls.length xs:=S7.get L6.nl;have HST:Hid (∀ (v3:Value) (w3:World),OwnAt w3 45 10 v3 (ls.length+1) (xs++lineC (nx:Int) false (.slice none 0 0) 0 false (.slice none 0 0) 0 false false (.slice ah hd.length ch))→Grew W7 (.slice (some ⟨al,ol,none⟩) ls.length cl) w3 v3→(w3.cell? ⟨gl,4,none⟩=some (.slice (some ⟨al,ol,none⟩) ls.length cl)∧w3.frozen? ⟨gl,4,none⟩=false)∧ROpy wb gl gx gy dx dy vu vd up down lv p m L S (.returned (.tuple #[])) (w3.setCell ⟨gl,4,none⟩ v3)):=fun v3 w3 hO3 hG3=>by
   have S3:=S7.grew L6.nl hG3 hO3;have lk3:=(zaa own6 (.row 45 10 v3 (ls.length+1) (xs++lineC (nx:Int) false (.slice none 0 0) 0 false (.slice none 0 0) 0 false false (.slice ah hd.length ch))) (show LN.link ≠ .lines from fun e=>by cases e)).trans L6.lk;refine ⟨⟨S3.cell lk3 4,S3.thaw lk3 4⟩,rfl,?_⟩;have S4:=S3.setObj lk3 4 v3;have S5':=(S4.nilRow (.e (3 * ls.length+1)) 5 1).nilRow (.e (3 * ls.length+2)) 5 1;refine ⟨_,v3,ls++[{ id:=nx,h:=hd }],_,dy.opened hd,S5',⟨?_,?_,?_,?_,?_,?_⟩,hl.add { id:=nx,h:=hd } (.slice none 0 0) (.slice none 0 0) (.slice ah hd.length ch) (fun i hi => ?_) (fun i hi => ?_) (.inl ?_) (.inl ?_) ?_,?_,by simp,T6,zsh _ _⟩
   ·exact (((L6.ex.updO (fun _ e=>by cases e) _).updO (fun _ e=>by cases e) _).updO (fun _ e=>by cases e) _).updO (fun _ e=>by cases e) _
   ·exact (((L6.ey.updO (fun _ e=>by cases e) _).updO (fun _ e=>by cases e) _).updO (fun _ e=>by cases e) _).updO (fun _ e=>by cases e) _
   ·rw [zaa _ _ (fun e=>by cases e),zaa _ _ (fun e=>by cases e),zad]; rfl
   ·rw [zaa _ _ (fun e=>by cases e),zaa _ _ (fun e=>by cases e),zaa _ _ (fun e=>by cases e),zaa _ _ (fun e=>by cases e)]; exact L6.nu
   ·rw [zaa _ _ (fun e=>by cases e),zaa _ _ (fun e=>by cases e),zaa _ _ (fun e=>by cases e),zaa _ _ (fun e=>by cases e)]; exact L6.nd
   ·rw [zaa _ _ (fun e=>by cases e),zaa _ _ (fun e=>by cases e),zaa _ _ (fun e=>by cases e),zad];have eb:lineC (nx:Int) false (.slice none 0 0) 0 false (.slice none 0 0) 0 false false (.slice ah hd.length ch)=lineOf { id:=nx,h:=hd } (.slice none 0 0) (.slice none 0 0) (.slice ah hd.length ch):=by
     show _=lineC (nx:Int) (nx % 2 == 1) _ _ _ _ _ _ _ _
     rw [hby]; rfl
    rw [eb,List.length_append]; rfl
   ·rw [zaa _ _ (fun e=>by injection e with e; omega),zaa _ _ (fun e=>by injection e with e; omega),zaa _ _ (fun e=>by cases e),zaa _ _ (fun e=>by cases e),e6,e5 i (by omega)]
   ·rw [zaa _ _ (fun e=>by injection e with e; omega),zaa _ _ (fun e=>by injection e with e; omega),zaa _ _ (fun e=>by cases e),zaa _ _ (fun e=>by cases e),e6,e5 i (by omega)]
   ·rw [zaa _ _ (fun e=>by injection e with e; omega),zad]; rfl
   ·rw [zad]; rfl
   ·rw [zaa _ _ (fun e=>by injection e with e; omega),zaa _ _ (fun e=>by injection e with e; omega),zaa _ _ (fun e=>by cases e),zaa _ _ (fun e=>by cases e),e6]; exact q5
   ·intro t ht;rcases List.mem_append.1 ht with ht | ht
    ·exact hsb t ht
    ·rw [List.mem_singleton.1 ht]; exact ⟨Nat.zero_le _,Nat.zero_le _⟩
  clear hnx T6 X6 L5 q5 e5 e6 L6 S6 S7 E6 kO ke S5 g0 g1 ho hby n3 hnew
  go_wp2_with (at_builtin; refine zak _ rfl (.tmp 25) (.tmp 30) 35 35 rfl 45 i0 (.agg #[.int .i64 0,.bool false,.slice none 0 0,.int .i64 0,.bool false,.slice none 0 0,.int .i64 0,.bool false,.bool false,.slice none 0 0]) 10 128 Tryz.underlying35 hi0 hz0 hz1 hz2 rfl _ _ _ rfl hrow7 _ _ _ rfl hsrc ?_ ?_ ?_)
  ·unfold maxLen; omega
  ·omega
  intro v8 w8 hO8 hG8;obtain ⟨⟨c4',t4'⟩,hfin⟩:=HST.out v8 w8 hO8 hG8;obtain ⟨al8,ol8,cl8,hvl8,-,-,-⟩:=hO8.at (by omega);subst hvl8;have HF:=hide hfin;clear hO8 hG8 hsrc HST hW7 c4 hfin hrow7
  go_wp2
  go_end0
  exact HF.out
 ·have L6:=L5.withY X6 (fun n _ _ h=>E6 n h);have HF:Hid (ROpy wb gl gx gy dx dy vu vd up down lv p m L S (.returned (.tuple #[])) w6):=by
   refine ⟨rfl,upd own6 (.e (3 * ls.length)) .none,_,ls,xs,dy,S6.drop _,L6.alike (fun n h _=>zaa _ _ (h _)),?_,hsb,h1l,H.mono (by omega),rfl⟩;refine hl.alike (fun i => ?_);by_cases e:i=3 * ls.length
   ·rw [e,zad]; exact (hl.free _ (Nat.le_refl _)).symm
   ·rw [zaa _ _ (fun x=>e (by injection x)),e6,e5 i e]
  have hne:((dy.open? hd:Int) == 0)=false:=by rw [beq_eq_false_iff_ne]; omega
  generalize dy.open? hd=er at *;clear hno X6 L5 q5 e5 e6 L6 S6 E6 kO ke S5 g0 g1 hnew
  go_wp2
  go_end0
  exact HF.out
end
open Go.RowKit
set_option maxRecDepth 100000
def Hold (wb:World) (gl:Nat) (lv:Bool) (p m L S:Nat) (Q:Ds→Ds→Prop) (w:World):Prop :=
 ∃ own gx gy dx dy vu vd vl up down ls xs,Sep wb w own∧LinkAt own gl gx gy dx dy vu vd vl up down ls.length xs lv∧LS own ls xs∧SB ls S∧1≤ls.length∧TD true dx dy up down ls p m L∧Q dx dy
def NoEv (d e:Ds):Prop:=d.ev=[]∧e.ev=[]
def AnyEv (_ _:Ds):Prop:=True
theorem Hold.ext {wb w w':World} {gl:Nat} {lv:Bool} {p m L S:Nat} {Q:Ds→Ds→Prop} (h:Hold wb gl lv p m L S Q w) (e:Ext w w'):Hold wb gl lv p m L S Q w':=by
 obtain ⟨own,gx,gy,dx,dy,vu,vd,vl,up,down,ls,xs,h1,h2⟩:=h;exact ⟨own,gx,gy,dx,dy,vu,vd,vl,up,down,ls,xs,h1.ext e,h2⟩
theorem Hold.mono {wb w:World} {gl:Nat} {lv:Bool} {p m L S p' m' S':Nat} {Q:Ds→Ds→Prop} (h:Hold wb gl lv p m L S Q w) (hp:p≤p') (hm:m'≤m) (hS:S≤S'):Hold wb gl lv p' m' L S' AnyEv w:=by
 obtain ⟨own,gx,gy,dx,dy,vu,vd,vl,up,down,ls,xs,h1,h2,h3,h4,h5,h6,-⟩:=h;have h6':=h6.mono hm;exact ⟨own,gx,gy,dx,dy,vu,vd,vl,up,down,ls,xs,h1,h2,h3,h4.mono hS,h5,⟨h6'.lk.more hp,h6'.nodup,h6'.has,h6'.od,h6'.oe,h6'.di,h6'.ei,h6'.ul,h6'.vl,h6'.db,h6'.eb⟩,trivial⟩
theorem TD.wide {c:Bool} {d e:Ds} {u v:Bytes} {ls:List Line} {p m L L':Nat} (H:TD c d e u v ls p m L) (hL:L≤L'):TD c d e u v ls p m L':=⟨H.lk,H.nodup,H.has,H.od,H.oe,H.di,H.ei,Nat.le_trans H.ul hL,Nat.le_trans H.vl hL,H.db,H.eb⟩
section
variable {wb w:World} {gl:Nat} {lv:Bool} {p m L S:Nat} {Q0:Ds→Ds→Prop}
theorem zzbgb (h:Hold wb gl lv p (m+2) L S Q0 w) (hm:5≤m) (c:Bool) (cc:Int) (hc1:-9223372036854775808≤cc) (hc2:cc≤9223372036854775807) :
  Calls Tryz.prog 33 #[.pointer (some ⟨gl,0,none⟩),.bool c,.int .i64 cc] w fun e w'=>e = .returned (.tuple #[])∧Hold wb gl lv p m L S AnyEv w':=by
 obtain ⟨own,gx,gy,dx,dy,vu,vd,vl,up,down,ls,xs,h1,h2,h3,h4,h5,h6,-⟩:=h;cases c
 ·refine (zzbcu h2 h1 h3 h4 h5 h6.swap hm cc hc1 hc2).mono ?_;rintro e w' ⟨rfl,own',vl',ls',xs',d',q1,q2,q3,q4,q5,q6,-⟩;exact ⟨rfl,own',gx,gy,dx,d',vu,vd,vl',up,down,ls',xs',q1,q2,q3,q4,q5,(TD.unswap (c:=true) q6),trivial⟩
 ·refine (zzbct h2 h1 h3 h4 h5 h6 hm cc hc1 hc2).mono ?_;rintro e w' ⟨rfl,own',vl',ls',xs',d',q1,q2,q3,q4,q5,q6,-⟩;exact ⟨rfl,own',gx,gy,d',dy,vu,vd,vl',up,down,ls',xs',q1,q2,q3,q4,q5,q6,trivial⟩
def Lines (gl nl:Nat) (w:World):Prop:=∃ al ol cl,w.cell? ⟨gl,4,none⟩=some (.slice (some ⟨al,ol,none⟩) nl cl)∧1≤nl∧nl≤99
def HoldN (nl:Nat) (wb:World) (gl:Nat) (lv:Bool) (p m L S:Nat) (Q:Ds→Ds→Prop) (w:World):Prop :=
 ∃ own gx gy dx dy vu vd vl up down ls xs,ls.length=nl∧Sep wb w own∧LinkAt own gl gx gy dx dy vu vd vl up down ls.length xs lv∧LS own ls xs∧SB ls S∧1≤ls.length∧TD true dx dy up down ls p m L∧Q dx dy
theorem Hold.num {Q:Ds→Ds→Prop} (h:Hold wb gl lv p m L S Q w):∃ nl,HoldN nl wb gl lv p m L S Q w∧Lines gl nl w:=by
 obtain ⟨own,gx,gy,dx,dy,vu,vd,vl,up,down,ls,xs,h1,h2,h3,h4,h5,h6,h7⟩:=h;obtain ⟨al,ol,cl,hv,-⟩:=h2.linesV h1 (by omega);subst hv;exact ⟨ls.length,⟨own,gx,gy,dx,dy,vu,vd,_,up,down,ls,xs,rfl,h1,h2,h3,h4,h5,h6,h7⟩,al,ol,cl,h2.cc h1 4,h5,h6.newStr.2⟩
theorem HoldN.hold {nl:Nat} {Q:Ds→Ds→Prop} (h:HoldN nl wb gl lv p m L S Q w):Hold wb gl lv p m L S Q w:=by
 obtain ⟨own,gx,gy,dx,dy,vu,vd,vl,up,down,ls,xs,-,h⟩:=h;exact ⟨own,gx,gy,dx,dy,vu,vd,vl,up,down,ls,xs,h⟩
theorem HoldN.ext {nl:Nat} {w':World} {Q:Ds→Ds→Prop} (h:HoldN nl wb gl lv p m L S Q w) (e:Ext w w'):HoldN nl wb gl lv p m L S Q w':=by
 obtain ⟨own,gx,gy,dx,dy,vu,vd,vl,up,down,ls,xs,h0,h1,h2⟩:=h;exact ⟨own,gx,gy,dx,dy,vu,vd,vl,up,down,ls,xs,h0,h1.ext e,h2⟩
theorem zzben {nl:Nat} (h:HoldN nl wb gl lv p (m+1) L S Q0 w) (hS:S≤100000) (c:Bool) (k:Nat) (hk:k < nl) (n:Nat) (hn:n≤300) :
  Calls Tryz.prog 34 #[.pointer (some ⟨gl,0,none⟩),.int .i64 (k:Int),.bool c,.int .i64 (n:Int)] w fun e w'=>e = .returned (.bool true)∧Hold wb gl lv p m L (S+300) AnyEv w':=by
 obtain ⟨own,gx,gy,dx,dy,vu,vd,vl,up,down,ls,xs,rfl,h1,h2,h3,h4,h5,h6,-⟩:=h;cases c
 ·refine (zzbae h2 h1 h3 h4 hS h6.swap k hk n hn).mono ?_;rintro e w' ⟨rfl,own',ls',xs',d',q1,q2,q3,q4,q5,q6,-⟩;exact ⟨rfl,own',gx,gy,dx,d',vu,vd,vl,up,down,ls',xs',q1,q2,q3,q4,by omega,(TD.unswap (c:=true) q6),trivial⟩
 ·refine (zzbad h2 h1 h3 h4 hS h6 k hk n hn).mono ?_;rintro e w' ⟨rfl,own',ls',xs',d',q1,q2,q3,q4,q5,q6,-⟩;exact ⟨rfl,own',gx,gy,d',dy,vu,vd,vl,up,down,ls',xs',q1,q2,q3,q4,by omega,q6,trivial⟩
theorem zzbgc {nl:Nat} (h:HoldN nl wb gl lv p (m+3) L S NoEv w) (hS:S≤100000) (hm:10≤m) (c:Bool) (k:Nat) (hk:k < nl) (n:Nat) (hn:n≤1000) :
  Calls Tryz.prog 14 #[.pointer (some ⟨gl,0,none⟩),.int .i64 (k:Int),.bool c,.int .i64 (n:Int)] w fun e w'=>e = .returned (.bool true)∧Hold wb gl lv p m L S AnyEv w':=by
 obtain ⟨own,gx,gy,dx,dy,vu,vd,vl,up,down,ls,xs,rfl,h1,h2,h3,h4,h5,h6,h7,h8⟩:=h;cases c
 ·refine (zzbcs h2 h1 h3 h4 hS h6.swap hm h8 k hk n hn).mono ?_;rintro e w' ⟨rfl,own',ls',xs',d',q1,q2,q3,q4,q5,q6,-⟩;exact ⟨rfl,own',gx,gy,dx,d',vu,vd,vl,up,down,ls',xs',q1,q2,q3,q4,by omega,(TD.unswap (c:=true) q6),trivial⟩
 ·refine (zzbcr h2 h1 h3 h4 hS h6 hm h7 k hk n hn).mono ?_;rintro e w' ⟨rfl,own',ls',xs',d',q1,q2,q3,q4,q5,q6,-⟩;exact ⟨rfl,own',gx,gy,d',dy,vu,vd,vl,up,down,ls',xs',q1,q2,q3,q4,by omega,q6,trivial⟩
theorem TD.goodIn {c:Bool} {d e:Ds} {u v:Bytes} {ls:List Line} {R:Nat} (H:TD c d e u v ls p (m+300+2 * L+2 * R) L) (room:Int) (hR:(d.out room).2.length≤R) :
  ∀ (D:Ds) (j k:Nat),(D=e∧j=0∨D=e.takes ((u++(d.out room).2).take j))→j+k≤(u++(d.out room).2).length→D.failed=false→D.inn.length+k≤68719476736∧GoodB 0 50000010 { D with inn:=D.inn++((u++(d.out room).2).drop j).take k }:=by
 intro D j k hD hj hf;have hul:=H.ul;have hei:=H.ei;have hcb:=H.oe.fits.ctl;have hlen:(u++(d.out room).2).length≤L+R:=by rw [List.length_append]; omega
 generalize u++(d.out room).2=U at hD hj hlen ⊢;have htl:(U.take j).length=j:=by rw [List.length_take]; omega
 have hdl:((U.drop j).take k).length=k:=by rw [List.length_take,List.length_drop]; omega
 have hDD:D.inn.length≤69∧D.Ok (m+L+R+100) 0 50000010:=by
  rcases hD with ⟨e1,e2⟩ | e1
  ·rw [e1]; exact ⟨hei,H.oe.mono (by omega)⟩
  ·rw [e1] at hf ⊢;refine ⟨?_,?_⟩
   ·rcases zne e (U.take j) with q | q
    ·rw [q] at hf; cases hf
    ·exact q
   ·exact Ds.Ok.takes _ (H.oe.mono (by rw [htl]; omega)) (by rw [htl]; omega)
 refine ⟨by omega,?_⟩;unfold GoodB;refine (hDD.2.inn _ (by rw [List.length_append,hdl]; omega)).mono ?_
 show 6+(D.inn++(U.drop j).take k).length≤_
 rw [List.length_append,hdl];omega
theorem zzbgd (h:Hold wb gl lv p (m+1000+2 * L) L S Q0 w) (c:Bool) (room n piece:Nat) (hr:room≤300) (hn:n≤1000) (hp0:1≤piece) (hp:piece≤1000) (hL:L≤1000000) :
  Calls Tryz.prog 13 #[.pointer (some ⟨gl,0,none⟩),.bool c,.int .i64 (room:Int),.int .i64 (n:Int),.int .i64 (piece:Int)] w fun e w'=>e = .returned (.tuple #[])∧Hold wb gl lv p m (L+300) S AnyEv w':=by
 obtain ⟨own,gx,gy,dx,dy,vu,vd,vl,up,down,ls,xs,h1,h2,h3,h4,h5,h6,-⟩:=h;cases c
 ·have H:=h6.swap;have hR:(dy.out (room:Int)).2.length≤300:=by have:=H.outRoom (room:Int); omega
  obtain ⟨o1,-⟩:=H.lk.outE (c:=0) H.od (by omega);have hul:=H.ul;refine (zgw h2 h1 (room:Int) (n:Int) (piece:Int) (by omega) (by omega) (by omega) (by omega) (by omega) (by omega) o1.out H.od.ck (GoodB 0 50000010) (zio 0 50000010) (by omega) (TD.goodIn (m:=m+100) (R:=300) (H.mono (by omega)) (room:Int) hR)).mono ?_;rintro e w' ⟨rfl,own',v',q1,q2,q3⟩;refine ⟨rfl,own',gx,gy,_,_,vu,v',vl,up,_,ls,xs,q1,q2,h3.alike q3,h4,h5,TD.unswap (TD.carry (R:=300) (m:=m) (H.mono (by omega)) (room:Int) hR (n:Int)),trivial⟩
 ·have H:=h6;have hR:(dx.out (room:Int)).2.length≤300:=by have:=H.outRoom (room:Int); omega
  obtain ⟨o1,-⟩:=H.lk.outE (c:=0) H.od (by omega);have hul:=H.ul;refine (zjg h2 h1 (room:Int) (n:Int) (piece:Int) (by omega) (by omega) (by omega) (by omega) (by omega) (by omega) o1.out H.od.ck (GoodB 0 50000010) (zio 0 50000010) (by omega) (TD.goodIn (m:=m+100) (R:=300) (H.mono (by omega)) (room:Int) hR)).mono ?_;rintro e w' ⟨rfl,own',v',q1,q2,q3⟩;refine ⟨rfl,own',gx,gy,_,_,v',vd,vl,_,down,ls,xs,q1,q2,h3.alike q3,h4,h5,TD.carry (R:=300) (m:=m) (H.mono (by omega)) (room:Int) hR (n:Int),trivial⟩
end
open Go.RowKit
set_option maxRecDepth 100000
theorem LS.setC {own own':LN→Res} {ls:List Line} {xs:List Value} (h:LS own ls xs) {k:Nat} {t:Line} (hk:ls[k]? = some t) (j:Nat) (hj:j < 10) (u:Value) (f:Line→Line) (ho:∀ i,own' (.e i)=own (.e i)) (h1:(f t).client.sent=t.client.sent) (h2:(f t).server.sent=t.server.sent) (h3:(f t).h=t.h) (hl:∀ vc vs vh,lineOf (f t) vc vs vh=(lineOf t vc vs vh).set j u):LS own' (ls.modify k f) (xs.set (10 * k+j) u):=by
 have hkl:k < ls.length:=(List.getElem?_eq_some_iff.1 hk).1;have hlen:=h.len;obtain ⟨vc,vs,vh,q1,q2,q3,q4⟩:=h.at_ k t hk;refine h.mod hk _ (List.length_set ..) (fun i hi => ?_) (fun i _=>ho i) ⟨vc,vs,vh,fun i hi => ?_,?_,?_,?_⟩
 ·rw [zdt _ _ _ _ (by omega),if_neg (by omega)]
 ·rw [zdt _ _ _ _ (by omega),hl,zdt _ _ _ _ (by simp [lineOf,lineC]; omega)];by_cases e:i=j
  ·rw [if_pos (by omega),if_pos e]
  ·rw [if_neg (by omega),if_neg e]; exact q1 i hi
 ·rw [h1]; exact q2.alike (ho _)
 ·rw [h2]; exact q3.alike (ho _)
 ·rw [h3]; exact (ho _).trans q4
section
variable {c:Bool} {d e:Ds} {u v:Bytes} {ls:List Line} {p m L:Nat}
theorem TD.carryAll {R:Nat} (H:TD c d e u v ls p (m+300+L+R) L) (room:Int) (hR:(d.out room).2.length≤R) (n:Int) (hn0:0 < n) (hn:((L+R:Nat):Int)≤n) :
  TD c (d.out room).1 (e.takes (u++(d.out room).2)) [] v ls p m L:=by
 have T:=H.carry room hR n;have hul:=H.ul;have hl:(u++(d.out room).2).length≤L+R:=by rw [List.length_append]; omega
 obtain ⟨e1,e2⟩:=zit e (u++(d.out room).2) n hn0 (by omega);rw [e1,e2] at T;exact ⟨T.lk,T.nodup,T.has,T.od,T.oe,T.di,T.ei,Nat.zero_le _,H.vl,T.db,T.eb⟩
end
section
variable {wb w:World} {gl:Nat} {lv:Bool} {p m L S:Nat} {Q0:Ds→Ds→Prop}
theorem h_all (h:Hold wb gl lv p (m+300+2 * L+2 * (9 * (10050+p)+881100)) L S Q0 w) (c:Bool) (R:Int) (hR:R=1099511627776) (hp:p≤10000) (hL:L≤1000000) :
  Calls Tryz.prog 13 #[.pointer (some ⟨gl,0,none⟩),.bool c,.int .i64 R,.int .i64 R,.int .i64 R] w fun e w'=>e = .returned (.tuple #[])∧Hold wb gl lv p m L S AnyEv w':=by
 obtain ⟨own,gx,gy,dx,dy,vu,vd,vl,up,down,ls,xs,h1,h2,h3,h4,h5,h6,-⟩:=h;cases c
 ·have H:=h6.swap;have hO:=H.outLen R;obtain ⟨o1,-⟩:=H.lk.outE (c:=0) H.od (by omega);have hul:=H.ul;refine (zgw h2 h1 R R R (by omega) (by omega) (by omega) (by omega) (by omega) (by omega) o1.out H.od.ck (GoodB 0 50000010) (zio 0 50000010) (by omega) (TD.goodIn H R hO)).mono ?_;rintro e w' ⟨rfl,own',v',q1,q2,q3⟩;have T:=TD.carryAll (m:=m) (H.mono (by omega)) R hO R (by omega) (by omega);obtain ⟨e1,e2⟩:=zit dx (down++(dy.out R).2) R (by omega) (by rw [List.length_append]; omega);rw [e1,e2] at q2;exact ⟨rfl,own',gx,gy,_,_,vu,v',vl,up,_,ls,xs,q1,q2,h3.alike q3,h4,h5,TD.unswap (c:=true) T,trivial⟩
 ·have H:=h6;have hO:=H.outLen R;obtain ⟨o1,-⟩:=H.lk.outE (c:=0) H.od (by omega);have hul:=H.ul;refine (zjg h2 h1 R R R (by omega) (by omega) (by omega) (by omega) (by omega) (by omega) o1.out H.od.ck (GoodB 0 50000010) (zio 0 50000010) (by omega) (TD.goodIn H R hO)).mono ?_;rintro e w' ⟨rfl,own',v',q1,q2,q3⟩;have T:=TD.carryAll (m:=m) (H.mono (by omega)) R hO R (by omega) (by omega);obtain ⟨e1,e2⟩:=zit dy (up++(dx.out R).2) R (by omega) (by rw [List.length_append]; omega);rw [e1,e2] at q2;exact ⟨rfl,own',gx,gy,_,_,v',vd,vl,_,down,ls,xs,q1,q2,h3.alike q3,h4,h5,T,trivial⟩
theorem Hold.less {m':Nat} (h:Hold wb gl lv p m L S Q0 w) (hm:m'≤m):Hold wb gl lv p m' L S Q0 w:=by
 obtain ⟨own,gx,gy,dx,dy,vu,vd,vl,up,down,ls,xs,h1,h2,h3,h4,h5,h6,h7⟩:=h;exact ⟨own,gx,gy,dx,dy,vu,vd,vl,up,down,ls,xs,h1,h2,h3,h4,h5,h6.mono hm,h7⟩
set_option maxHeartbeats 3200000 in
theorem zzbeo (K:Nat) (h:Hold wb gl lv p (m+5 * K) L S AnyEv w) (hK:2 * (300+2 * L+2 * (9 * (10050+p)+881100))≤K) (hp:p≤10000) (hL:L≤1000000) :
  Calls Tryz.prog 23 #[.pointer (some ⟨gl,0,none⟩)] w fun e w'=>e = .returned (.tuple #[])∧Hold wb gl lv p m L S AnyEv w':=by
 obtain ⟨C,hC⟩:∃ C,C=300+2 * L+2 * (9 * (10050+p)+881100):=⟨_,rfl⟩;have hle:∀ j:Nat,j+300+2 * L+2 * (9 * (10050+p)+881100)≤j+C:=fun j=>by
  clear h hK;rw [hC,Nat.add_assoc j,Nat.add_assoc j];exact Nat.le_refl _
 have HA:Hid (∀ (c:Bool) (j:Nat) (w:World),Hold wb gl lv p (j+C) L S AnyEv w→Calls Tryz.prog 13 #[.pointer (some ⟨gl,0,none⟩),.bool c,.int .i64 1099511627776,.int .i64 1099511627776,.int .i64 1099511627776] w fun e w'=>e = .returned (.tuple #[])∧Hold wb gl lv p j L S AnyEv w'):=fun c j w h=>by
  obtain ⟨R,hR⟩:∃ R:Int,R=1099511627776:=⟨_,rfl⟩;have q:=h_all (m:=j) (h.less (hle j)) c R hR hp hL;rw [hR] at q;exact q
 have HK:Hid (2 * C≤K):=by rw [hC]; exact hK
 have HH:=hide h;clear h hK hC
 go_enter Tryz.func23,Tryz.ntmps23
 go_wp2
 go_loopw [2] (fun s2 wr => ∃ (i j:Nat),i+j=5∧s2 = .int .i64 (i:Int)∧Hid (Hold wb gl lv p (m+j * K) L S AnyEv wr)) (fun s2 _=>5 - (intOf s2).toNat)
 case atStart=>exact ⟨0,5,rfl,rfl,HH⟩
 case round =>
  obtain ⟨i,j,hij,rfl,H1⟩:=hrel;by_cases hlt:i < 5
  ·obtain ⟨j,rfl⟩:∃ j',j=j'+1:=⟨j - 1,by omega⟩;have k1:=HA.out true (m+j * K+C) wr (H1.out.less (by have:=HK.out; rw [Nat.succ_mul]; omega));have hlt':(i:Int) < 5:=by omega
   go_wp2_with fail
   refine k1.mono ?_;rintro e w2 ⟨rfl,H2⟩;have k2:=HA.out false (m+j * K) w2 H2;clear k1 H2
   go_wp2_with fail
   refine k2.mono ?_;rintro e w3 ⟨rfl,H3⟩;have H4:=hide H3;clear k2 H3
   go_wp2
   go_roundw
   case rel=>exact ⟨i+1,j,by omega,by go_num,H4⟩
   case measure=>simp [intOf]; omega
  ·have hj:Hid (j=0):=by show j=0; omega
   have hlt':decide ((i:Int) < 5)=false:=by simp; omega
   go_wp2
   go_end0
   have q:=H1.out;rw [hj.out,Nat.zero_mul,Nat.add_zero] at q;exact ⟨rfl,q⟩
end
end Go.Proofs.YtoijpogadkogcaaGreat
