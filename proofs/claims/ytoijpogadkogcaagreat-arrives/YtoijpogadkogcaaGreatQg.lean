import Derived.Test.YtoijpogadkogcaaGreatQf
namespace Go.Proofs.YtoijpogadkogcaaGreat
open Go.RowKit
set_option maxRecDepth 100000
theorem zrb(d:Ds)(m:Bool)(k:Int):(d.bump m k).failed=d.failed:=by cases m<;>rfl
theorem zma(d:Ds)(s:DS)(to:Nat):(d.move s to).failed=d.failed:=zrb d _ _
theorem zse(d:Ds)(s:DS)(to:Nat):(d.move s to).str s.id=some (Ds.moved s to):=zdt _ _ _
theorem zyo(d:Ds)(n:Nat):(d.enter n).failed=d.failed:=by unfold Ds.enter;split<;>rfl
theorem zzbgl(d:Ds)(n:Nat):(d.enter n).str=d.str:=by unfold Ds.enter;split<;>rfl
theorem zkn(d:Ds)(s:DS):(d.place s).failed=d.failed:=by unfold Ds.place;split;exact zyo _ _;rfl
theorem zpe(d:Ds)(s:DS):(d.place s).str=d.str:=by unfold Ds.place;split;exact zzbgl _ _;rfl
theorem Ds.Fits.bump{d:Ds}{m:Nat}(h:d.Fits (m+1))(b:Bool)(k:Int)(h0:-1000<=k)(h1:k<=1000):(d.bump b k).Fits m:=by
 have q0:=h.mCount0;have q1:=h.mCount1;have q2:=h.tCount0;have q3:=h.tCount1;have g:=h.mono (Nat.le_succ m);cases b
 ·exact⟨g.mLast,g.tLast,g.mMost,g.tMost,g.mCount0,g.mCount1,by show _<=d.tCount+k;omega,by show d.tCount+k+_<=_;omega,g.from0,g.from1,g.to0,g.to1,g.ctl,g.ring,g.ev,g.inn,g.pings,g.coming,g.bodies,g.st⟩
 ·exact⟨g.mLast,g.tLast,g.mMost,g.tMost,by show _<=d.mCount+k;omega,by show d.mCount+k+_<=_;omega,g.tCount0,g.tCount1,g.from0,g.from1,g.to0,g.to1,g.ctl,g.ring,g.ev,g.inn,g.pings,g.coming,g.bodies,g.st⟩
theorem DS.Fits.moved{s:DS}(h:s.Fits){to:Nat}(ht:to<=8):(Ds.moved s to).Fits:=⟨h.id,ht,h.from0,h.from1,h.to0,h.to1,h.headers,h.block,h.data,h.code⟩
theorem Ds.Fits.move{d:Ds}{m:Nat}(h:d.Fits (m+1)){s:DS}(hs:s.Fits){to:Nat}(ht:to<=8):(d.move s to).Fits m :=
 (h.bump _ _ (by unfold Ds.shift;split<;>split<;>omega) (by unfold Ds.shift;split<;>split<;>omega)).setS _ _ (hs.moved ht)
theorem Ds.Fits.ring'{d:Ds}{m:Nat}(h:d.Fits m)(r:List Nat)(hr:r.length+1000*m<=68719476736):Ds.Fits { d with ring:=r } m :=
 ⟨h.mLast,h.tLast,h.mMost,h.tMost,h.mCount0,h.mCount1,h.tCount0,h.tCount1,h.from0,h.from1,h.to0,h.to1,h.ctl,hr,h.ev,h.inn,h.pings,h.coming,h.bodies,h.st⟩
theorem Ds.Fits.enter{d:Ds}{m:Nat}(h:d.Fits (m+1))(n:Nat):(d.enter n).Fits m:=by
 have q:=h.ring;unfold Ds.enter;split
 ·exact h.mono (Nat.le_succ m)
 ·exact(h.mono (Nat.le_succ m)).ring' _ (by rw[List.length_append,List.length_singleton];omega)
theorem Ds.Fits.place{d:Ds}{m:Nat}(h:d.Fits (m+1))(s:DS):(d.place s).Fits m:=by
 have q:=h.ring;unfold Ds.place;split
 ·exact h.enter _
 ·refine(h.mono (Nat.le_succ m)).ring' _ ?_
  have:=List.length_filter_le (λk=>k != s.id) d.ring
  omega
theorem Ds.Fits.lay{d:Ds}{m:Nat}(h:d.Fits (m+1))(kind flags id:Nat)(body:Bytes)(hb:body.length<=1000)(hid:id<=65535):(d.lay kind flags id body).Fits m:=by
 have q:=h.ctl;have g:=h.mono (Nat.le_succ m);refine⟨g.mLast,g.tLast,g.mMost,g.tMost,g.mCount0,g.mCount1,g.tCount0,g.tCount1,g.from0,g.from1,g.to0,g.to1,?_,g.ring,g.ev,g.inn,g.pings,g.coming,?_,g.st⟩
 ·show (d.ctl++[_]).length+_<=_
  rw[List.length_append,List.length_singleton];omega
 ·intro f hf;have hf':f∈d.ctl++[(kind,flags,id,body)]:=hf;rw[List.mem_append,List.mem_singleton] at hf';rcases hf' with hf' | rfl
  ·exact g.bodies f hf'
  ·exact⟨hb,hid⟩
theorem Ds.Fits.tell{d:Ds}{m:Nat}(h:d.Fits (m+1))(kind id code:Nat):(d.tell kind id code).Fits m:=by have q:=h.ev;have g:=h.mono (Nat.le_succ m);exact⟨g.mLast,g.tLast,g.mMost,g.tMost,g.mCount0,g.mCount1,g.tCount0,g.tCount1,g.from0,g.from1,g.to0,g.to1,g.ctl,g.ring,by show (d.ev++[_]).length+_<=_;rw[List.length_append,List.length_singleton];omega,g.inn,g.pings,g.coming,g.bodies,g.st⟩
theorem Ds.Fits.give0{d:Ds}{m:Nat}(h:d.Fits (m+2))(n:Nat)(hn:n<=1000):(d.give0 n).Fits m:=by have q:=h.to1;have q0:=h.to0;exact((h.mono (Nat.le_succ (m+1))).to_ (d.to_+n) (by omega) (by omega)).lay _ _ _ _ (by simp[two]) (by omega)
section
variable {N:Type} {own:N->Res} {nm:DN->N} {g:Nat} {d:Ds} {v:DV} {wb w:World}
set_option maxHeartbeats 1600000 in
theorem zzbmn(h:zaa own nm g d v)(hs:Sep wb w own)(hf:d.Fits 1){s:DS}(hn:d.str s.id=some s) :
  Calls Tryz.prog 133 #[.pointer (some ⟨v.ptr s.id,0,none⟩)] w λe w'=>e = .returned (.tuple #[])/\zaf nm g wb own d v w' (d.move s (Ds.hereTo s)):=by
 have f2:=h.s2 hs hn;by_cases h3:s.state=3
 ·have HT:Hid (Ds.hereTo s=4):=by show _=_;unfold Ds.hereTo;rw[if_pos h3]
  rw[HT.out];have k:=zcp h hs hf hn 4 (by omega);rw[h3] at f2
  go_enter Tryz.func133,Tryz.ntmps133
  go_wp2_with fail
  refine k.mono ?_;rintro e w1 ⟨rfl,hL⟩
  go_wp2
  refine bodyPost_ret (results_none rfl _ _ _) rfl ?_;exact⟨rfl,hL⟩
 ·have HT:Hid (Ds.hereTo s=2):=by show _=_;unfold Ds.hereTo;rw[if_neg h3]
  rw[HT.out];have k:=zcp h hs hf hn 2 (by omega);have h3b:((s.state:Int) == 3)=false:=by simp;omega
  go_enter Tryz.func133,Tryz.ntmps133
  go_wp2_with fail
  refine k.mono ?_;rintro e w1 ⟨rfl,hL⟩
  go_wp2
  go_end0
  exact⟨rfl,hL⟩
set_option maxHeartbeats 1600000 in
theorem zli(w:World)(p k:Nat)(c:w.cell? ⟨p,2,none⟩=some (.int .i64 (k:Int)))(h1:k≠1)(h2:k≠2)(h6:k≠6) :
  Calls Tryz.prog 175 #[.pointer (some ⟨p,0,none⟩)] w λe w'=>e = .returned (.tuple #[])/\w'=w:=by
 have b1:((k:Int) == 1)=false:=by simp;omega
 have b2:((k:Int) == 2)=false:=by simp;omega
 have b6:((k:Int) == 6)=false:=by simp;omega
 go_enter Tryz.func175,Tryz.ntmps175
 go_wp2
 go_end0
 exact⟨rfl,rfl⟩
set_option maxHeartbeats 1600000 in
theorem zml(h:zaa own nm g d v)(hs:Sep wb w own)(hf:d.Fits 1){s:DS}(hn:d.str s.id=some s) :
  Calls Tryz.prog 175 #[.pointer (some ⟨v.ptr s.id,0,none⟩)] w λe w'=>e = .returned (.tuple #[])/\zaf nm g wb own d v w' (d.endThere s):=by
 have f2:=h.s2 hs hn;by_cases h1:s.state=1
 ·have HT:Hid (d.endThere s=d.move s 3):=by show _=_;unfold Ds.endThere Ds.thereTo;rw[if_pos h1]
  rw[HT.out];have k:=zcp h hs hf hn 3 (by omega);rw[h1] at f2
  go_enter Tryz.func175,Tryz.ntmps175
  go_wp2_with fail
  refine k.mono ?_;rintro e w1 ⟨rfl,hL⟩
  go_wp2
  go_end0
  exact⟨rfl,hL⟩
 by_cases h2:s.state=2
 ·have HT:Hid (d.endThere s=d.move s 4):=by show _=_;unfold Ds.endThere Ds.thereTo;rw[if_neg h1,if_pos h2]
  rw[HT.out];have k:=zcp h hs hf hn 4 (by omega);rw[h2] at f2
  go_enter Tryz.func175,Tryz.ntmps175
  go_wp2_with fail
  refine k.mono ?_;rintro e w1 ⟨rfl,hL⟩
  go_wp2
  go_end0
  exact⟨rfl,hL⟩
 by_cases h6:s.state=6
 ·have HT:Hid (d.endThere s=d.move s 7):=by show _=_;unfold Ds.endThere Ds.thereTo;rw[if_neg h1,if_neg h2,if_pos h6]
  rw[HT.out];have k:=zcp h hs hf hn 7 (by omega);rw[h6] at f2
  go_enter Tryz.func175,Tryz.ntmps175
  go_wp2_with fail
  refine k.mono ?_;rintro e w1 ⟨rfl,hL⟩
  go_wp2
  go_end0
  exact⟨rfl,hL⟩
 ·have HT:d.endThere s=d:=by unfold Ds.endThere Ds.thereTo;rw[if_neg h1,if_neg h2,if_neg h6]
  rw[HT];refine(zli w (v.ptr s.id) s.state f2 h1 h2 h6).mono ?_;rintro e w' ⟨rfl,hw⟩;replace hw:=hw.symm;subst hw;exact⟨rfl,h.left hs⟩
theorem zyp(g:Nat)(s:DS)(v:DSV)(x:Nat):(zba g s v).setIfInBounds 10 (.int .i64 (x:Int))=zba g { s with code:=x } v:=rfl
theorem zzbgm(d:Ds)(s s':DS)(to:Nat)(e:s'.id=s.id):(d.setS s.id s').move s' to=d.move s' to:=by
 unfold Ds.move Ds.bump Ds.setS;cases s'.mine
 ·simp only[Bool.false_eq_true,if_false];congr 1;funext k
  by_cases ek:k=s'.id
  ·rw[if_pos ek,if_pos ek]
  ·rw[if_neg ek,if_neg ek,if_neg (by rw[<-e];exact ek)]
 ·simp only[if_true];congr 1;funext k
  by_cases ek:k=s'.id
  ·rw[if_pos ek,if_pos ek]
  ·rw[if_neg ek,if_neg ek,if_neg (by rw[<-e];exact ek)]
set_option maxHeartbeats 1600000 in
theorem ztq(h:zaa own nm g d v)(hs:Sep wb w own)(hf:d.Fits 1){s:DS}(hn:d.str s.id=some s)(code:Nat)(hc:code<=255) :
  Calls Tryz.prog 78 #[.pointer (some ⟨v.ptr s.id,0,none⟩),.int .i64 (code:Int)] w λe w'=>e = .returned (.tuple #[])/\zaf nm g wb own d v w' (d.breakHere s code):=by
 have fs:=hf.st _ _ hn;have f10:=h.s10 hs hn;have t10:=h.sthaw hs hn 10;have S1:=hs.setObj (h.st hn) 10 (.int .i64 (code:Int));rw[zyp] at S1;have H1:=h.scalS hn { s with code:=code } rfl rfl rfl rfl rfl rfl rfl;have F1:(d.setS s.id { s with code:=code }).Fits 1:=hf.setS _ _ ⟨fs.id,fs.state,fs.from0,fs.from1,fs.to0,fs.to1,fs.headers,fs.block,fs.data,hc⟩;have n1:(d.setS s.id { s with code:=code }).str ({ s with code:=code }:DS).id=some { s with code:=code }:=zdt _ _ _;have KL:=λto w' (hL:zaf nm g wb (upd own (nm (.st s.id)) (.obj (v.ptr s.id) (.cells (zba g { s with code:=code } (v.sv s.id)) 94 (0,0)))) (d.setS s.id { s with code:=code }) v w' ((d.setS s.id { s with code:=code }).move { s with code:=code } to)) =>
  hide (show zaf nm g wb own d v w' (d.move { s with code:=code } to) from by
   rw[zzbgm d s { s with code:=code } to rfl] at hL;exact hL.trans ((zai.refl nm own).upd _ _) rfl (λ_=>rfl) (λk hk=>⟨rfl,zbf d _ _ k hk⟩))
 obtain⟨W1,hW1⟩:∃ W1,World.setCell w ⟨v.ptr s.id,10,none⟩ (.int .i64 (code:Int))=W1:=⟨_,rfl⟩;rw[hW1] at S1;have g6:=H1.s6 S1 n1;have g2:=H1.s2 S1 n1;dsimp only at g6 g2;by_cases hb:s.block=[]
 ·rw[h.nilB s.id s hn hb] at g6;by_cases h2:s.state=2
  ·have HB:Hid (d.breakHere s code=d.move { s with code:=code } 6):=by show _=_;unfold Ds.breakHere Ds.breakTo;rw[if_neg (by simp[hb]),if_pos h2]
   rw[HB.out];have k:=zcp H1 S1 F1 n1 6 (by omega);rw[h2] at g2;clear hb h2
   go_enter Tryz.func78,Tryz.ntmps78
   go_wp2_with fail
   refine k.mono ?_;rintro e w1 ⟨rfl,hL⟩;have HL:=KL _ _ hL;clear hL
   go_wp2
   go_end0
   exact⟨rfl,HL.out⟩
  ·have HB:Hid (d.breakHere s code=d.move { s with code:=code } 5):=by show _=_;unfold Ds.breakHere Ds.breakTo;rw[if_neg (by simp[hb]),if_neg h2]
   rw[HB.out];have k:=zcp H1 S1 F1 n1 5 (by omega);have h2b:((s.state:Int) == 2)=false:=by simp;omega
   clear hb h2
   go_enter Tryz.func78,Tryz.ntmps78
   go_wp2_with fail
   refine k.mono ?_;rintro e w1 ⟨rfl,hL⟩;have HL:=KL _ _ hL;clear hL
   go_wp2
   go_end0
   exact⟨rfl,HL.out⟩
 ·obtain⟨a6,o6,k6,e6,-⟩:=h.blockV hs hn hb;rw[e6] at g6;have HB:Hid (d.breakHere s code=d.move { s with code:=code } 8):=by show _=_;unfold Ds.breakHere Ds.breakTo;rw[if_pos hb]
  rw[HB.out];have k:=zcp H1 S1 F1 n1 8 (by omega);clear hb e6
  go_enter Tryz.func78,Tryz.ntmps78
  go_wp2_with fail
  refine k.mono ?_;rintro e w1 ⟨rfl,hL⟩;have HL:=KL _ _ hL;clear hL
  go_wp2
  go_end0
  exact⟨rfl,HL.out⟩
end
section
variable {N:Type} {own:N->Res} {nm:DN->N} {g:Nat} {d:Ds} {v:DV} {wb w:World}
set_option maxHeartbeats 6400000 in
theorem zzbgn(h:zaa own nm g d v)(hs:Sep wb w own)(hf:d.Fits 1){s:DS}(hn:d.str s.id=some s)(hm:s.mine=true)(hc:zav s.state=true)(to:Nat)(hto:to<=7) :
  Calls Tryz.prog 129 #[.pointer (some ⟨v.ptr s.id,0,none⟩),.int .i64 (to:Int)] w λe w'=>e = .returned (.tuple #[])/\zaf nm g wb own d v w' (d.move s to) /\ ∀ b,b≠g->b≠v.ptr s.id->w'.heap[b]? = w.heap[b]?:=by
 have q0:=hf.mCount0;have q1:=hf.mCount1;have fs:=hf.st _ _ hn;have kc:=zby s.state fs.state w;have f1:=h.s1 hs hn;rw[hm] at f1;simp only[if_true] at f1;have f2:=h.s2 hs hn;have f5:=h.s5 hs hn;have fc:=h.c3 hs;have tc:=h.thaw hs 3;have t2:=h.sthaw hs hn 2;obtain⟨W1,hW1⟩:∃ W,World.setCell w ⟨g,3,none⟩ (.int .i64 (d.mCount-1))=W:=⟨_,rfl⟩;have SW1:=hs.setObj h.conn 3 (.int .i64 (d.mCount-1));rw[zke,hW1] at SW1;have HW1:=zaa.scal (d':={ d with mCount:=d.mCount-1 }) h rfl rfl rfl rfl rfl;have f1W1:World.cell? W1 ⟨v.ptr s.id,1,none⟩=some (.pointer (some ⟨g,0,none⟩)):=by rw[HW1.s1 SW1 hn,hm];rfl
 have fcW1:=HW1.c3 SW1;have f5W1:=HW1.s5 SW1 hn;have tcW1:=HW1.thaw SW1 3;have t2W1:=HW1.sthaw SW1 hn 2;have f2W1:=HW1.s2 SW1 hn;have kt:=zby to (by omega) W1;rw[hc] at kc;have h8:¬ to=8:=by omega
 have h8b:((to:Int) == 8)=false:=by simp;omega
 have hd:(to == 8 && s.headers.isEmpty)=false:=by simp[h8]
 cases ht:zav to with
 | true =>
  obtain⟨W2,hW2⟩:∃ W,World.setCell W1 ⟨g,3,none⟩ (.int .i64 (d.mCount))=W:=⟨_,rfl⟩;have SW2:=SW1.setObj HW1.conn 3 (.int .i64 (d.mCount));rw[zke,hW2] at SW2;have HW2:=zaa.scal (d':={ d with mCount:=d.mCount }) HW1 rfl rfl rfl rfl rfl;have f1W2:World.cell? W2 ⟨v.ptr s.id,1,none⟩=some (.pointer (some ⟨g,0,none⟩)):=by rw[HW2.s1 SW2 hn,hm];rfl
  have fcW2:=HW2.c3 SW2;have f5W2:=HW2.s5 SW2 hn;have tcW2:=HW2.thaw SW2 3;have t2W2:=HW2.sthaw SW2 hn 2;have f2W2:=HW2.s2 SW2 hn;rw[ht] at kt;have L:Hid (zaf nm g wb own d v (World.setCell W2 ⟨v.ptr s.id,2,none⟩ (.int .i64 (to:Int))) (d.move s to) /\ ∀ b,b≠g->b≠v.ptr s.id->(World.setCell W2 ⟨v.ptr s.id,2,none⟩ (.int .i64 (to:Int))).heap[b]? = w.heap[b]?):=⟨zjh hn hm SW2 HW2 (((zai.refl nm own).upd _ _).upd _ _) (x:=d.mCount) (to:=to) (by simp only[Ds.shift,hc,ht,if_true];omega) hd,λb h1 h2=>by rw[Below.heap_setCell _ _ _ _ h2,<-hW2,Below.heap_setCell _ _ _ _ h1,<-hW1,Below.heap_setCell _ _ _ _ h1]⟩
  clear hd hc ht h8
  go_enter Tryz.func129,Tryz.ntmps129
  go_wp2_with fail
  refine kc.mono ?_;rintro e w1 ⟨rfl,hw⟩;replace hw:=hw.symm;subst hw
  go_wp2_with fail
  refine(kt).mono ?_;rintro e w1 ⟨rfl,hw⟩;replace hw:=hw.symm;subst hw
  go_wp2
  go_end0
  exact⟨rfl,L.out⟩
 | false =>
  rw[ht] at kt;have L:Hid (zaf nm g wb own d v (World.setCell W1 ⟨v.ptr s.id,2,none⟩ (.int .i64 (to:Int))) (d.move s to) /\ ∀ b,b≠g->b≠v.ptr s.id->(World.setCell W1 ⟨v.ptr s.id,2,none⟩ (.int .i64 (to:Int))).heap[b]? = w.heap[b]?):=⟨zjh hn hm SW1 HW1 ((zai.refl nm own).upd _ _) (x:=d.mCount-1) (to:=to) (by simp only[Ds.shift,hc,ht,if_true,Bool.false_eq_true,if_false];omega) hd,λb h1 h2=>by rw[Below.heap_setCell _ _ _ _ h2,<-hW1,Below.heap_setCell _ _ _ _ h1]⟩
  clear hd hc ht h8
  go_enter Tryz.func129,Tryz.ntmps129
  go_wp2_with fail
  refine kc.mono ?_;rintro e w1 ⟨rfl,hw⟩;replace hw:=hw.symm;subst hw
  go_wp2_with fail
  refine(kt).mono ?_;rintro e w1 ⟨rfl,hw⟩;replace hw:=hw.symm;subst hw
  go_wp2
  go_end0
  exact⟨rfl,L.out⟩
set_option maxHeartbeats 6400000 in
theorem zzbgo(h:zaa own nm g d v)(hs:Sep wb w own)(hf:d.Fits 1){s:DS}(hn:d.str s.id=some s)(hm:s.mine=false)(hc:zav s.state=true)(to:Nat)(hto:to<=7) :
  Calls Tryz.prog 129 #[.pointer (some ⟨v.ptr s.id,0,none⟩),.int .i64 (to:Int)] w λe w'=>e = .returned (.tuple #[])/\zaf nm g wb own d v w' (d.move s to) /\ ∀ b,b≠g->b≠v.ptr s.id->w'.heap[b]? = w.heap[b]?:=by
 have q0:=hf.tCount0;have q1:=hf.tCount1;have fs:=hf.st _ _ hn;have kc:=zby s.state fs.state w;have f1:=h.s1 hs hn;rw[hm] at f1;simp only[Bool.false_eq_true,if_false] at f1;have f2:=h.s2 hs hn;have f5:=h.s5 hs hn;have fc:=h.c8 hs;have tc:=h.thaw hs 8;have t2:=h.sthaw hs hn 2;obtain⟨W1,hW1⟩:∃ W,World.setCell w ⟨g,8,none⟩ (.int .i64 (d.tCount-1))=W:=⟨_,rfl⟩;have SW1:=hs.setObj h.conn 8 (.int .i64 (d.tCount-1));rw[zkf,hW1] at SW1;have HW1:=zaa.scal (d':={ d with tCount:=d.tCount-1 }) h rfl rfl rfl rfl rfl;have f1W1:World.cell? W1 ⟨v.ptr s.id,1,none⟩=some (.pointer (some ⟨g,5,none⟩)):=by rw[HW1.s1 SW1 hn,hm];rfl
 have fcW1:=HW1.c8 SW1;have f5W1:=HW1.s5 SW1 hn;have tcW1:=HW1.thaw SW1 8;have t2W1:=HW1.sthaw SW1 hn 2;have f2W1:=HW1.s2 SW1 hn;have kt:=zby to (by omega) W1;rw[hc] at kc;have h8:¬ to=8:=by omega
 have h8b:((to:Int) == 8)=false:=by simp;omega
 have hd:(to == 8 && s.headers.isEmpty)=false:=by simp[h8]
 cases ht:zav to with
 | true =>
  obtain⟨W2,hW2⟩:∃ W,World.setCell W1 ⟨g,8,none⟩ (.int .i64 (d.tCount))=W:=⟨_,rfl⟩;have SW2:=SW1.setObj HW1.conn 8 (.int .i64 (d.tCount));rw[zkf,hW2] at SW2;have HW2:=zaa.scal (d':={ d with tCount:=d.tCount }) HW1 rfl rfl rfl rfl rfl;have f1W2:World.cell? W2 ⟨v.ptr s.id,1,none⟩=some (.pointer (some ⟨g,5,none⟩)):=by rw[HW2.s1 SW2 hn,hm];rfl
  have fcW2:=HW2.c8 SW2;have f5W2:=HW2.s5 SW2 hn;have tcW2:=HW2.thaw SW2 8;have t2W2:=HW2.sthaw SW2 hn 2;have f2W2:=HW2.s2 SW2 hn;rw[ht] at kt;have L:Hid (zaf nm g wb own d v (World.setCell W2 ⟨v.ptr s.id,2,none⟩ (.int .i64 (to:Int))) (d.move s to) /\ ∀ b,b≠g->b≠v.ptr s.id->(World.setCell W2 ⟨v.ptr s.id,2,none⟩ (.int .i64 (to:Int))).heap[b]? = w.heap[b]?):=⟨zji hn hm SW2 HW2 (((zai.refl nm own).upd _ _).upd _ _) (x:=d.tCount) (to:=to) (by simp only[Ds.shift,hc,ht,if_true];omega) hd,λb h1 h2=>by rw[Below.heap_setCell _ _ _ _ h2,<-hW2,Below.heap_setCell _ _ _ _ h1,<-hW1,Below.heap_setCell _ _ _ _ h1]⟩
  clear hd hc ht h8
  go_enter Tryz.func129,Tryz.ntmps129
  go_wp2_with fail
  refine kc.mono ?_;rintro e w1 ⟨rfl,hw⟩;replace hw:=hw.symm;subst hw
  go_wp2_with fail
  refine(kt).mono ?_;rintro e w1 ⟨rfl,hw⟩;replace hw:=hw.symm;subst hw
  go_wp2
  go_end0
  exact⟨rfl,L.out⟩
 | false =>
  rw[ht] at kt;have L:Hid (zaf nm g wb own d v (World.setCell W1 ⟨v.ptr s.id,2,none⟩ (.int .i64 (to:Int))) (d.move s to) /\ ∀ b,b≠g->b≠v.ptr s.id->(World.setCell W1 ⟨v.ptr s.id,2,none⟩ (.int .i64 (to:Int))).heap[b]? = w.heap[b]?):=⟨zji hn hm SW1 HW1 ((zai.refl nm own).upd _ _) (x:=d.tCount-1) (to:=to) (by simp only[Ds.shift,hc,ht,if_true,Bool.false_eq_true,if_false];omega) hd,λb h1 h2=>by rw[Below.heap_setCell _ _ _ _ h2,<-hW1,Below.heap_setCell _ _ _ _ h1]⟩
  clear hd hc ht h8
  go_enter Tryz.func129,Tryz.ntmps129
  go_wp2_with fail
  refine kc.mono ?_;rintro e w1 ⟨rfl,hw⟩;replace hw:=hw.symm;subst hw
  go_wp2_with fail
  refine(kt).mono ?_;rintro e w1 ⟨rfl,hw⟩;replace hw:=hw.symm;subst hw
  go_wp2
  go_end0
  exact⟨rfl,L.out⟩
theorem zrc(h:zaa own nm g d v)(hs:Sep wb w own)(hf:d.Fits 1){s:DS}(hn:d.str s.id=some s)(hc:zav s.state=true)(to:Nat)(hto:to<=7) :
  Calls Tryz.prog 129 #[.pointer (some ⟨v.ptr s.id,0,none⟩),.int .i64 (to:Int)] w λe w'=>e = .returned (.tuple #[])/\zaf nm g wb own d v w' (d.move s to) /\ ∀ b,b≠g->b≠v.ptr s.id->w'.heap[b]? = w.heap[b]?:=by
 cases hm:s.mine with
 | true=>exact zzbgn h hs hf hn hm hc to hto
 | false=>exact zzbgo h hs hf hn hm hc to hto
set_option maxHeartbeats 1600000 in
theorem zvk(h:zaa own nm g d v)(hs:Sep wb w own)(hf:d.Fits 1){s:DS}(hn:d.str s.id=some s)(hc:zav s.state=true) :
  Calls Tryz.prog 133 #[.pointer (some ⟨v.ptr s.id,0,none⟩)] w λe w'=>e = .returned (.tuple #[])/\zaf nm g wb own d v w' (d.move s (Ds.hereTo s)) /\ ∀ b,b≠g->b≠v.ptr s.id->w'.heap[b]? = w.heap[b]?:=by
 have f2:=h.s2 hs hn;by_cases h3:s.state=3
 ·have HT:Hid (Ds.hereTo s=4):=by show _=_;unfold Ds.hereTo;rw[if_pos h3]
  rw[HT.out];have k:=zrc h hs hf hn hc 4 (by omega);rw[h3] at f2
  go_enter Tryz.func133,Tryz.ntmps133
  go_wp2_with fail
  refine k.mono ?_;rintro e w1 ⟨rfl,hL⟩;have HL:=hide hL;clear hL
  go_wp2
  refine bodyPost_ret (results_none rfl _ _ _) rfl ?_;exact⟨rfl,HL.out⟩
 ·have HT:Hid (Ds.hereTo s=2):=by show _=_;unfold Ds.hereTo;rw[if_neg h3]
  rw[HT.out];have k:=zrc h hs hf hn hc 2 (by omega);have h3b:((s.state:Int) == 3)=false:=by simp;omega
  go_enter Tryz.func133,Tryz.ntmps133
  go_wp2_with fail
  refine k.mono ?_;rintro e w1 ⟨rfl,hL⟩;have HL:=hide hL;clear hL
  go_wp2
  go_end0
  exact⟨rfl,HL.out⟩
end
theorem Sep.nilRow{N:Type}{wb w:World}{own:N->Res}(h:Sep wb w own)(n:N)(T sz:Nat):Sep wb w (upd own n (.row T sz (.slice none 0 0) 0 [])) :=
 h.put n _ h.base (Nat.le_refl _) (λ_ _ _ _=>rfl) (OwnAt.nil _ _ _) (λb hb=>by simp[Res.has,Value.ownBlock] at hb)
section
variable {N:Type} {own:N->Res} {nm:DN->N} {g:Nat} {d:Ds} {v:DV} {wb w:World}
theorem zaa.clearBD(h:zaa own nm g d v)(hs:Sep wb w own){s:DS}(hn:d.str s.id=some s) :
  ∃ own',Sep wb ((w.setCell ⟨v.ptr s.id,6,none⟩ (.slice none 0 0)).setCell ⟨v.ptr s.id,7,none⟩ (.slice none 0 0)) own'/\zaa own' nm g (d.setS s.id { s with block:=[],data:=[] }) { v with sv:=λk=>if k=s.id then { v.sv s.id with vB:=.slice none 0 0,vD:=.slice none 0 0 } else v.sv k }/\zai nm own own':=by
 have s1:=(hs.nilRow (nm (.block s.id)) 5 1).nilRow (nm (.data s.id)) 5 1;have c1:upd (upd own (nm (.block s.id)) (.row 5 1 (.slice none 0 0) 0 [])) (nm (.data s.id)) (.row 5 1 (.slice none 0 0) 0 []) (nm (.st s.id)) = .obj (v.ptr s.id) (.cells (zba g s (v.sv s.id)) 94 (0,0)):=by rw[zad h.inj,if_neg (by simp),zad h.inj,if_neg (by simp)];exact h.st hn
 have s2:=s1.setObj c1 6 (.slice none 0 0);have s3:=s2.setObj (zag _ _ _) 7 (.slice none 0 0);have ehdr:=h.hdr hn;have eunread:=h.unread hn;refine⟨_,s3,?_,(((((zai.refl nm own).upd _ _).upd _ _).upd _ _).upd _ _)⟩;refine h.modS hn { s with block:=[],data:=[] } { v.sv s.id with vB:=.slice none 0 0,vD:=.slice none 0 0 } _ ?_ ?_ ?_ ?_ ?_ ?_ rfl rfl rfl (λ_=>rfl) (λe=>h.nilH _ _ hn e)
 ·rw[zag];rfl
 ·rw[zad h.inj,if_neg (by simp),zad h.inj,if_neg (by simp),zad h.inj,if_neg (by simp),zad h.inj,if_neg (by simp)];exact ehdr
 ·rw[zad h.inj,if_neg (by simp),zad h.inj,if_neg (by simp),zad h.inj,if_neg (by simp),zad h.inj,if_pos rfl];rfl
 ·rw[zad h.inj,if_neg (by simp),zad h.inj,if_neg (by simp),zad h.inj,if_pos rfl];rfl
 ·rw[zad h.inj,if_neg (by simp),zad h.inj,if_neg (by simp),zad h.inj,if_neg (by simp),zad h.inj,if_neg (by simp)];exact eunread
 ·intro y h0 _ h2 h3 _;rw[zad h.inj,if_neg h0,zad h.inj,if_neg h0,zad h.inj,if_neg h3,zad h.inj,if_neg h2]
theorem zaa.clearU(h:zaa own nm g d v)(hs:Sep wb w own){s:DS}(hn:d.str s.id=some s) :
  ∃ own',Sep wb (w.setCell ⟨v.ptr s.id,9,none⟩ (.slice none 0 0)) own'/\zaa own' nm g (d.setS s.id { s with unread:=[] }) { v with sv:=λk=>if k=s.id then { v.sv s.id with vU:=.slice none 0 0 } else v.sv k }/\zai nm own own':=by
 have s1:=hs.nilRow (nm (.unread s.id)) 5 1;have c1:upd own (nm (.unread s.id)) (.row 5 1 (.slice none 0 0) 0 []) (nm (.st s.id)) = .obj (v.ptr s.id) (.cells (zba g s (v.sv s.id)) 94 (0,0)):=by rw[zad h.inj,if_neg (by simp)];exact h.st hn
 have s2:=s1.setObj c1 9 (.slice none 0 0);have ehdr:=h.hdr hn;have eblock:=h.block hn;have edata:=h.data hn;refine⟨_,s2,?_,((zai.refl nm own).upd _ _).upd _ _⟩;refine h.modS hn { s with unread:=[] } { v.sv s.id with vU:=.slice none 0 0 } _ ?_ ?_ ?_ ?_ ?_ ?_ rfl rfl rfl (λe=>h.nilB _ _ hn e) (λe=>h.nilH _ _ hn e)
 ·rw[zag];rfl
 ·rw[zad h.inj,if_neg (by simp),zad h.inj,if_neg (by simp)];exact ehdr
 ·rw[zad h.inj,if_neg (by simp),zad h.inj,if_neg (by simp)];exact eblock
 ·rw[zad h.inj,if_neg (by simp),zad h.inj,if_neg (by simp)];exact edata
 ·rw[zad h.inj,if_neg (by simp),zad h.inj,if_pos rfl];rfl
 ·intro y h0 _ _ _ h4;rw[zad h.inj,if_neg h0,zad h.inj,if_neg h4]
theorem zjj(d:Ds)(n:Nat)(s t:DS):(d.setS n s).setS n t=d.setS n t:=by
 unfold Ds.setS;dsimp only;congr 1;funext k
 by_cases e:k=n
 ·rw[if_pos e,if_pos e]
 ·rw[if_neg e,if_neg e,if_neg e]
theorem DS.Fits.clear{s:DS}(h:s.Fits):({ s with block:=[],data:=[] }:DS).Fits:=⟨h.id,h.state,h.from0,h.from1,h.to0,h.to1,h.headers,Nat.zero_le _,Nat.zero_le _,h.code⟩
theorem DS.Fits.clearU{s:DS}(h:s.Fits):({ s with unread:=[] }:DS).Fits:=⟨h.id,h.state,h.from0,h.from1,h.to0,by have:=h.to1;have:=h.to0;show s.to_+((0:Nat):Int)<=100;omega,h.headers,h.block,h.data,h.code⟩
set_option maxHeartbeats 3200000 in
theorem zzbej(h:zaa own nm g d v)(hs:Sep wb w own)(hf:d.Fits 3){s:DS}(hn:d.str s.id=some s) :
  Calls Tryz.prog 79 #[.pointer (some ⟨g,0,none⟩),.pointer (some ⟨v.ptr s.id,0,none⟩)] w λe w'=>e = .returned (.tuple #[])/\zaf nm g wb own d v w' (d.drop s):=by
 have fs:=hf.st _ _ hn;have f6:=h.s6 hs hn;have f7:=h.s7 hs hn;have t6:=h.sthaw hs hn 6;have t7:=h.sthaw hs hn 7;obtain⟨own1,S1,H1,E1⟩:=h.clearBD hs hn;have F1:(d.setS s.id { s with block:=[],data:=[] }).Fits 3:=hf.setS _ _ fs.clear;have n1:(d.setS s.id { s with block:=[],data:=[] }).str ({ s with block:=[],data:=[] }:DS).id=some { s with block:=[],data:=[] }:=zdt _ _ _;have kp:=zra H1 S1 (F1.mono (by omega)) n1;obtain⟨W1,hW1⟩:∃ W1,(w.setCell ⟨v.ptr s.id,6,none⟩ (.slice none 0 0)).setCell ⟨v.ptr s.id,7,none⟩ (.slice none 0 0)=W1:=⟨_,rfl⟩;rw[hW1] at kp;have hbl:(w.setCell ⟨v.ptr s.id,6,none⟩ (.slice none 0 0)).frozen? ⟨v.ptr s.id,7,none⟩=false:=by
  have:=(hs.setObj (h.st hn) 6 (.slice none 0 0)).thaw (zag _ _ _) 7
  exact this
 by_cases hu:0<s.unread.length
 ·have HD:Hid (d.drop s=((((d.setS s.id { s with block:=[],data:=[] }).place { s with block:=[],data:=[] }).setS s.id { s with block:=[],data:=[],unread:=[] }).give0 s.unread.length)):=by
   show _=_
   unfold Ds.drop;rw[if_pos hu]
  rw[HD.out]
  go_enter Tryz.func79,Tryz.ntmps79
  go_wp2_with fail
  refine kp.mono ?_;rintro e w2 ⟨rfl,own2,v2,S2,H2,E2,r2,i2,p2⟩;have hp:=(p2 s.id (by rw[zaj,if_pos rfl];rfl)).1;have hp':v2.ptr s.id=v.ptr s.id:=hp;have n2:((d.setS s.id { s with block:=[],data:=[] }).place { s with block:=[],data:=[] }).str s.id=some { s with block:=[],data:=[] }:=by rw[zpe];exact n1
  have f9:=H2.s9 S2 n2;have t9:=H2.sthaw S2 n2 9;obtain⟨aU,cU,hU,-,-⟩:=(S2.get (H2.unread n2)).slice;dsimp only at hU;rw[hU,hp'] at f9;rw[hp'] at t9;obtain⟨own3,S3,H3,E3⟩:=H2.clearU (s:={ s with block:=[],data:=[] }) S2 n2;rw[show v2.ptr ({ s with block:=[],data:=[] }:DS).id=v.ptr s.id from hp'] at S3;have F3:=(F1.place (m:=2) { s with block:=[],data:=[] }).setS s.id _ (fs.clear.clearU);have fu:=fs.to1;have fu0:=fs.to0;have kg:=ziy H3 S3 F3 s.unread.length (by omega);have hu':(0:Int)<(s.unread.length:Int):=by omega
  clear S1 H1 S2 H2 S3 H3 kp
  go_wp2_with fail
  refine kg.mono ?_;rintro e w3 ⟨rfl,hL⟩;have HL:=hide (hL.trans (own:=own) (d:=d) (v:=v) ((E1.trans E2).trans E3) (r2.trans rfl) (λhf=>i2 hf) (λk hk=>⟨(p2 k (zbf d _ _ k hk)).1,zbf _ _ _ k (p2 k (zbf d _ _ k hk)).2⟩));clear hL
  go_wp2
  go_end0
  exact⟨rfl,HL.out⟩
 ·have HD:Hid (d.drop s=(d.setS s.id { s with block:=[],data:=[] }).place { s with block:=[],data:=[] }):=by
   show _=_
   unfold Ds.drop;rw[if_neg hu]
  rw[HD.out];have hz:s.unread.length=0:=by omega
  go_enter Tryz.func79,Tryz.ntmps79
  go_wp2_with fail
  refine kp.mono ?_;rintro e w2 ⟨rfl,own2,v2,S2,H2,E2,r2,i2,p2⟩;have hp':v2.ptr s.id=v.ptr s.id:=(p2 s.id (by rw[zaj,if_pos rfl];rfl)).1;have n2:((d.setS s.id { s with block:=[],data:=[] }).place { s with block:=[],data:=[] }).str s.id=some { s with block:=[],data:=[] }:=by rw[zpe];exact n1
  have f9:=H2.s9 S2 n2;obtain⟨aU,cU,hU,-,-⟩:=(S2.get (H2.unread n2)).slice;dsimp only at hU;rw[hz] at hU;rw[hU,hp'] at f9;have HL:=hide (show zaf nm g wb own d v w2 ((d.setS s.id { s with block:=[],data:=[] }).place { s with block:=[],data:=[] }) from ⟨own2,v2,S2,H2,E1.trans E2,r2.trans rfl,λhf=>i2 hf,λk hk=>p2 k (zbf d _ _ k hk)⟩);clear S1 H1 S2 H2 kp
  go_wp2
  go_end0
  exact⟨rfl,HL.out⟩
set_option maxHeartbeats 1600000 in
theorem zeg(h:zaa own nm g d v)(hs:Sep wb w own)(p:Nat)(s:DS)(hst:s.state<=8)(f2:w.cell? ⟨p,2,none⟩=some (.int .i64 (s.state:Int)))(f8:w.cell? ⟨p,8,none⟩=some (.bool s.ends)) :
  Calls Tryz.prog 75 #[.pointer (some ⟨g,0,none⟩),.pointer (some ⟨p,0,none⟩)] w λe w'=>e = .returned (.int .i64 (d.unwritable s:Int))/\w'=w:=by
 have f20:=h.c20 hs;have kr:=zfc s.state hst w;by_cases h0:s.state=0
 ·have HU:Hid (d.unwritable s=6):=by show _=_;unfold Ds.unwritable;rw[if_pos h0]
  rw[HU.out];rw[h0] at f2
  go_enter Tryz.func75,Tryz.ntmps75
  go_wp2
  go_ret
  exact⟨rfl,rfl⟩
 have h0b:((s.state:Int) == 0)=false:=by simp;omega
 cases hfl:d.failed with
 | true =>
  have HU:Hid (d.unwritable s=5):=by show _=_;unfold Ds.unwritable;rw[if_neg h0,if_pos hfl]
  rw[HU.out];rw[hfl] at f20
  go_enter Tryz.func75,Tryz.ntmps75
  go_wp2
  go_ret
  exact⟨rfl,rfl⟩
 | false =>
  rw[hfl] at f20;cases hr:zbx s.state with
  | true =>
   have HU:Hid (d.unwritable s=7):=by show _=_;unfold Ds.unwritable;rw[if_neg h0,if_neg (by rw[hfl];simp),if_pos hr]
   rw[HU.out];rw[hr] at kr
   go_enter Tryz.func75,Tryz.ntmps75
   go_wp2_with (go_at_call 40;refine kr.mono ?_;rintro e w' ⟨rfl,hw⟩;replace hw:=hw.symm;subst hw)
   go_ret
   exact⟨rfl,rfl⟩
  | false =>
   rw[hr] at kr;cases he:s.ends with
   | true =>
    have HU:Hid (d.unwritable s=8):=by show _=_;unfold Ds.unwritable;rw[if_neg h0,if_neg (by rw[hfl];simp),if_neg (by rw[hr];simp),if_pos he]
    rw[HU.out];rw[he] at f8
    go_enter Tryz.func75,Tryz.ntmps75
    go_wp2_with (go_at_call 40;refine kr.mono ?_;rintro e w' ⟨rfl,hw⟩;replace hw:=hw.symm;subst hw)
    go_ret
    exact⟨rfl,rfl⟩
   | false =>
    have HU:Hid (d.unwritable s=0):=by show _=_;unfold Ds.unwritable;rw[if_neg h0,if_neg (by rw[hfl];simp),if_neg (by rw[hr];simp),if_neg (by rw[he];simp)]
    rw[HU.out];rw[he] at f8
    go_enter Tryz.func75,Tryz.ntmps75
    go_wp2_with (go_at_call 40;refine kr.mono ?_;rintro e w' ⟨rfl,hw⟩;replace hw:=hw.symm;subst hw)
    go_ret
    exact⟨rfl,rfl⟩
end
theorem zvl(r:List Nat)(p q:Nat->Nat)(h:∀ n∈r,p n=q n):zat r p=zat r q:=by unfold zat;apply List.map_congr_left;intro n hn;rw[h n hn]
theorem zyq(d:Ds)(m:Bool)(ptr:Nat->Nat)(n q:Nat)(s:DS)(hm:s.mine=m)(hk:s.kept=true) :
  (d.setS n s).mapF m (λk=>if k=n then q else ptr k)=λx=>if x=(n:Int) then some q else d.mapF m ptr x:=by
 funext x
 unfold Ds.mapF Ds.held;by_cases h0:0<=x
 ·rw[if_pos h0,if_pos h0,zaj];by_cases e:x=(n:Int)
  ·have e':x.toNat=n:=by omega
   rw[if_pos e,if_pos e'];simp[hm,hk,e']
  ·have e':¬ x.toNat=n:=by omega
   rw[if_neg e,if_neg e'];simp only[if_neg e']
 ·rw[if_neg h0,if_neg h0,if_neg (by omega)]
theorem zmm(d:Ds)(m:Bool)(ptr:Nat->Nat)(n q:Nat)(s:DS)(hn:d.str n=none)(hm:s.mine≠m) :
  (d.setS n s).mapF m (λk=>if k=n then q else ptr k)=d.mapF m ptr:=by
 funext x
 unfold Ds.mapF Ds.held;by_cases h0:0<=x
 ·rw[if_pos h0,if_pos h0,zaj];by_cases e':x.toNat=n
  ·rw[if_pos e',e',hn];simp[hm]
  ·rw[if_neg e'];simp only[if_neg e']
 ·rw[if_neg h0,if_neg h0]
section
variable {N:Type} {own:N->Res} {nm:DN->N} {g:Nat} {d:Ds} {v:DV} {wb w:World}
theorem zaa.add(h:zaa own nm g d v){n:Nat}(hn:d.str n=none)(s:DS)(q:Nat)(own':N->Res)(v':DV)(hid:s.id=n)(e1:s.headers=[])(e2:s.block=[])(e3:s.data=[])(e4:s.unread=[])
  (hv:v' = { v with ptr:=λk=>if k=n then q else v.ptr k,sv:=λk=>if k=n then {} else v.sv k,esM:=v'.esM,ckM:=v'.ckM,esT:=v'.esT,ckT:=v'.ckT })
  (h0:own' (nm (.st n)) = .obj q (.cells (zba g s {}) 94 (0,0)))
  (h1:own' (nm (.hdr n)) = .row 122 2 (.slice none 0 0) 0 []) (h2:own' (nm (.block n)) = .row 5 1 (.slice none 0 0) 0 [])
  (h3:own' (nm (.data n)) = .row 5 1 (.slice none 0 0) 0 []) (h4:own' (nm (.unread n)) = .row 5 1 (.slice none 0 0) 0 [])
  (hmm:own' (nm .mm) = .obj v.gm (.map v'.esM v'.ckM)) (hmt:own' (nm .mt) = .obj v.gt (.map v'.esT v'.ckT))
  (hk':∀ y,y ≠ .st n->y ≠ .hdr n->y ≠ .block n->y ≠ .data n->y ≠ .unread n->y ≠ .mm->y ≠ .mt->own' (nm y)=own (nm y))
  (FM:zds ((d.setS n s).mapF true (λk=>if k=n then q else v.ptr k)) v'.esM) (FT:zds ((d.setS n s).mapF false (λk=>if k=n then q else v.ptr k)) v'.esT) :
  zaa own' nm g (d.setS n s) v':=by
 have hnr:∀ k∈d.ring,k≠n:=λk hk1 e=>by obtain⟨t,ht⟩:=h.wf.rings k hk1;rw[e,hn] at ht;cases ht
 have hp:v'.ptr=λk=>if k=n then q else v.ptr k:=by rw[hv]
 have hsv:v'.sv=λk=>if k=n then ({}:DSV) else v.sv k:=by rw[hv]
 refine⟨h.inj,λz => ?_,by rw[hv];exact h.frl,by rw[hp];exact FM,by rw[hp];exact FT,h.wf.setS n s hid,?_,?_⟩
 ·by_cases z0:z = .st n
  ·subst z0;rw[h0];simp only[zao,zaj,if_true,hp,hsv]
  by_cases z1:z = .hdr n
  ·subst z1;rw[h1];simp only[zao,zaj,if_true,hsv,e1];rfl
  by_cases z2:z = .block n
  ·subst z2;rw[h2];simp only[zao,zaj,if_true,hsv,e2];rfl
  by_cases z3:z = .data n
  ·subst z3;rw[h3];simp only[zao,zaj,if_true,hsv,e3];rfl
  by_cases z4:z = .unread n
  ·subst z4;rw[h4];simp only[zao,zaj,if_true,hsv,e4];rfl
  by_cases z5:z = .mm
  ·subst z5;rw[hmm,hv];rfl
  by_cases z6:z = .mt
  ·subst z6;rw[hmt,hv];rfl
  rw[hk' z z0 z1 z2 z3 z4 z5 z6,h.res];cases z with
  | st k =>
   have:k≠n:=λe=>z0 (by rw[e])
   simp only[zao,zaj,if_neg this,hp,hsv]
  | hdr k =>
   have:k≠n:=λe=>z1 (by rw[e])
   simp only[zao,zaj,if_neg this,hsv]
  | block k =>
   have:k≠n:=λe=>z2 (by rw[e])
   simp only[zao,zaj,if_neg this,hsv]
  | data k =>
   have:k≠n:=λe=>z3 (by rw[e])
   simp only[zao,zaj,if_neg this,hsv]
  | unread k =>
   have:k≠n:=λe=>z4 (by rw[e])
   simp only[zao,zaj,if_neg this,hsv]
  | ring =>
   have hc:zat d.ring v'.ptr=zat d.ring v.ptr:=zvl _ _ _ (λk hk1=>by rw[hp];simp only[if_neg (hnr k hk1)]);have hr:v'.vR=v.vR:=by rw[hv]
   show Res.row 87 1 v.vR d.ring.length (zat d.ring v.ptr)=Res.row 87 1 v'.vR d.ring.length (zat d.ring v'.ptr)
   rw[hc,hr]
  | mm=>exact absurd rfl z5
  | mt=>exact absurd rfl z6
  | _=>rw[hv];rfl
 ·intro k t hk1 hk2;rw[zaj] at hk1;rw[hsv];by_cases e:k=n
  ·simp only[if_pos e]
  ·rw[if_neg e] at hk1;simp only[if_neg e];exact h.nilB k t hk1 hk2
 ·intro k t hk1 hk2;rw[zaj] at hk1;rw[hsv];by_cases e:k=n
  ·simp only[if_pos e]
  ·rw[if_neg e] at hk1;simp only[if_neg e];exact h.nilH k t hk1 hk2
def zec(id:Nat)(m:Bool):DS:={ id:=id,mine:=m,state:=0,from_:=100,to_:=100 }
def Kept{N:Type}(nm:DN->N)(g:Nat)(wb:World)(own:N->Res)(d:Ds)(v:DV)(w':World)(d':Ds)(id p:Nat):Prop :=
 ∃ own' v',Sep wb w' own'/\zaa own' nm g d' v'/\zai nm own own'/\v'.rp=v.rp/\(d'.failed=false->v'.vI=v.vI)/\(∀ n,(d.str n).isSome=true->v'.ptr n=v.ptr n/\(d'.str n).isSome=true)/\v'.ptr id=p
theorem zzbdj(d:Ds)(m:Bool)(id:Nat):(d.setS id (zec id m)).move (zec id m) 1=d.keep m id:=by
 unfold Ds.move Ds.keep Ds.bump Ds.setS Ds.begun Ds.moved Ds.shift zec;cases m
 ·simp only[Bool.false_eq_true,if_false,zav];congr 1;funext k
  by_cases e:k=id
  ·rw[if_pos e,if_pos e];rfl
  ·rw[if_neg e,if_neg e,if_neg e]
 ·simp only[if_true,zav];congr 1;funext k
  by_cases e:k=id
  ·rw[if_pos e,if_pos e];rfl
  ·rw[if_neg e,if_neg e,if_neg e]
theorem zwe(id:Nat)(m:Bool)(h:id<=65535):(zec id m).Fits:=⟨h,Nat.zero_le _,by show (0:Int)<=100;omega,by show (100:Int)<=1000;omega,by show (0:Int)<=100;omega,by show (100:Int)+((0:Nat):Int)<=100;omega,Nat.zero_le _,Nat.zero_le _,Nat.zero_le _,Nat.zero_le _⟩
set_option maxHeartbeats 3200000 in
theorem zzbjk(h:zaa own nm g d v)(hs:Sep wb w own)(hf:d.Fits 1){id:Nat}(hn:d.str id=none)(hid:id<=65535) :
  Calls Tryz.prog 73 #[.pointer (some ⟨g,0,none⟩),.int .i64 (id:Int)] w λe w' => ∃ p,e = .returned (.pointer (some ⟨p,0,none⟩))/\Kept nm g wb own d v w' (d.keep true id) id p:=by
 have f4:=h.c4 hs;have S1:=((((hs.addObj (nm (.st id)) (.cells (zba g (zec id true) {}) 94)).nilRow (nm (.hdr id)) 122 2).nilRow (nm (.block id)) 5 1).nilRow (nm (.data id)) 5 1).nilRow (nm (.unread id)) 5 1;have hne:∀ (x:DN),x ≠ .st id->x ≠ .hdr id->x ≠ .block id->x ≠ .data id->x ≠ .unread id->(upd (upd (upd (upd (upd own (nm (.st id)) (.obj w.heap.size (.cells (zba g (zec id true) {}) 94))) (nm (.hdr id)) (.row 122 2 (.slice none 0 0) 0 [])) (nm (.block id)) (.row 5 1 (.slice none 0 0) 0 [])) (nm (.data id)) (.row 5 1 (.slice none 0 0) 0 [])) (nm (.unread id)) (.row 5 1 (.slice none 0 0) 0 [])) (nm x)=own (nm x):=λx a b c e f=>by rw[zad h.inj,if_neg f,zad h.inj,if_neg e,zad h.inj,if_neg c,zad h.inj,if_neg b,zad h.inj,if_neg a]
 have m1:=(hne .mm (by simp) (by simp) (by simp) (by simp) (by simp)).trans (h.res .mm);have hF0:d.mapF true v.ptr (id:Int)=none:=by unfold Ds.mapF Ds.held;rw[if_pos (by omega),Int.toNat_natCast,hn];rfl
 obtain⟨es',ck',hr,hF⟩:=zol (P:=Tryz.prog) Tryz.underlying96 Tryz.underlying3 (S1.get m1) h.mapM (a:=(id:Int)) (zmk _ (by omega) (by omega)) hF0 w.heap.size;have S2:=S1.setMap m1 (.map es' ck');have H2:=h.add hn (zec id true) w.heap.size (upd (upd (upd (upd (upd (upd own (nm (.st id)) (.obj w.heap.size (.cells (zba g (zec id true) {}) 94))) (nm (.hdr id)) (.row 122 2 (.slice none 0 0) 0 [])) (nm (.block id)) (.row 5 1 (.slice none 0 0) 0 [])) (nm (.data id)) (.row 5 1 (.slice none 0 0) 0 [])) (nm (.unread id)) (.row 5 1 (.slice none 0 0) 0 [])) (nm .mm) (.obj v.gm (.map es' ck'))) { v with ptr:=λk=>if k=id then w.heap.size else v.ptr k,sv:=λk=>if k=id then {} else v.sv k,esM:=es',ckM:=ck' } rfl rfl rfl rfl rfl rfl
  (by rw[zad h.inj,if_neg (by simp),zad h.inj,if_neg (by simp),zad h.inj,if_neg (by simp),zad h.inj,if_neg (by simp),zad h.inj,if_neg (by simp),zad h.inj,if_pos rfl])
  (by rw[zad h.inj,if_neg (by simp),zad h.inj,if_neg (by simp),zad h.inj,if_neg (by simp),zad h.inj,if_neg (by simp),zad h.inj,if_pos rfl])
  (by rw[zad h.inj,if_neg (by simp),zad h.inj,if_neg (by simp),zad h.inj,if_neg (by simp),zad h.inj,if_pos rfl])
  (by rw[zad h.inj,if_neg (by simp),zad h.inj,if_neg (by simp),zad h.inj,if_pos rfl])
  (by rw[zad h.inj,if_neg (by simp),zad h.inj,if_pos rfl])
  (zag _ _ _) (by rw[zad h.inj,if_neg (by simp),hne .mt (by simp) (by simp) (by simp) (by simp) (by simp)];exact h.res .mt)
  (λy a b c e f m _=>by rw[zad h.inj,if_neg m,hne y a b c e f])
  (by rw[zyq d true v.ptr id w.heap.size _ rfl rfl];exact hF) (by rw[zmm d false v.ptr id w.heap.size _ hn (by simp[zec])];exact h.mapT)
 have F2:=hf.setS id _ (zwe id true hid);have km:=zcp H2 S2 F2 (s:=zec id true) (zdt _ _ _) 1 (by omega);have hpq:(λk=>if k=id then w.heap.size else v.ptr k) (zec id true).id=w.heap.size:=if_pos rfl;dsimp only at km hpq;rw[hpq,zzbdj] at km;have E2:zai nm own _:=((((((zai.refl nm own).upd (.st id) (.obj w.heap.size (.cells (zba g (zec id true) {}) 94))).upd (.hdr id) (.row 122 2 (.slice none 0 0) 0 [])).upd (.block id) (.row 5 1 (.slice none 0 0) 0 [])).upd (.data id) (.row 5 1 (.slice none 0 0) 0 [])).upd (.unread id) (.row 5 1 (.slice none 0 0) 0 [])).upd .mm (.obj v.gm (.map es' ck'));obtain⟨W1,hW1⟩:∃ W1,w.alloc (.cells (zba g (zec id true) {}) 94)=W1:=⟨_,rfl⟩;have f4':W1.cell? ⟨g,4,none⟩=some (.map (some v.gm)):=by rw[<-hW1];exact((Ext.refl w).alloc _).cell f4
 rw[hW1] at hr km;have hW1':w.alloc (.cells #[.int .i64 (id:Int),.pointer (some ⟨g,0,none⟩),.int .i64 0,.int .i64 100,.int .i64 100,.slice none 0 0,.slice none 0 0,.slice none 0 0,.bool false,.slice none 0 0,.int .i64 0] 94)=W1:=hW1;clear hW1 S1 S2 H2
 go_enter Tryz.func73,Tryz.ntmps73
 go_wp2_with fail
 refine km.mono ?_;rintro e w2 ⟨rfl,own3,v3,S3,H3,E3,r3,i3,p3⟩;have HK:Hid (Kept nm g wb own d v w2 (d.keep true id) id w.heap.size):=by
  refine⟨own3,v3,S3,H3,E2.trans E3,r3,i3,λn hn' => ?_,?_⟩
  ·have e:n≠id:=λe=>by rw[e,hn] at hn';cases hn'
   obtain⟨a,b⟩:=p3 n (zbf d _ _ n hn');exact⟨a.trans (if_neg e),b⟩
  ·exact(p3 id (by rw[zaj,if_pos rfl];rfl)).1.trans (if_pos rfl)
 clear S3 H3
 go_wp2
 go_ret
 exact⟨_,rfl,HK.out⟩
set_option maxHeartbeats 3200000 in
theorem zyr(h:zaa own nm g d v)(hs:Sep wb w own)(hf:d.Fits 1){id:Nat}(hn:d.str id=none)(hid:id<=65535) :
  Calls Tryz.prog 73 #[.pointer (some ⟨g,5,none⟩),.int .i64 (id:Int)] w λe w' => ∃ p,e = .returned (.pointer (some ⟨p,0,none⟩))/\Kept nm g wb own d v w' (d.keep false id) id p:=by
 have f4:=h.c9 hs;have S1:=((((hs.addObj (nm (.st id)) (.cells (zba g (zec id false) {}) 94)).nilRow (nm (.hdr id)) 122 2).nilRow (nm (.block id)) 5 1).nilRow (nm (.data id)) 5 1).nilRow (nm (.unread id)) 5 1;have hne:∀ (x:DN),x ≠ .st id->x ≠ .hdr id->x ≠ .block id->x ≠ .data id->x ≠ .unread id->(upd (upd (upd (upd (upd own (nm (.st id)) (.obj w.heap.size (.cells (zba g (zec id false) {}) 94))) (nm (.hdr id)) (.row 122 2 (.slice none 0 0) 0 [])) (nm (.block id)) (.row 5 1 (.slice none 0 0) 0 [])) (nm (.data id)) (.row 5 1 (.slice none 0 0) 0 [])) (nm (.unread id)) (.row 5 1 (.slice none 0 0) 0 [])) (nm x)=own (nm x):=λx a b c e f=>by rw[zad h.inj,if_neg f,zad h.inj,if_neg e,zad h.inj,if_neg c,zad h.inj,if_neg b,zad h.inj,if_neg a]
 have m1:=(hne .mt (by simp) (by simp) (by simp) (by simp) (by simp)).trans (h.res .mt);have hF0:d.mapF false v.ptr (id:Int)=none:=by unfold Ds.mapF Ds.held;rw[if_pos (by omega),Int.toNat_natCast,hn];rfl
 obtain⟨es',ck',hr,hF⟩:=zol (P:=Tryz.prog) Tryz.underlying96 Tryz.underlying3 (S1.get m1) h.mapT (a:=(id:Int)) (zmk _ (by omega) (by omega)) hF0 w.heap.size;have S2:=S1.setMap m1 (.map es' ck');have H2:=h.add hn (zec id false) w.heap.size (upd (upd (upd (upd (upd (upd own (nm (.st id)) (.obj w.heap.size (.cells (zba g (zec id false) {}) 94))) (nm (.hdr id)) (.row 122 2 (.slice none 0 0) 0 [])) (nm (.block id)) (.row 5 1 (.slice none 0 0) 0 [])) (nm (.data id)) (.row 5 1 (.slice none 0 0) 0 [])) (nm (.unread id)) (.row 5 1 (.slice none 0 0) 0 [])) (nm .mt) (.obj v.gt (.map es' ck'))) { v with ptr:=λk=>if k=id then w.heap.size else v.ptr k,sv:=λk=>if k=id then {} else v.sv k,esT:=es',ckT:=ck' } rfl rfl rfl rfl rfl rfl
  (by rw[zad h.inj,if_neg (by simp),zad h.inj,if_neg (by simp),zad h.inj,if_neg (by simp),zad h.inj,if_neg (by simp),zad h.inj,if_neg (by simp),zad h.inj,if_pos rfl])
  (by rw[zad h.inj,if_neg (by simp),zad h.inj,if_neg (by simp),zad h.inj,if_neg (by simp),zad h.inj,if_neg (by simp),zad h.inj,if_pos rfl])
  (by rw[zad h.inj,if_neg (by simp),zad h.inj,if_neg (by simp),zad h.inj,if_neg (by simp),zad h.inj,if_pos rfl])
  (by rw[zad h.inj,if_neg (by simp),zad h.inj,if_neg (by simp),zad h.inj,if_pos rfl])
  (by rw[zad h.inj,if_neg (by simp),zad h.inj,if_pos rfl])
  (by rw[zad h.inj,if_neg (by simp),hne .mm (by simp) (by simp) (by simp) (by simp) (by simp)];exact h.res .mm) (zag _ _ _)
  (λy a b c e f _ m=>by rw[zad h.inj,if_neg m,hne y a b c e f])
  (by rw[zmm d true v.ptr id w.heap.size _ hn (by simp[zec])];exact h.mapM) (by rw[zyq d false v.ptr id w.heap.size _ rfl rfl];exact hF)
 have F2:=hf.setS id _ (zwe id false hid);have km:=zcp H2 S2 F2 (s:=zec id false) (zdt _ _ _) 1 (by omega);have hpq:(λk=>if k=id then w.heap.size else v.ptr k) (zec id false).id=w.heap.size:=if_pos rfl;dsimp only at km hpq;rw[hpq,zzbdj] at km;have E2:zai nm own _:=((((((zai.refl nm own).upd (.st id) (.obj w.heap.size (.cells (zba g (zec id false) {}) 94))).upd (.hdr id) (.row 122 2 (.slice none 0 0) 0 [])).upd (.block id) (.row 5 1 (.slice none 0 0) 0 [])).upd (.data id) (.row 5 1 (.slice none 0 0) 0 [])).upd (.unread id) (.row 5 1 (.slice none 0 0) 0 [])).upd .mt (.obj v.gt (.map es' ck'));obtain⟨W1,hW1⟩:∃ W1,w.alloc (.cells (zba g (zec id false) {}) 94)=W1:=⟨_,rfl⟩;have f4':W1.cell? ⟨g,9,none⟩=some (.map (some v.gt)):=by rw[<-hW1];exact((Ext.refl w).alloc _).cell f4
 rw[hW1] at hr km;have hW1':w.alloc (.cells #[.int .i64 (id:Int),.pointer (some ⟨g,5,none⟩),.int .i64 0,.int .i64 100,.int .i64 100,.slice none 0 0,.slice none 0 0,.slice none 0 0,.bool false,.slice none 0 0,.int .i64 0] 94)=W1:=hW1;clear hW1 S1 S2 H2
 go_enter Tryz.func73,Tryz.ntmps73
 go_wp2_with fail
 refine km.mono ?_;rintro e w2 ⟨rfl,own3,v3,S3,H3,E3,r3,i3,p3⟩;have HK:Hid (Kept nm g wb own d v w2 (d.keep false id) id w.heap.size):=by
  refine⟨own3,v3,S3,H3,E2.trans E3,r3,i3,λn hn' => ?_,?_⟩
  ·have e:n≠id:=λe=>by rw[e,hn] at hn';cases hn'
   obtain⟨a,b⟩:=p3 n (zbf d _ _ n hn');exact⟨a.trans (if_neg e),b⟩
  ·exact(p3 id (by rw[zaj,if_pos rfl];rfl)).1.trans (if_pos rfl)
 clear S3 H3
 go_wp2
 go_ret
 exact⟨_,rfl,HK.out⟩
end
end Go.Proofs.YtoijpogadkogcaaGreat
