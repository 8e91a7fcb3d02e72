import Derived.Test.YtoijpogadkogcaaGreatQz
import Derived.Deep.CutBlock
namespace Go.Proofs.YtoijpogadkogcaaGreat
open Go.RowKit
set_option maxRecDepth 100000
inductive LN
 | x (n:DN) | y (n:DN) | link | up | down | lines | o | e (k:Nat)
 deriving DecidableEq
structure zak (own:LN->Res) (gl gx gy:Nat) (dx dy:Ds) (vu vd vl:Value) (up down:Bytes) (nl:Nat) (xs:List Value) (lv:Bool):Prop where
 ex:zar own LN.x gx dx
 ey:zar own LN.y gy dy
 lk:own .link = .obj gl (.cells #[.pointer (some ⟨gx,0,none⟩),.pointer (some ⟨gy,0,none⟩),vu,vd,vl,.bool lv] 37 (0,0))
 nu:own .up = .row 5 1 vu up.length (zab up)
 nd:own .down = .row 5 1 vd down.length (zab down)
 nl:own .lines = .row 45 10 vl nl xs
theorem zqi(P:Program)(W:World)(ts:Array TypeId)(ty:TypeId)(a b c:Int)(h:min a b=c):(Builtin.min_ ts ty #[.int .i64 a,.int .i64 b]).run P W = .ok (.int .i64 c) W:=by simp[Builtin.min_,Builtin.min2];split<;>omega
def fed(r:Ds)(u:Bytes)(n:Int):Ds:=if n<=0 then r else r.takes (u.take (min n.toNat u.length))
theorem zms(u:Bytes)(j k:Nat):u.take j++(u.drop j).take k=u.take (j+k):=by rw[List.take_add]
section
variable {own:LN->Res} {gl gx gy:Nat} {dx dy:Ds} {vu vd vl:Value} {up down:Bytes} {nl:Nat} {xs:List Value} {lv:Bool} {wb w:World}
theorem zak.cc(h:zak own gl gx gy dx dy vu vd vl up down nl xs lv)(hs:Sep wb w own)(k:Nat):w.cell? ⟨gl,k,none⟩=(#[.pointer (some ⟨gx,0,none⟩),.pointer (some ⟨gy,0,none⟩),vu,vd,vl,.bool lv]:Array Value)[k]?:=hs.cell h.lk k
set_option maxHeartbeats 12800000 in
theorem znn(h:zak own gl gx gy dx dy vu vd vl up down nl xs lv)(hs:Sep wb w own)(room n piece:Int)(hr0:-9223372036854775808<=room)(hr1:room<=17592186044416)(hn0:-9223372036854775808<=n)(hn1:n<=17592186044416)(hp0:1<=piece)(hp1:piece<=17592186044416)
  (hO:zgx dx) (hck:∀ f∈dx.ctl,f.1<=255/\f.2.1<=255) (Good:Ds->Prop) (hG:GoodD Good) (hl:up.length+(dx.out room).2.length<=17592186044416)
  (hI:∀ (D:Ds) (j k:Nat),(D=dy/\j=0\/D=dy.takes ((up++(dx.out room).2).take j))->j+k<=(up++(dx.out room).2).length->D.failed=false->D.inn.length+k<=68719476736/\Good { D with inn:=D.inn++((up++(dx.out room).2).drop j).take k }) :
  Calls Tryz.prog 13 #[.pointer (some ⟨gl,0,none⟩),.bool true,.int .i64 room,.int .i64 n,.int .i64 piece] w λe w'=>e = .returned (.tuple #[]) /\ ∃ own' v',Sep wb w' own'/\zak own' gl gx gy (dx.out room).1 (fed dy (up++(dx.out room).2) n) v' vd vl ((up++(dx.out room).2).drop (min n.toNat (up++(dx.out room).2).length)) down nl xs lv /\ ∀ k,own' (.e k)=own (.e k):=by
 obtain⟨i0,hi0,hz0,hz1,hz2⟩:=zbk Tryz.infoU;have kO:=zwt h.ex hs hO hck room hr0 hr1 .o (λ_ e=>by cases e);obtain⟨R,hR⟩:∃ R,dx.out room=R:=⟨_,rfl⟩;rw[hR] at kO hl hI ⊢;obtain⟨U,hU⟩:∃ U,up++R.2=U:=⟨_,rfl⟩;rw[hU] at hI ⊢;have hUl:U.length=up.length+R.2.length:=by rw[<-hU,List.length_append]
 have c0:w.cell? ⟨gl,0,none⟩=some (.pointer (some ⟨gx,0,none⟩)):=h.cc hs 0;have HI:=hide hI;have HU:=hide hU;have HUL:=hide hUl;have hUb:U.length<=17592186044416:=by omega
 clear hI hO hck hU hR hUl
 go_enter Tryz.func13,Tryz.ntmps13
 go_wp2_with fail
 refine kO.mono ?_;rintro e w1 ⟨vo,own1,rfl,S1,X1,o1,E1⟩;have lk1:=(E1 .link (λe=>by cases e) (λ_ e=>by cases e)).trans h.lk;have nu1:=(E1 .up (λe=>by cases e) (λ_ e=>by cases e)).trans h.nu;have hOU:=(show OwnAt w1 5 1 vu up.length (zab up) from S1.get nu1);have hOo:=(show OwnAt w1 5 1 vo R.2.length (zab R.2) from S1.get o1);have hsrc:=zed (OwnAt.isBytes hOo);obtain⟨aU,cU,hvU,-,-⟩:=hOU.slice;obtain⟨ao,co,hvo,-,-⟩:=hOo.slice;have c2:w1.cell? ⟨gl,2,none⟩=some vu:=S1.cell lk1 2;rw[hvU] at c2 hOU;have HVU:=hide hvU;subst hvo;have HST:Hid (∀ (v3:Value) (w3:World),OwnAt w3 5 1 v3 U.length (zab U)->zau w1 vu w3 v3->(w3.cell? ⟨gl,2,none⟩=some vu/\w3.frozen? ⟨gl,2,none⟩=false) /\ ∃ own3,Sep wb (w3.setCell ⟨gl,2,none⟩ v3) own3/\zak own3 gl gx gy R.1 dy v3 vd vl U down nl xs lv /\ ∀ k,own3 (.e k)=own (.e k)):=λv3 w3 hO3 hG3=>by
  have S3:=S1.grew nu1 hG3 hO3;have lk3:upd own1 .up (.row 5 1 v3 U.length (zab U)) .link = .obj gl (.cells #[.pointer (some ⟨gx,0,none⟩),.pointer (some ⟨gy,0,none⟩),vu,vd,vl,.bool lv] 37 (0,0)):=(zac _ _ (λe=>by cases e)).trans lk1;refine⟨⟨S3.cell lk3 2,S3.thaw lk3 2⟩,_,S3.setObj lk3 2 v3,⟨?_,?_,?_,?_,?_,?_⟩,λk => ?_⟩
  ·exact(X1.updO (λ_ e=>by cases e) _).updO (λ_ e=>by cases e) _
  ·exact((h.ey.alike (λz=>E1 (.y z) (λe=>by cases e) (λ_ e=>by cases e))).updO (λ_ e=>by cases e) _).updO (λ_ e=>by cases e) _
  ·rw[zag];rfl
  ·rw[zac _ _ (λe=>by cases e),zag]
  ·rw[zac _ _ (λe=>by cases e),zac _ _ (λe=>by cases e)];exact(E1 .down (λe=>by cases e) (λ_ e=>by cases e)).trans h.nd
  ·rw[zac _ _ (λe=>by cases e),zac _ _ (λe=>by cases e)];exact(E1 .lines (λe=>by cases e) (λ_ e=>by cases e)).trans h.nl
  ·rw[zac _ _ (λe=>by cases e),zac _ _ (λe=>by cases e)];exact E1 (.e k) (λe=>by cases e) (λ_ e=>by cases e)
 have HCB:Hid (zab up++zab R.2=zab U):=by show _=_;rw[<-HU.out,zbe]
 clear S1 X1 o1 E1 hOo nu1 lk1 hs kO
 go_wp2_with (at_builtin;refine zbh _ rfl (.tmp 24) (.tmp 25) 34 34 rfl 5 i0 (.int .u8 0) 1 1 Tryz.underlying34 hi0 hz0 hz1 hz2 rfl _ _ _ rfl hOU _ _ _ rfl hsrc ?_ ?_ ?_)
 ·unfold maxLen;omega
 ·omega
 intro v3 w3 hA3 hG3;have hA4:=zbv (m:=U.length) (ys:=zab U) hA3 HUL.out.symm HCB.out;rw[<-HVU.out] at hG3;obtain⟨⟨c2',t2'⟩,own3,S3,L3,e3⟩:=HST.out v3 w3 hA4 hG3;obtain⟨a3,k3,hv3,-,-⟩:=hA4.slice;subst hv3;obtain⟨W3,hW3⟩:∃ W3,w3.setCell ⟨gl,2,none⟩ (.slice a3 U.length k3)=W3:=⟨_,rfl⟩;rw[hW3] at S3;clear hA3 hA4 hG3 HST hsrc hOU HCB h
 go_wp2
 go_loopw [3] (λs3 wr => ∃ (j:Nat) (D:Ds) (own4:LN->Res) (v4:Value),s3 = .int .i64 (n-(j:Int))/\j<=U.length/\((j:Int)<=n\/j=0)/\Hid (D=dy/\j=0\/0<j/\D=dy.takes (U.take j))/\Sep wb wr own4/\zak own4 gl gx gy R.1 D v4 vd vl (U.drop j) down nl xs lv /\ ∀ k,own4 (.e k)=own (.e k)) (λs3 _=>(intOf s3).toNat)
 case atStart=>exact⟨0,dy,own3,.slice a3 U.length k3,by simp,Nat.zero_le _,.inr rfl,.inl ⟨rfl,rfl⟩,S3,L3,e3⟩
 case round =>
  obtain⟨j,D,own4,v4,rfl,hj,hjn,HD,S4,L4,e4⟩:=hrel;clear S3 L3 e3;have hO4:=(show OwnAt wr 5 1 v4 (U.drop j).length (zab (U.drop j)) from S4.get L4.nu);have hdl:(U.drop j).length=U.length-j:=List.length_drop;obtain⟨a4,k4,hv4,hk4,-⟩:=hO4.slice;by_cases hgo:0<n-(j:Int)
  ·obtain⟨k,hk⟩:∃ k:Nat,min (min (n-(j:Int)) piece) ((U.drop j).length:Int)=(k:Int):=⟨(min (min (n-(j:Int)) piece) ((U.drop j).length:Int)).toNat,by omega⟩;have hkl:k<=(U.drop j).length:=by omega
   have hmin2:∀ (W:World) (ts:Array TypeId) (ty:TypeId),(Builtin.min_ ts ty #[.int .i64 (min (n-(j:Int)) piece),.int .i64 ((U.drop j).length:Int)]).run Tryz.prog W = .ok (.int .i64 (k:Int)) W:=λW ts ty=>zqi _ W ts ty _ _ _ hk;obtain⟨q,hq⟩:∃ q,min (n-(j:Int)) piece=q:=⟨_,rfl⟩;have hmin1:∀ (W:World) (ts:Array TypeId) (ty:TypeId),(Builtin.min_ ts ty #[.int .i64 (n-(j:Int)),.int .i64 piece]).run Tryz.prog W = .ok (.int .i64 q) W:=λW ts ty=>zqi _ W ts ty _ _ _ hq;rw[hq] at hmin2;have hkz:(k:Int)=0->(U.drop j).length=0:=by omega
   have HKZ:=hide hkz;have hkn:(j:Int)+k<=n:=by omega
   have hBt:=zae.take (OwnAt.isBytes (by rw[hv4] at hO4;exact hO4)) k hkl;rw[zda] at hBt;have hrun1:∀ W:World,(Instr.slice 34 (.slice a4 (U.drop j).length k4) none (some (.int .i64 (k:Int))) none).run Tryz.prog W = .ok (.slice a4 k k4) W:=λW=>by
    rw[run_slice_h W 34 _ _ k4 (by rw[zam];exact Tryz.underlying34) .i64 (k:Int) (by omega) (by omega),zam,zbl]
    show Result.ok (sliced a4 0 k k4 1) W=_
    rw[zda]
   have hOr:=(show OwnAt wr 5 1 (.slice a4 (U.drop j).length k4) (U.drop j).length (zab (U.drop j)) by rw[<-hv4];exact hO4).from k hkl;obtain⟨ay,ky,hvy,-,-⟩:=hOr.slice;have hrun2:∀ W:World,(Instr.slice 34 (.slice a4 (U.drop j).length k4) (some (.int .i64 (k:Int))) none none).run Tryz.prog W = .ok (.slice ay ((U.drop j).length-k) ky) W:=λW=>by
    rw[run_slice_l W 34 _ _ k4 (by rw[zam];exact Tryz.underlying34) .i64 (k:Int) (by omega) (by omega),zam,zbl]
    show Result.ok (sliced a4 k (U.drop j).length k4 1) W=_
    rw[hvy]
   have hck:((U.drop j).take k).length=k:=by rw[List.length_take];omega
   have hcond:=λhfD=>HI.out D j k (HD.out.elim .inl (λh => .inr h.2)) (by omega) hfD
   have kI:=zzbdq Good hG L4.ey (S4.ext (Ext.refl wr).drew) _ _ (hBt.ext (Ext.refl wr).drew) (λhfD=>by rw[hck];exact(hcond hfD).1) (λhfD=>(hcond hfD).2);have c1:wr.cell? ⟨gl,1,none⟩=some (.pointer (some ⟨gy,0,none⟩)):=L4.cc S4 1;have c2:wr.cell? ⟨gl,2,none⟩=some v4:=L4.cc S4 2;rw[hv4] at c2;have HV4:=hide hv4;have HVY:=hide hvy;have HKL:=hide hkl;have HL4:=hide L4;have HTK:Hid (D.takes ((U.drop j).take k)=dy.takes (U.take (j+k))):=by
    show _=_
    rcases HD.out with ⟨e1,e2⟩|⟨-,e1⟩
    ·rw[e1,e2];simp
    ·rw[e1,<-zfp,zms]
   have hndl:((U.drop j).length:Int)<=17592186044416:=by omega
   clear hBt hOr hvy hO4 hq hk hck hcond hkz;generalize hdn:(U.drop j).length=dn at *;have HDN:=hide hdn;have hdj:dn=U.length-j:=by omega
   have HDJ:=hide hdj;clear hdn hdl hdj
   go_wp2_with fail
   first | go_region_with (go_at_call 22;refine kI.mono ?_;rintro e w5 ⟨rfl,own5,S5,Y5,E5⟩) | fail
   all_goals
    have lk5:=(E5 .link (λ_ e=>by cases e)).trans HL4.out.lk;have nu5:=(E5 .up (λ_ e=>by cases e)).trans HL4.out.nu;rw[HV4.out,HDN.out] at nu5;have c25:w5.cell? ⟨gl,2,none⟩=some v4:=S5.cell lk5 2;have t25:=S5.thaw lk5 2;rw[HV4.out] at c25;have S6:=S5.cutFrom nu5 k HKL.out;rw[HVY.out] at S6;have lk6:=(zac own5 (.row 5 1 (.slice ay (dn-k) ky) (dn-k) ((zab (U.drop j)).drop k)) (show LN.link ≠ .up from λe=>by cases e)).trans lk5;have S7:=S6.setObj lk6 2 (.slice ay (dn-k) ky);obtain⟨W7,hW7⟩:∃ W7,w5.setCell ⟨gl,2,none⟩ (.slice ay (dn-k) ky)=W7:=⟨_,rfl⟩;rw[hW7] at S7;have hrow:(Res.row 5 1 (.slice ay (dn-k) ky) (dn-k) ((zab (U.drop j)).drop k)) = .row 5 1 (.slice ay (dn-k) ky) (U.drop (j+k)).length (zab (U.drop (j+k))):=by
     have e1:(U.drop (j+k)).length=dn-k:=by rw[List.length_drop,HDJ.out];omega
     have e2:(zab (U.drop j)).drop k=zab (U.drop (j+k)):=by unfold zab;rw[<-List.map_drop,List.drop_drop]
     rw[e1,e2]
    obtain⟨own7,S7,L7,e7⟩:∃ own7,Sep wb W7 own7/\zak own7 gl gx gy R.1 (D.takes ((U.drop j).take k)) (.slice ay (dn-k) ky) vd vl (U.drop (j+k)) down nl xs lv /\ ∀ k,own7 (.e k)=own (.e k):=by
     refine⟨_,S7,⟨?_,?_,?_,?_,?_,?_⟩,λk => ?_⟩
     ·exact((HL4.out.ex.alike (λz=>E5 (.x z) (λ_ e=>by cases e))).updO (λ_ e=>by cases e) _).updO (λ_ e=>by cases e) _
     ·exact(Y5.updO (λ_ e=>by cases e) _).updO (λ_ e=>by cases e) _
     ·rw[zag];rfl
     ·rw[zac _ _ (λe=>by cases e),zag,hrow]
     ·rw[zac _ _ (λe=>by cases e),zac _ _ (λe=>by cases e)];exact(E5 .down (λ_ e=>by cases e)).trans HL4.out.nd
     ·rw[zac _ _ (λe=>by cases e),zac _ _ (λe=>by cases e)];exact(E5 .lines (λ_ e=>by cases e)).trans HL4.out.nl
     ·rw[zac _ _ (λe=>by cases e),zac _ _ (λe=>by cases e)];exact(E5 (.e k) (λ_ e=>by cases e)).trans (e4 k)
    clear S5 Y5 E5 lk5 nu5 S6 lk6 hrow kI;by_cases hz:k=0
    ·have hkz2:=HKZ.out (by omega);have HF:Hid (D.takes ((U.drop j).take k)=fed dy U n/\U.drop (j+k)=U.drop (min n.toNat U.length)):=by
      have hdj:=HDJ.out;have hjU:j=U.length:=by omega
      refine⟨?_,?_⟩
      ·rw[HTK.out];unfold fed;rw[if_neg (by omega)];rw[hz,hjU,Nat.add_zero,List.take_of_length_le (Nat.le_refl _),Nat.min_eq_right (by omega),List.take_of_length_le (Nat.le_refl _)]
      ·rw[hz,hjU,Nat.add_zero,Nat.min_eq_right (by omega)]
     have hzb:((k:Int) == 0)=true:=by rw[hz];rfl
     have HS7:=hide S7;have HL7:=hide L7;clear S7 L7 hz hkz2
     go_wp2
     refine bodyPost_ret (results_none rfl _ _ _) rfl ?_;have L8:=HL7.out;rw[HF.out.1,HF.out.2] at L8;exact⟨rfl,own7,_,HS7.out,L8,e7⟩
    ·have hzb:((k:Int) == 0)=false:=by rw[beq_eq_false_iff_ne];omega
     have HNZ:=hide hz;have hdj:=HDJ.out;have HS7:=hide S7;have HL7:=hide L7;have HKN:=hide hkn;clear S7 L7 hz hkn hdj
     go_wp2
     go_roundw
     case rel =>
      have hA:(n-(j:Int)-(k:Int))=n-((j+k:Nat):Int):=by omega
      exact⟨j+k,D.takes ((U.drop j).take k),own7,_,congrArg (Value.int .i64) hA,(by have:=HDJ.out;have:=HKL.out;omega),.inl (by have:=HKN.out;omega),.inr ⟨by have:=HNZ.out;omega,HTK.out⟩,HS7.out,HL7.out,e7⟩
     case measure =>
      have:=HNZ.out
      simp[intOf];omega
  ·have HF:Hid (D=fed dy U n/\U.drop j=U.drop (min n.toNat U.length)):=by
    rcases HD.out with ⟨e1,e2⟩|⟨e2,e1⟩
    ·have hn:n<=0:=by omega
     refine⟨?_,?_⟩
     ·unfold fed;rw[if_pos hn];exact e1
     ·rw[e2,show n.toNat=0 by omega,Nat.zero_min]
    ·have hjn':(j:Int)=n:=by omega
     have hm:min n.toNat U.length=j:=by omega
     refine⟨?_,by rw[hm]⟩;unfold fed;rw[if_neg (by omega),hm];exact e1
   have hgo':decide (0<n-(j:Int))=false:=by simp;omega
   have HS4:=hide S4;have HL4:=hide L4;clear S4 L4 hO4
   go_wp2
   go_end0
   have L8:=HL4.out;rw[HF.out.1,HF.out.2] at L8;exact⟨rfl,own4,HS4.out,⟨_,L8⟩,e4⟩
set_option maxHeartbeats 12800000 in
theorem zku(h:zak own gl gx gy dx dy vu vd vl up down nl xs lv)(hs:Sep wb w own)(room n piece:Int)(hr0:-9223372036854775808<=room)(hr1:room<=17592186044416)(hn0:-9223372036854775808<=n)(hn1:n<=17592186044416)(hp0:1<=piece)(hp1:piece<=17592186044416)
  (hO:zgx dy) (hck:∀ f∈dy.ctl,f.1<=255/\f.2.1<=255) (Good:Ds->Prop) (hG:GoodD Good) (hl:down.length+(dy.out room).2.length<=17592186044416)
  (hI:∀ (D:Ds) (j k:Nat),(D=dx/\j=0\/D=dx.takes ((down++(dy.out room).2).take j))->j+k<=(down++(dy.out room).2).length->D.failed=false->D.inn.length+k<=68719476736/\Good { D with inn:=D.inn++((down++(dy.out room).2).drop j).take k }) :
  Calls Tryz.prog 13 #[.pointer (some ⟨gl,0,none⟩),.bool false,.int .i64 room,.int .i64 n,.int .i64 piece] w λe w'=>e = .returned (.tuple #[]) /\ ∃ own' v',Sep wb w' own'/\zak own' gl gx gy (fed dx (down++(dy.out room).2) n) (dy.out room).1 vu v' vl up ((down++(dy.out room).2).drop (min n.toNat (down++(dy.out room).2).length)) nl xs lv /\ ∀ k,own' (.e k)=own (.e k):=by
 obtain⟨i0,hi0,hz0,hz1,hz2⟩:=zbk Tryz.infoU;have kO:=zwt h.ey hs hO hck room hr0 hr1 .o (λ_ e=>by cases e);obtain⟨R,hR⟩:∃ R,dy.out room=R:=⟨_,rfl⟩;rw[hR] at kO hl hI ⊢;obtain⟨U,hU⟩:∃ U,down++R.2=U:=⟨_,rfl⟩;rw[hU] at hI ⊢;have hUl:U.length=down.length+R.2.length:=by rw[<-hU,List.length_append]
 have c0:w.cell? ⟨gl,1,none⟩=some (.pointer (some ⟨gy,0,none⟩)):=h.cc hs 1;have HI:=hide hI;have HU:=hide hU;have HUL:=hide hUl;have hUb:U.length<=17592186044416:=by omega
 clear hI hO hck hU hR hUl
 go_enter Tryz.func13,Tryz.ntmps13
 go_wp2_with fail
 refine kO.mono ?_;rintro e w1 ⟨vo,own1,rfl,S1,X1,o1,E1⟩;have lk1:=(E1 .link (λe=>by cases e) (λ_ e=>by cases e)).trans h.lk;have nu1:=(E1 .down (λe=>by cases e) (λ_ e=>by cases e)).trans h.nd;have hOU:=(show OwnAt w1 5 1 vd down.length (zab down) from S1.get nu1);have hOo:=(show OwnAt w1 5 1 vo R.2.length (zab R.2) from S1.get o1);have hsrc:=zed (OwnAt.isBytes hOo);obtain⟨aU,cU,hvU,-,-⟩:=hOU.slice;obtain⟨ao,co,hvo,-,-⟩:=hOo.slice;have c2:w1.cell? ⟨gl,3,none⟩=some vd:=S1.cell lk1 3;rw[hvU] at c2 hOU;have HVU:=hide hvU;subst hvo;have HST:Hid (∀ (v3:Value) (w3:World),OwnAt w3 5 1 v3 U.length (zab U)->zau w1 vd w3 v3->(w3.cell? ⟨gl,3,none⟩=some vd/\w3.frozen? ⟨gl,3,none⟩=false) /\ ∃ own3,Sep wb (w3.setCell ⟨gl,3,none⟩ v3) own3/\zak own3 gl gx gy dx R.1 vu v3 vl up U nl xs lv /\ ∀ k,own3 (.e k)=own (.e k)):=λv3 w3 hO3 hG3=>by
  have S3:=S1.grew nu1 hG3 hO3;have lk3:upd own1 .down (.row 5 1 v3 U.length (zab U)) .link = .obj gl (.cells #[.pointer (some ⟨gx,0,none⟩),.pointer (some ⟨gy,0,none⟩),vu,vd,vl,.bool lv] 37 (0,0)):=(zac _ _ (λe=>by cases e)).trans lk1;refine⟨⟨S3.cell lk3 3,S3.thaw lk3 3⟩,_,S3.setObj lk3 3 v3,⟨?_,?_,?_,?_,?_,?_⟩,λk => ?_⟩
  ·exact((h.ex.alike (λz=>E1 (.x z) (λe=>by cases e) (λ_ e=>by cases e))).updO (λ_ e=>by cases e) _).updO (λ_ e=>by cases e) _
  ·exact(X1.updO (λ_ e=>by cases e) _).updO (λ_ e=>by cases e) _
  ·rw[zag];rfl
  ·rw[zac _ _ (λe=>by cases e),zac _ _ (λe=>by cases e)];exact(E1 .up (λe=>by cases e) (λ_ e=>by cases e)).trans h.nu
  ·rw[zac _ _ (λe=>by cases e),zag]
  ·rw[zac _ _ (λe=>by cases e),zac _ _ (λe=>by cases e)];exact(E1 .lines (λe=>by cases e) (λ_ e=>by cases e)).trans h.nl
  ·rw[zac _ _ (λe=>by cases e),zac _ _ (λe=>by cases e)];exact E1 (.e k) (λe=>by cases e) (λ_ e=>by cases e)
 have HCB:Hid (zab down++zab R.2=zab U):=by show _=_;rw[<-HU.out,zbe]
 clear S1 X1 o1 E1 hOo nu1 lk1 hs kO
 go_wp2_with (at_builtin;refine zbh _ rfl (.tmp 39) (.tmp 40) 34 34 rfl 5 i0 (.int .u8 0) 1 1 Tryz.underlying34 hi0 hz0 hz1 hz2 rfl _ _ _ rfl hOU _ _ _ rfl hsrc ?_ ?_ ?_)
 ·unfold maxLen;omega
 ·omega
 intro v3 w3 hA3 hG3;have hA4:=zbv (m:=U.length) (ys:=zab U) hA3 HUL.out.symm HCB.out;rw[<-HVU.out] at hG3;obtain⟨⟨c2',t2'⟩,own3,S3,L3,e3⟩:=HST.out v3 w3 hA4 hG3;obtain⟨a3,k3,hv3,-,-⟩:=hA4.slice;subst hv3;obtain⟨W3,hW3⟩:∃ W3,w3.setCell ⟨gl,3,none⟩ (.slice a3 U.length k3)=W3:=⟨_,rfl⟩;rw[hW3] at S3;clear hA3 hA4 hG3 HST hsrc hOU HCB h
 go_wp2
 go_loopw [3] (λs3 wr => ∃ (j:Nat) (D:Ds) (own4:LN->Res) (v4:Value),s3 = .int .i64 (n-(j:Int))/\j<=U.length/\((j:Int)<=n\/j=0)/\Hid (D=dx/\j=0\/0<j/\D=dx.takes (U.take j))/\Sep wb wr own4/\zak own4 gl gx gy D R.1 vu v4 vl up (U.drop j) nl xs lv /\ ∀ k,own4 (.e k)=own (.e k)) (λs3 _=>(intOf s3).toNat)
 case atStart=>exact⟨0,dx,own3,.slice a3 U.length k3,by simp,Nat.zero_le _,.inr rfl,.inl ⟨rfl,rfl⟩,S3,L3,e3⟩
 case round =>
  obtain⟨j,D,own4,v4,rfl,hj,hjn,HD,S4,L4,e4⟩:=hrel;clear S3 L3 e3;have hO4:=(show OwnAt wr 5 1 v4 (U.drop j).length (zab (U.drop j)) from S4.get L4.nd);have hdl:(U.drop j).length=U.length-j:=List.length_drop;obtain⟨a4,k4,hv4,hk4,-⟩:=hO4.slice;by_cases hgo:0<n-(j:Int)
  ·obtain⟨k,hk⟩:∃ k:Nat,min (min (n-(j:Int)) piece) ((U.drop j).length:Int)=(k:Int):=⟨(min (min (n-(j:Int)) piece) ((U.drop j).length:Int)).toNat,by omega⟩;have hkl:k<=(U.drop j).length:=by omega
   have hmin2:∀ (W:World) (ts:Array TypeId) (ty:TypeId),(Builtin.min_ ts ty #[.int .i64 (min (n-(j:Int)) piece),.int .i64 ((U.drop j).length:Int)]).run Tryz.prog W = .ok (.int .i64 (k:Int)) W:=λW ts ty=>zqi _ W ts ty _ _ _ hk;obtain⟨q,hq⟩:∃ q,min (n-(j:Int)) piece=q:=⟨_,rfl⟩;have hmin1:∀ (W:World) (ts:Array TypeId) (ty:TypeId),(Builtin.min_ ts ty #[.int .i64 (n-(j:Int)),.int .i64 piece]).run Tryz.prog W = .ok (.int .i64 q) W:=λW ts ty=>zqi _ W ts ty _ _ _ hq;rw[hq] at hmin2;have hkz:(k:Int)=0->(U.drop j).length=0:=by omega
   have HKZ:=hide hkz;have hkn:(j:Int)+k<=n:=by omega
   have hBt:=zae.take (OwnAt.isBytes (by rw[hv4] at hO4;exact hO4)) k hkl;rw[zda] at hBt;have hrun1:∀ W:World,(Instr.slice 34 (.slice a4 (U.drop j).length k4) none (some (.int .i64 (k:Int))) none).run Tryz.prog W = .ok (.slice a4 k k4) W:=λW=>by
    rw[run_slice_h W 34 _ _ k4 (by rw[zam];exact Tryz.underlying34) .i64 (k:Int) (by omega) (by omega),zam,zbl]
    show Result.ok (sliced a4 0 k k4 1) W=_
    rw[zda]
   have hOr:=(show OwnAt wr 5 1 (.slice a4 (U.drop j).length k4) (U.drop j).length (zab (U.drop j)) by rw[<-hv4];exact hO4).from k hkl;obtain⟨ay,ky,hvy,-,-⟩:=hOr.slice;have hrun2:∀ W:World,(Instr.slice 34 (.slice a4 (U.drop j).length k4) (some (.int .i64 (k:Int))) none none).run Tryz.prog W = .ok (.slice ay ((U.drop j).length-k) ky) W:=λW=>by
    rw[run_slice_l W 34 _ _ k4 (by rw[zam];exact Tryz.underlying34) .i64 (k:Int) (by omega) (by omega),zam,zbl]
    show Result.ok (sliced a4 k (U.drop j).length k4 1) W=_
    rw[hvy]
   have hck:((U.drop j).take k).length=k:=by rw[List.length_take];omega
   have hcond:=λhfD=>HI.out D j k (HD.out.elim .inl (λh => .inr h.2)) (by omega) hfD
   have kI:=zzbdq Good hG L4.ex (S4.ext (Ext.refl wr).drew) _ _ (hBt.ext (Ext.refl wr).drew) (λhfD=>by rw[hck];exact(hcond hfD).1) (λhfD=>(hcond hfD).2);have c1:wr.cell? ⟨gl,0,none⟩=some (.pointer (some ⟨gx,0,none⟩)):=L4.cc S4 0;have c2:wr.cell? ⟨gl,3,none⟩=some v4:=L4.cc S4 3;rw[hv4] at c2;have HV4:=hide hv4;have HVY:=hide hvy;have HKL:=hide hkl;have HL4:=hide L4;have HTK:Hid (D.takes ((U.drop j).take k)=dx.takes (U.take (j+k))):=by
    show _=_
    rcases HD.out with ⟨e1,e2⟩|⟨-,e1⟩
    ·rw[e1,e2];simp
    ·rw[e1,<-zfp,zms]
   have hndl:((U.drop j).length:Int)<=17592186044416:=by omega
   clear hBt hOr hvy hO4 hq hk hck hcond hkz;generalize hdn:(U.drop j).length=dn at *;have HDN:=hide hdn;have hdj:dn=U.length-j:=by omega
   have HDJ:=hide hdj;clear hdn hdl hdj
   go_wp2_with fail
   first | go_region_with (go_at_call 22;refine kI.mono ?_;rintro e w5 ⟨rfl,own5,S5,Y5,E5⟩) | fail
   all_goals
    have lk5:=(E5 .link (λ_ e=>by cases e)).trans HL4.out.lk;have nu5:=(E5 .down (λ_ e=>by cases e)).trans HL4.out.nd;rw[HV4.out,HDN.out] at nu5;have c25:w5.cell? ⟨gl,3,none⟩=some v4:=S5.cell lk5 3;have t25:=S5.thaw lk5 3;rw[HV4.out] at c25;have S6:=S5.cutFrom nu5 k HKL.out;rw[HVY.out] at S6;have lk6:=(zac own5 (.row 5 1 (.slice ay (dn-k) ky) (dn-k) ((zab (U.drop j)).drop k)) (show LN.link ≠ .down from λe=>by cases e)).trans lk5;have S7:=S6.setObj lk6 3 (.slice ay (dn-k) ky);obtain⟨W7,hW7⟩:∃ W7,w5.setCell ⟨gl,3,none⟩ (.slice ay (dn-k) ky)=W7:=⟨_,rfl⟩;rw[hW7] at S7;have hrow:(Res.row 5 1 (.slice ay (dn-k) ky) (dn-k) ((zab (U.drop j)).drop k)) = .row 5 1 (.slice ay (dn-k) ky) (U.drop (j+k)).length (zab (U.drop (j+k))):=by
     have e1:(U.drop (j+k)).length=dn-k:=by rw[List.length_drop,HDJ.out];omega
     have e2:(zab (U.drop j)).drop k=zab (U.drop (j+k)):=by unfold zab;rw[<-List.map_drop,List.drop_drop]
     rw[e1,e2]
    obtain⟨own7,S7,L7,e7⟩:∃ own7,Sep wb W7 own7/\zak own7 gl gx gy (D.takes ((U.drop j).take k)) R.1 vu (.slice ay (dn-k) ky) vl up (U.drop (j+k)) nl xs lv /\ ∀ k,own7 (.e k)=own (.e k):=by
     refine⟨_,S7,⟨?_,?_,?_,?_,?_,?_⟩,λk => ?_⟩
     ·exact(Y5.updO (λ_ e=>by cases e) _).updO (λ_ e=>by cases e) _
     ·exact((HL4.out.ey.alike (λz=>E5 (.y z) (λ_ e=>by cases e))).updO (λ_ e=>by cases e) _).updO (λ_ e=>by cases e) _
     ·rw[zag];rfl
     ·rw[zac _ _ (λe=>by cases e),zac _ _ (λe=>by cases e)];exact(E5 .up (λ_ e=>by cases e)).trans HL4.out.nu
     ·rw[zac _ _ (λe=>by cases e),zag,hrow]
     ·rw[zac _ _ (λe=>by cases e),zac _ _ (λe=>by cases e)];exact(E5 .lines (λ_ e=>by cases e)).trans HL4.out.nl
     ·rw[zac _ _ (λe=>by cases e),zac _ _ (λe=>by cases e)];exact(E5 (.e k) (λ_ e=>by cases e)).trans (e4 k)
    clear S5 Y5 E5 lk5 nu5 S6 lk6 hrow kI;by_cases hz:k=0
    ·have hkz2:=HKZ.out (by omega);have HF:Hid (D.takes ((U.drop j).take k)=fed dx U n/\U.drop (j+k)=U.drop (min n.toNat U.length)):=by
      have hdj:=HDJ.out;have hjU:j=U.length:=by omega
      refine⟨?_,?_⟩
      ·rw[HTK.out];unfold fed;rw[if_neg (by omega)];rw[hz,hjU,Nat.add_zero,List.take_of_length_le (Nat.le_refl _),Nat.min_eq_right (by omega),List.take_of_length_le (Nat.le_refl _)]
      ·rw[hz,hjU,Nat.add_zero,Nat.min_eq_right (by omega)]
     have hzb:((k:Int) == 0)=true:=by rw[hz];rfl
     have HS7:=hide S7;have HL7:=hide L7;clear S7 L7 hz hkz2
     go_wp2
     refine bodyPost_ret (results_none rfl _ _ _) rfl ?_;have L8:=HL7.out;rw[HF.out.1,HF.out.2] at L8;exact⟨rfl,own7,_,HS7.out,L8,e7⟩
    ·have hzb:((k:Int) == 0)=false:=by rw[beq_eq_false_iff_ne];omega
     have HNZ:=hide hz;have hdj:=HDJ.out;have HS7:=hide S7;have HL7:=hide L7;have HKN:=hide hkn;clear S7 L7 hz hkn hdj
     go_wp2
     go_roundw
     case rel =>
      have hA:(n-(j:Int)-(k:Int))=n-((j+k:Nat):Int):=by omega
      exact⟨j+k,D.takes ((U.drop j).take k),own7,_,congrArg (Value.int .i64) hA,(by have:=HDJ.out;have:=HKL.out;omega),.inl (by have:=HKN.out;omega),.inr ⟨by have:=HNZ.out;omega,HTK.out⟩,HS7.out,HL7.out,e7⟩
     case measure =>
      have:=HNZ.out
      simp[intOf];omega
  ·have HF:Hid (D=fed dx U n/\U.drop j=U.drop (min n.toNat U.length)):=by
    rcases HD.out with ⟨e1,e2⟩|⟨e2,e1⟩
    ·have hn:n<=0:=by omega
     refine⟨?_,?_⟩
     ·unfold fed;rw[if_pos hn];exact e1
     ·rw[e2,show n.toNat=0 by omega,Nat.zero_min]
    ·have hjn':(j:Int)=n:=by omega
     have hm:min n.toNat U.length=j:=by omega
     refine⟨?_,by rw[hm]⟩;unfold fed;rw[if_neg (by omega),hm];exact e1
   have hgo':decide (0<n-(j:Int))=false:=by simp;omega
   have HS4:=hide S4;have HL4:=hide L4;clear S4 L4 hO4
   go_wp2
   go_end0
   have L8:=HL4.out;rw[HF.out.1,HF.out.2] at L8;exact⟨rfl,own4,HS4.out,⟨_,L8⟩,e4⟩
end
def half1(room:Int)(p:Ds×Ds):Ds×Ds:=((p.1.out room).1,p.2.takes (p.1.out room).2)
def half2(room:Int)(p:Ds×Ds):Ds×Ds:=(p.1.takes (p.2.out room).2,(p.2.out room).1)
def zgg(room:Int)(p:Ds×Ds):Ds×Ds:=half2 room (half1 room p)
def srounds(room:Int):Nat->Ds×Ds->Ds×Ds
 | 0,p=>p
 | n+1,p=>zgg room (srounds room n p)
structure zfk (room:Int) (s r:Ds):Prop where
 ok:zgx s
 ck:∀ f∈s.ctl,f.1<=255/\f.2.1<=255
 len:(s.out room).2.length<=1000000000
 ro:∃ m q B,r.Ok m q B/\r.inn.length+(s.out room).2.length+100<=1000000000/\2*(r.inn.length+(s.out room).2.length)+20<=m
theorem zzbcb(d:Ds)(b:Bytes):(d.takes b).failed=true\/(d.takes b).inn.length<=d.inn.length+b.length:=by
 unfold Ds.takes;by_cases h:d.failed=true
 ·rw[if_pos h];exact .inl h
 ·rw[if_neg h];rcases zkt ((d.inn++b).length+1) { d with inn:=d.inn++b } with e | e
  ·exact .inl e
  ·right;have e2:({ d with inn:=d.inn++b }:Ds).inn.length=d.inn.length+b.length:=List.length_append;dsimp only at e e2 ⊢;exact Nat.le_trans e (Nat.le_of_eq e2)
theorem zfk.hI{room:Int}{s r:Ds}(h:zfk room s r):∃ Good,GoodD Good /\ ∀ (D:Ds) (j k:Nat),(D=r/\j=0\/D=r.takes (((s.out room).2).take j))->j+k<=((s.out room).2).length->D.failed=false->D.inn.length+k<=68719476736/\Good { D with inn:=D.inn++(((s.out room).2).drop j).take k }:=by
 obtain⟨m,q,B,hok,h1,h2⟩:=h.ro;refine⟨GoodB q B,zmp q B,λD j k hD hj hf => ?_⟩;have htl:(((s.out room).2).take j).length=j:=by rw[List.length_take];omega
 have hdl:((((s.out room).2).drop j).take k).length=k:=by rw[List.length_take,List.length_drop];omega
 have hDD:D.inn.length<=r.inn.length+j/\D.Ok (m-r.inn.length-j-2) q B:=by
  rcases hD with ⟨e1,e2⟩|e1
  ·rw[e1,e2];exact⟨by omega,hok.mono (by omega)⟩
  ·rw[e1] at hf ⊢;refine⟨?_,?_⟩
   ·rcases zzbcb r (((s.out room).2).take j) with e|e
    ·rw[e] at hf;cases hf
    ·rw[htl] at e;exact e
   ·exact Ds.Ok.takes _ (hok.mono (by rw[htl];omega)) (by rw[htl];omega)
 refine⟨by omega,?_⟩;unfold GoodB;refine(hDD.2.inn _ (by rw[List.length_append,hdl];omega)).mono ?_
 show 6+(D.inn++(((s.out room).2).drop j).take k).length<=_
 rw[List.length_append,hdl];omega
section
variable {own:LN->Res} {gl gx gy:Nat} {dx dy:Ds} {vu vd vl:Value} {nl:Nat} {xs:List Value} {lv:Bool} {wb w:World}
theorem zmt(r:Ds)(u:Bytes)(n:Int)(h0:0<n)(h:(u.length:Int)<=n):fed r u n=r.takes u/\u.drop (min n.toNat u.length)=[]:=by
 have hm:min n.toNat u.length=u.length:=by omega
 unfold fed;rw[if_neg (by omega),hm,List.take_of_length_le (Nat.le_refl _),List.drop_of_length_le (Nat.le_refl _)];exact⟨rfl,rfl⟩
theorem zzbjw(h:zak own gl gx gy dx dy vu vd vl [] [] nl xs lv)(hs:Sep wb w own)(R:Int)(hR:R=1099511627776)(hg:zfk R dx dy) :
  Calls Tryz.prog 13 #[.pointer (some ⟨gl,0,none⟩),.bool true,.int .i64 R,.int .i64 R,.int .i64 R] w λe w'=>e = .returned (.tuple #[]) /\ ∃ own' v',Sep wb w' own'/\zak own' gl gx gy (half1 R (dx,dy)).1 (half1 R (dx,dy)).2 v' vd vl [] [] nl xs lv /\ ∀ k,own' (.e k)=own (.e k):=by
 obtain⟨Good,hG,hI⟩:=hg.hI;have hl:=hg.len;refine(znn h hs R R R (by omega) (by omega) (by omega) (by omega) (by omega) (by omega) hg.ok hg.ck Good hG (by show 0+_<=_;omega) (by simp only[List.nil_append];exact hI)).mono ?_;rintro e w' ⟨rfl,own',v',S,L,E⟩;simp only[List.nil_append] at L;obtain⟨e1,e2⟩:=zmt dy (dx.out R).2 R (by omega) (by omega);rw[e1,e2] at L;exact⟨rfl,own',v',S,L,E⟩
theorem zzbfe(h:zak own gl gx gy dx dy vu vd vl [] [] nl xs lv)(hs:Sep wb w own)(R:Int)(hR:R=1099511627776)(hg:zfk R dy dx) :
  Calls Tryz.prog 13 #[.pointer (some ⟨gl,0,none⟩),.bool false,.int .i64 R,.int .i64 R,.int .i64 R] w λe w'=>e = .returned (.tuple #[]) /\ ∃ own' v',Sep wb w' own'/\zak own' gl gx gy (half2 R (dx,dy)).1 (half2 R (dx,dy)).2 vu v' vl [] [] nl xs lv /\ ∀ k,own' (.e k)=own (.e k):=by
 obtain⟨Good,hG,hI⟩:=hg.hI;have hl:=hg.len;refine(zku h hs R R R (by omega) (by omega) (by omega) (by omega) (by omega) (by omega) hg.ok hg.ck Good hG (by show 0+_<=_;omega) (by simp only[List.nil_append];exact hI)).mono ?_;rintro e w' ⟨rfl,own',v',S,L,E⟩;simp only[List.nil_append] at L;obtain⟨e1,e2⟩:=zmt dx (dy.out R).2 R (by omega) (by omega);rw[e1,e2] at L;exact⟨rfl,own',v',S,L,E⟩
set_option maxHeartbeats 3200000 in
theorem zpt(h:zak own gl gx gy dx dy vu vd vl [] [] nl xs lv)(hs:Sep wb w own)(R:Int)(hR:R=1099511627776)
  (hg:∀ i,i<5->zfk R (srounds R i (dx,dy)).1 (srounds R i (dx,dy)).2/\zfk R (half1 R (srounds R i (dx,dy))).2 (half1 R (srounds R i (dx,dy))).1) :
  Calls Tryz.prog 23 #[.pointer (some ⟨gl,0,none⟩)] w λe w'=>e = .returned (.tuple #[]) /\ ∃ own' vu' vd',Sep wb w' own'/\zak own' gl gx gy (srounds R 5 (dx,dy)).1 (srounds R 5 (dx,dy)).2 vu' vd' vl [] [] nl xs lv /\ ∀ k,own' (.e k)=own (.e k):=by
 have HG:=hide hg;have HR:=hide hR;clear hg
 go_enter Tryz.func23,Tryz.ntmps23
 go_wp2
 go_loopw [2] (λs2 wr => ∃ (i:Nat) (own1:LN->Res) (vu1 vd1:Value),i<=5/\s2 = .int .i64 (i:Int)/\Sep wb wr own1/\zak own1 gl gx gy (srounds R i (dx,dy)).1 (srounds R i (dx,dy)).2 vu1 vd1 vl [] [] nl xs lv /\ ∀ k,own1 (.e k)=own (.e k)) (λs2 _=>5-(intOf s2).toNat)
 case atStart=>exact⟨0,own,vu,vd,by omega,rfl,hs,h,λ_=>rfl⟩
 case round =>
  obtain⟨i,own1,vu1,vd1,hi,rfl,S1,L1,e1⟩:=hrel;by_cases hlt:i<5
  ·obtain⟨g1,g2⟩:=HG.out i hlt;have k1:=zzbjw L1 S1 R HR.out g1;have hlt':(i:Int)<5:=by omega
   rw[hR] at k1;clear S1 L1
   go_wp2_with fail
   refine k1.mono ?_;rintro e w2 ⟨rfl,own2,v2,S2,L2,e2⟩;rw[<-hR] at L2;have k2:=zzbfe L2 S2 R HR.out g2;rw[hR] at k2;clear S2 L2 k1
   go_wp2_with fail
   refine k2.mono ?_;rintro e w3 ⟨rfl,own3,v3,S3,L3,e3⟩;rw[<-hR] at L3;have HS:=hide S3;have HL:=hide L3;have HE:Hid (∀ k,own3 (.e k)=own (.e k)):=λk=>(e3 k).trans ((e2 k).trans (e1 k));clear S3 L3 k2 e3 e2 e1
   go_wp2
   go_roundw
   case rel=>exact⟨i+1,own3,v2,v3,by omega,by go_num,HS.out,HL.out,HE.out⟩
   case measure=>simp[intOf];omega
  ·have hi5:i=5:=by omega
   have hlt':decide ((i:Int)<5)=false:=by simp;omega
   have HS:=hide S1;have HL:=hide L1;have HI5:=hide hi5;clear S1 L1 hi5
   go_wp2
   go_end0
   have L:=HL.out;rw[HI5.out] at L;exact⟨rfl,own1,_,_,HS.out,L,e1⟩
end
end Go.Proofs.YtoijpogadkogcaaGreat
