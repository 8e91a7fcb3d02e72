import Derived.Test.YtoijpogadkogcaaGreatQy
namespace Go.Proofs.YtoijpogadkogcaaGreat
open Go.RowKit
set_option maxRecDepth 100000
theorem zug{w w1 w':World}{v v':Value}(h:Ext w w1)(g:zau w1 v w' v')(hv:∀ k,v.ownBlock=some k->w.heap.size<=k):Ext w w' /\ ∀ b,v'.ownBlock=some b->w.heap.size<=b:=by
 refine⟨zko h g hv,λb hb => ?_⟩;rcases g.place with e | ⟨k,e,hk⟩
 ·exact hv b (by rw[<-e];exact hb)
 ·rw[e] at hb;injection hb with hb
  have:=h.size
  omega
set_option maxHeartbeats 1600000 in
theorem zyb(w:World)(vb:Value)(l:Bytes)(hb:zae w vb l)(hl:l.length<=35184372088832) :
  Calls Tryz.prog 42 #[vb] w λe w' => ∃ v',e = .returned v'/\OwnAt w' 5 1 v' l.length (zab l)/\Ext w w' /\ ∀ b,v'.ownBlock=some b->w.heap.size<=b:=by
 obtain⟨i0,hi0,hz0,hz1,hz2⟩:=zbk Tryz.infoU;have HB:=hide hb;obtain⟨a,c,hv,hc1,hc2,h3⟩:=hb;subst hv;cases a with
 | none =>
  have hl0:l=[]:=by
   rcases h3 with h|⟨b,o,e,_⟩
   ·exact h
   ·cases e
  subst hl0;clear h3 hc1 HB hl;have heq:=zfv Tryz.underlying34;have hnil:(Value.slice none ([]:Bytes).length c) = .slice none 0 c:=rfl;rw[hnil]
  go_enter Tryz.func42,Tryz.ntmps42
  go_wp2
  go_ret
  exact⟨_,rfl,OwnAt.nil _ _ _,Ext.refl w,λb hb=>by simp[Value.ownBlock] at hb⟩
 | some x =>
  have heq:=zfv Tryz.underlying34;have he1:Ext w (w.alloc (.cells #[] 5)):=(Ext.refl w).alloc _;have hsrc:=zed (HB.out.ext he1);have hO:OwnAt (w.alloc (.cells #[] 5)) 5 1 (.slice (some ⟨w.heap.size,0,none⟩) 0 0) 0 []:=⟨rfl,.inr ⟨w.heap.size,0,0,#[],rfl,heap_alloc_new w _,Nat.le_refl _,by simp[maxLen],by simp,rfl⟩⟩;clear h3
  go_enter Tryz.func42,Tryz.ntmps42
  go_wp2_with (at_builtin;refine zbh _ rfl (.tmp 5) (.tmp 6) 34 34 rfl 5 i0 (.int .u8 0) 1 1 Tryz.underlying34 hi0 hz0 hz1 hz2 rfl _ _ _ rfl hO _ _ _ rfl hsrc ?_ ?_ ?_)
  ·unfold maxLen;omega
  ·omega
  intro v2 w2 hA2 hG2;have hA3:=zbv (m:=l.length) (ys:=zab l) hA2 (by omega) (List.nil_append _);obtain⟨a2,k2,hv2,-,-⟩:=hA3.slice;have hF:=zug he1 hG2 (λk hk=>by simp only[Value.ownBlock,Option.some.injEq] at hk;omega);have HX:=hide (And.intro hA3 hF);clear hA2 hG2 hA3 hF hO hsrc;subst hv2
  go_wp2
  go_ret
  exact⟨_,rfl,HX.out.1,HX.out.2.1,HX.out.2.2⟩
theorem zuh:∀ m:zal,∀ u∈zap m,u.oneCell'=true
 | [],u,hu=>by cases hu
 | p::r,u,hu=>by
  have h:u∈Value.string ⟨p.1.toArray⟩::Value.string ⟨p.2.toArray⟩::zap r:=hu;rcases List.mem_cons.1 h with e | h
  ·rw[e];rfl
  rcases List.mem_cons.1 h with e|h
  ·rw[e];rfl
  ·exact zuh r u h
set_option maxHeartbeats 1600000 in
theorem zyc(w:World)(vh:Value)(m:zal)(hb:OwnAt w 122 2 vh m.length (zap m))(hl:m.length<=1000) :
  Calls Tryz.prog 76 #[vh] w λe w' => ∃ v',e = .returned v'/\OwnAt w' 122 2 v' m.length (zap m)/\Ext w w' /\ ∀ b,v'.ownBlock=some b->w.heap.size<=b:=by
 obtain⟨i0,hi0,hz0,hz1,hz2⟩:=info_parts Tryz.infoPair;have heq:=zfv Tryz.underlying43;rcases hb.2 with ⟨rfl,hm0⟩ | ⟨g,o,cap,cur,rfl,hg,hc1,hc2,hc3,hc4⟩
 ·have hml:m=[]:=List.eq_nil_of_length_eq_zero hm0;subst hml
  go_enter Tryz.func76,Tryz.ntmps76
  go_wp2
  go_ret
  exact⟨_,rfl,OwnAt.nil _ _ _,Ext.refl w,λb hb=>by simp[Value.ownBlock] at hb⟩
 ·have hone:∀ u∈zap m,u.oneCell'=true:=zuh m;have he1:Ext w (w.alloc (.cells #[] 122)):=(Ext.refl w).alloc _;have hsrc:=(hb.ext he1).src (tx:=43) Tryz.underlying43 hone;have hO:OwnAt (w.alloc (.cells #[] 122)) 122 2 (.slice (some ⟨w.heap.size,0,none⟩) 0 0) 0 []:=⟨rfl,.inr ⟨w.heap.size,0,0,#[],rfl,heap_alloc_new w _,Nat.le_refl _,by simp[maxLen],by simp,rfl⟩⟩;clear hb hc4 hc3 hg
  go_enter Tryz.func76,Tryz.ntmps76
  go_wp2_with (at_builtin;refine zbh _ rfl (.tmp 5) (.tmp 6) 43 43 rfl 122 i0 (.agg #[.string .empty,.string .empty]) 2 32 Tryz.underlying43 hi0 hz0 hz1 hz2 rfl _ _ _ rfl hO _ _ _ rfl hsrc ?_ ?_ ?_)
  ·unfold maxLen;omega
  ·omega
  intro v2 w2 hA2 hG2;have hA3:=zbv (m:=m.length) (ys:=zap m) hA2 (by omega) (List.nil_append _);obtain⟨a2,k2,hv2,-,-⟩:=hA3.slice;have hF:=zug he1 hG2 (λk hk=>by simp only[Value.ownBlock,Option.some.injEq] at hk;omega);have HX:=hide (And.intro hA3 hF);clear hA2 hG2 hA3 hF hO hsrc;subst hv2
  go_wp2
  go_ret
  exact⟨_,rfl,HX.out.1,HX.out.2.1,HX.out.2.2⟩
section
variable {N:Type} {own:N->Res} {nm:DN->N} {g:Nat} {d:Ds} {v:DV} {wb w:World}
def Ds.given(d:Ds)(s:DS)(n:Nat):Ds:=(if zce s.state then d else d.giveS s n).give0 n
theorem zui(d:Ds)(s:DS)(n:Nat):(d.given s n).failed=d.failed/\(d.given s n).inn=d.inn:=by unfold Ds.given;split<;>exact⟨rfl,rfl⟩
set_option maxHeartbeats 3200000 in
theorem zmr(h:zaa own nm g d v)(hs:Sep wb w own)(hf:d.Fits 4){s:DS}(hst:d.str s.id=some s)(n:Nat)(hn:s.to_+n+s.unread.length<=100) :
  Calls Tryz.prog 43 #[.pointer (some ⟨g,0,none⟩),.pointer (some ⟨v.ptr s.id,0,none⟩),.int .i64 (n:Int)] w λe w'=>e = .returned (.tuple #[])/\zaf nm g wb own d v w' (d.given s n):=by
 have fs:=hf.st _ _ hst;have hn2:n<=1000:=by have:=fs.to0;omega
 have f2:=h.s2 hs hst;have f0:=h.s0 hs hst;have ke:=zlx s.state fs.state w;cases he:zce s.state with
 | true =>
  have HG:Hid (d.given s n=d.give0 n):=by show _=_;unfold Ds.given;rw[he];rfl
  rw[HG.out];rw[he] at ke;have k0:=ziy h hs (hf.mono (by omega)) n hn2;clear he
  go_enter Tryz.func43,Tryz.ntmps43
  go_wp2_with fail
  refine ke.mono ?_;rintro e w1 ⟨rfl,hw⟩;replace hw:=hw.symm;subst hw
  go_wp2_with fail
  refine k0.mono ?_;rintro e w2 ⟨rfl,hL⟩;have HL:=hide hL;clear hL
  go_wp2
  go_end0
  exact⟨rfl,HL.out⟩
 | false =>
  have HG:Hid (d.given s n=(d.giveS s n).give0 n):=by show _=_;unfold Ds.given;rw[he];rfl
  rw[HG.out];rw[he] at ke;have kS:=zzbbk h (hs.ext (Ext.refl w).drew) (hf.mono (by omega)) hst n hn;have F2:(d.giveS s n).Fits 2:=by unfold Ds.giveS;refine Ds.Fits.lay ?_ _ _ _ _ (by simp[two]) fs.id;exact(hf.setS s.id { s with to_:=s.to_+(n:Int) } ⟨fs.id,fs.state,fs.from0,fs.from1,by have:=fs.to0;show 0<=s.to_+(n:Int);omega,by show s.to_+(n:Int)+(s.unread.length:Int)<=100;omega,fs.headers,fs.block,fs.data,fs.code⟩).mono (by omega:2+1<=4)
  clear he
  go_enter Tryz.func43,Tryz.ntmps43
  go_wp2_with fail
  refine ke.mono ?_;rintro e w1 ⟨rfl,hw⟩;replace hw:=hw.symm;subst hw
  go_wp2_with fail
  first | go_region_with (go_at_call 83;refine kS.mono ?_;rintro e w2 ⟨rfl,own2,v2,S2,H2,E2,r2,i2,p2⟩) | fail
  all_goals
   have k0:=ziy H2 S2 F2 n hn2;have HP:=hide (And.intro E2 (And.intro r2 (And.intro i2 p2)));clear S2 H2 E2 r2 i2 p2
   go_wp2_with fail
   refine k0.mono ?_;rintro e w3 ⟨rfl,hL⟩;have HL:=hide (hL.trans (own:=own) (d:=d) (v:=v) HP.out.1 HP.out.2.1 HP.out.2.2.1 HP.out.2.2.2);clear hL
   go_wp2
   go_end0
   exact⟨rfl,HL.out⟩
theorem zaa.cutU(h:zaa own nm g d v)(hs:Sep wb w own){s:DS}(hn:d.str s.id=some s){a:Option Addr}{cap:Nat}(hv:(v.sv s.id).vU = .slice a s.unread.length cap)(k:Nat)(hk:k<=s.unread.length){y:Value}(hy:sliced a k s.unread.length cap 1=y) :
  ∃ own',Sep wb (w.setCell ⟨v.ptr s.id,9,none⟩ y) own'/\zaa own' nm g (d.setS s.id { s with unread:=s.unread.drop k }) { v with sv:=λj=>if j=s.id then { v.sv s.id with vU:=y } else v.sv j }/\zai nm own own':=by
 subst hy;have ed:=h.unread hn;rw[hv] at ed;have s1:=hs.cutFrom ed k hk;have c1:=(zad h.inj own (.unread s.id) (.st s.id) (.row 5 1 (sliced a k s.unread.length cap 1) (s.unread.length-k) ((zab s.unread).drop k))).trans ((if_neg (by simp)).trans (h.st hn));have s2:=s1.setObj c1 9 (sliced a k s.unread.length cap 1);have hm:=h.setU hn (s.unread.drop k) (sliced a k s.unread.length cap 1);have e1:(s.unread.drop k).length=s.unread.length-k:=List.length_drop;have e2:zab (s.unread.drop k)=(zab s.unread).drop k:=by unfold zab;rw[List.map_drop]
 rw[e1,e2] at hm;exact⟨_,s2,hm,((zai.refl nm own).upd _ _).upd _ _⟩
def zid{N:Type}(nm:DN->N)(g:Nat)(wb:World)(own:N->Res)(d:Ds)(v:DV)(id most:Int)(e:Ending)(w':World):Prop :=
 (Ds.read? (d.find id) most≠0/\e = .returned (.tuple #[.slice none 0 0,.int .i64 (Ds.read? (d.find id) most:Int)])/\zaf nm g wb own d v w' d) \/
 (Ds.read? (d.find id) most=0 /\ ∃ (vo:Value) (own':Option N->Res) (v':DV),e = .returned (.tuple #[vo,.int .i64 0])/\Sep wb w' own'/\zaa own' (λx=>some (nm x)) g (d.read (d.find id) (Ds.readN (d.find id) most)) v'/\own' none = .row 5 1 vo (Ds.readN (d.find id) most) (zab ((d.find id).unread.take (Ds.readN (d.find id) most)))/\(∀ n,(∀ x,n≠nm x)->own' (some n)=own n)/\v'.rp=v.rp/\(d.failed=false->v'.vI=v.vI))
set_option maxHeartbeats 6400000 in
theorem zzbfd(h:zaa own nm g d v)(hs:Sep wb w own)(hf:d.Fits 4)(id most:Int)(h1:-9223372036854775808<=id)(h2:id<=9223372036854775807)(hm2:most<=9223372036854775807) :
  Calls Tryz.prog 17 #[.pointer (some ⟨g,0,none⟩),.int .i64 id,.int .i64 most] w (zid nm g wb own d v id most):=by
 cases hr:d.real id with
 | none =>
  obtain⟨z,hz,hzz⟩:=zkg d id;obtain⟨W1,hW⟩:∃ W1,w.alloc (.cells (zcl z) 94)=W1:=⟨_,rfl⟩;obtain⟨hE,z2,z8,-⟩:=zmn w z hW;have S1:=hs.ext hE;have k:=zdx h hs h1 h2 hr hz hW;have efind:=zhq hr;rw[hz] at efind;have HL:=hide (h.left S1);rcases hzz with rfl | rfl
  ·have hq:Ds.read? (d.find id) most=6:=by rw[efind];rfl
   have HF:Hid (zid nm g wb own d v id most (.returned (.tuple #[.slice none 0 0,.int .i64 6])) W1):=.inl ⟨by rw[hq];omega,by rw[hq];rfl,HL.out⟩;clear efind hr hz hW hq
   go_enter Tryz.func17,Tryz.ntmps17
   go_wp2_with fail
   refine k.mono ?_;rintro e w1 ⟨rfl,hw⟩;replace hw:=hw.symm;subst hw
   go_wp2
   go_ret2
   exact HF.out
  ·have kr:=zfc 8 (by omega) W1;by_cases hm:most<0
   ·have hq:Ds.read? (d.find id) most=9:=by rw[efind];unfold Ds.read?;rw[if_neg (by show ¬ (8:Nat)=0;omega),if_pos hm]
    have HF:Hid (zid nm g wb own d v id most (.returned (.tuple #[.slice none 0 0,.int .i64 9])) W1):=.inl ⟨by rw[hq];omega,by rw[hq];rfl,HL.out⟩;clear efind hr hz hW hq
    go_enter Tryz.func17,Tryz.ntmps17
    go_wp2_with fail
    refine k.mono ?_;rintro e w1 ⟨rfl,hw⟩;replace hw:=hw.symm;subst hw
    go_wp2
    go_ret2
    exact HF.out
   ·have hq:Ds.read? (d.find id) most=7:=by rw[efind];unfold Ds.read?;rw[if_neg (by show ¬ (8:Nat)=0;omega),if_neg hm];rfl
    have HF:Hid (zid nm g wb own d v id most (.returned (.tuple #[.slice none 0 0,.int .i64 7])) W1):=.inl ⟨by rw[hq];omega,by rw[hq];rfl,HL.out⟩;clear efind hr hz hW hq
    go_enter Tryz.func17,Tryz.ntmps17
    go_wp2_with fail
    refine k.mono ?_;rintro e w1 ⟨rfl,hw⟩;replace hw:=hw.symm;subst hw
    go_wp2_with (go_at_call 40;refine kr.mono ?_;rintro e w' ⟨rfl,hw⟩;replace hw:=hw.symm;subst hw)
    go_ret2
    exact HF.out
 | some s =>
  have hst:=zhi h hr;have fs:=hf.st _ _ hst;have k:=zer h hs h1 h2 hr;have efind:=zfe hr;have f2:=h.s2 hs hst;have f9:=h.s9 hs hst;have f20:=h.c20 hs;have kr:=zfc s.state fs.state w;have ken:=zlx s.state fs.state w;obtain⟨aU,cU,hvU,hcU,-⟩:=(hs.get (h.unread hst)).slice;rw[hvU] at f9;have HL:=hide (h.left hs);by_cases hq:Ds.read? s most=0
  ·have hq0:s.state≠0:=by intro e;unfold Ds.read? at hq;rw[if_pos e] at hq;omega
   have hqm:¬ most<0:=by intro e;unfold Ds.read? at hq;rw[if_neg hq0,if_pos e] at hq;omega
   have hqr:zbx s.state=false:=by
    cases e:zbx s.state with
    | false=>rfl
    | true=>unfold Ds.read? at hq;rw[if_neg hq0,if_neg hqm,if_pos e] at hq;omega
   have hqe:¬ (s.unread.length=0/\zce s.state=true):=by intro e;unfold Ds.read? at hq;rw[if_neg hq0,if_neg hqm,if_neg (by rw[hqr];simp),if_pos e] at hq;omega
   have hOU:OwnAt w 5 1 (.slice aU s.unread.length cU) s.unread.length (zab s.unread):=by
    have:=hs.get (h.unread hst)
    rw[hvU] at this;exact this
   obtain⟨n,hn⟩:∃ n,Ds.readN s most=n:=⟨_,rfl⟩;have hnm:(n:Int)=min most (s.unread.length:Int):=by unfold Ds.readN at hn;omega
   have hnu:n<=s.unread.length:=by omega
   have hmin:∀ (W:World) (ts:Array TypeId) (ty:TypeId),(Builtin.min_ ts ty #[.int .i64 most,.int .i64 (s.unread.length:Int)]).run Tryz.prog W = .ok (.int .i64 (n:Int)) W:=λW ts ty=>by simp[Builtin.min_,Builtin.min2];split<;>omega
   have hBt:=zae.take (OwnAt.isBytes hOU) n hnu;rw[zda] at hBt;have hrun1:∀ W:World,(Instr.slice 34 (.slice aU s.unread.length cU) none (some (.int .i64 (n:Int))) none).run Tryz.prog W = .ok (.slice aU n cU) W:=λW=>by
    rw[run_slice_h W 34 _ _ cU (by rw[zam];exact Tryz.underlying34) .i64 (n:Int) (by omega) (by omega),zam,zbl]
    show Result.ok (sliced aU 0 n cU 1) W=_
    rw[zda]
   have hOr:=hOU.from n hnu;obtain⟨ay,ky,hvy,-,-⟩:=hOr.slice;have hrun2:∀ W:World,(Instr.slice 34 (.slice aU s.unread.length cU) (some (.int .i64 (n:Int))) none none).run Tryz.prog W = .ok (.slice ay (s.unread.length-n) ky) W:=λW=>by
    rw[run_slice_l W 34 _ _ cU (by rw[zam];exact Tryz.underlying34) .i64 (n:Int) (by omega) (by omega),zam,zbl]
    show Result.ok (sliced aU n s.unread.length cU 1) W=_
    rw[hvy]
   have hul:=fs.to1;have hu0:=fs.to0;have kC:=zyb w _ _ hBt (by rw[List.length_take];omega);have htl:(s.unread.take n).length=n:=by rw[List.length_take];omega
   rw[htl] at kC;have HVY:=hide hvy;have HNU:=hide hnu;have HVU:=hide hvU;rw[hqr] at kr;have hq0b:((s.state:Int) == 0)=false:=by rw[beq_eq_false_iff_ne];omega
   have hm':decide (most<0)=false:=by simp;omega
   have HEF:=hide efind;have HN:=hide hn;have HQ0:=hide hq;clear hBt hOr htl hvy hOU hq hn hnm efind hr;have hug:(((s.unread.length:Int) == 0)=true/\zce s.state=false)\/((s.unread.length:Int) == 0)=false:=by
    by_cases e:s.unread.length=0
    ·left;refine⟨by rw[e];rfl,?_⟩;cases e2:zce s.state with
     | false=>rfl
     | true=>exact absurd ⟨e,e2⟩ hqe
    ·right;rw[beq_eq_false_iff_ne];omega
   have HQE:=hide hqe;clear hqe;generalize hsl:s.unread.length=ul at *;have HUL:=hide hsl;clear hsl;rcases hug with ⟨hu1,hu2⟩ | hu1
   ·rw[hu2] at ken;have HU2:=hide hu2;clear hu2
    go_enter Tryz.func17,Tryz.ntmps17
    go_wp2_with fail
    refine k.mono ?_;rintro e w1 ⟨rfl,hw⟩;replace hw:=hw.symm;subst hw
    go_wp2_with (first | (go_at_call 40;refine kr.mono ?_;rintro e w' ⟨rfl,hw⟩;replace hw:=hw.symm;subst hw) | (go_at_call 41;refine ken.mono ?_;rintro e w' ⟨rfl,hw⟩;replace hw:=hw.symm;subst hw))
    refine kC.mono ?_;rintro e w2 ⟨vo,rfl,hO2,hE2,hfr2⟩;have SL:=hs.liftRow hE2 hO2 hfr2;have HLf:=h.lift (.row 5 1 vo n (zab (s.unread.take n)));obtain⟨ao,co,hvo,-,-⟩:=hO2.slice;have f9':=HLf.s9 SL hst;rw[HVU.out] at f9';have t9:=HLf.sthaw SL hst 9;obtain⟨own3,S3,H3,E3⟩:=HLf.cutU (y:=.slice ay (ul-n) ky) SL hst (by rw[HUL.out];exact HVU.out) n (by rw[HUL.out];exact HNU.out) (by rw[HUL.out];exact HVY.out);obtain⟨W3,hW3⟩:∃ W3,w2.setCell ⟨v.ptr s.id,9,none⟩ (.slice ay (ul-n) ky)=W3:=⟨_,rfl⟩;rw[hW3] at S3;have g20:W3.cell? ⟨g,20,none⟩=some (.bool d.failed):=H3.c20 S3;have n0:own3 none = .row 5 1 vo n (zab (s.unread.take n)):=(E3 none (λx e=>by cases e)).trans rfl;have e0:∀ n',(∀ x,n'≠nm x)->own3 (some n')=own n':=λn' hn'=>(E3 (some n') (λx e=>hn' x (by injection e))).trans rfl
    have g20b:=g20;obtain⟨v3,H3,r3,i3,p3⟩:∃ v3,zaa own3 (λx=>some (nm x)) g (d.setS s.id { s with unread:=s.unread.drop n }) v3/\v3.rp=v.rp/\v3.vI=v.vI/\v3.ptr s.id=v.ptr s.id:=⟨_,H3,rfl,rfl,rfl⟩;subst hvo;clear hO2 hE2 hfr2 SL HLf kC g20b;by_cases hz:n=0
    ·have HF:Hid (zid nm g wb own d v id most (.returned (.tuple #[.slice ao n co,.int .i64 0])) W3):=by
      refine .inr ⟨by rw[HEF.out];exact HQ0.out,_,own3,v3,rfl,S3,?_,by rw[HEF.out,HN.out];exact n0,e0,r3,λ_=>i3⟩;rw[HEF.out,HN.out];unfold Ds.read;dsimp only;rw[if_pos (.inl hz)];exact H3
     have hz':decide ((0:Int)<(n:Int))=false:=by simp;omega
     have hz2:decide (0<n)=false:=by simp;omega
     have hz3:¬ 0<n:=by omega
     clear S3 H3 n0 e0 E3 hz
     go_wp2
     go_ret2
     exact HF.out
    ·have hz':(0:Int)<(n:Int):=by omega
     cases hfl:d.failed with
     | true =>
      have HF:Hid (zid nm g wb own d v id most (.returned (.tuple #[.slice ao n co,.int .i64 0])) W3):=by refine .inr ⟨by rw[HEF.out];exact HQ0.out,_,own3,v3,rfl,S3,?_,by rw[HEF.out,HN.out];exact n0,e0,r3,λ_=>i3⟩;rw[HEF.out,HN.out];unfold Ds.read;dsimp only;rw[if_pos (.inr hfl)];exact H3
      rw[hfl] at g20;clear S3 H3 n0 e0 E3 hz hfl
      go_wp2
      go_ret2
      exact HF.out
     | false =>
      have n3:(d.setS s.id { s with unread:=s.unread.drop n }).str ({ s with unread:=s.unread.drop n }:DS).id=some { s with unread:=s.unread.drop n }:=by rw[zaj];exact if_pos rfl
      have hdl:(s.unread.drop n).length=ul-n:=by rw[List.length_drop,HUL.out]
      have hnu:=HNU.out;have F3:(d.setS s.id { s with unread:=s.unread.drop n }).Fits 4:=hf.setS _ _ ⟨fs.id,fs.state,fs.from0,fs.from1,fs.to0,by show s.to_+((s.unread.drop n).length:Int)<=100;rw[hdl];omega,fs.headers,fs.block,fs.data,fs.code⟩;have kG:=zmr H3 S3 F3 n3 n (by show s.to_+(n:Int)+((s.unread.drop n).length:Int)<=100;rw[hdl];omega);rw[show v3.ptr ({ s with unread:=s.unread.drop n }:DS).id=v.ptr s.id from p3] at kG;rw[hfl] at g20;have HND:=hide (And.intro n0 e0);have HFL:=hide hfl;have HZ:=hide hz;clear S3 H3 n0 e0 E3 hz hfl F3 n3 hdl hnu
      go_wp2_with fail
      refine kG.mono ?_;rintro e w4 ⟨rfl,own4,v4,S4,H4,E4,r4,i4,-⟩;have HF:Hid (zid nm g wb own d v id most (.returned (.tuple #[.slice ao n co,.int .i64 0])) w4):=by refine .inr ⟨by rw[HEF.out];exact HQ0.out,_,own4,v4,rfl,S4,?_,by rw[HEF.out,HN.out];exact(E4 none (λx e=>by cases e)).trans HND.out.1,λn' hn'=>(E4 (some n') (λx e=>hn' x (by injection e))).trans (HND.out.2 n' hn'),r4.trans r3,λhx=>(i4 (by rw[(zui _ _ _).1];exact hx)).trans i3⟩;rw[HEF.out,HN.out];unfold Ds.read;dsimp only;rw[if_neg (by rw[HFL.out];simp;exact HZ.out)];exact H4
      clear S4 H4 E4 r4 i4
      go_wp2
      go_ret2
      exact HF.out
   ·have HU1:=hide hu1;clear ken
    go_enter Tryz.func17,Tryz.ntmps17
    go_wp2_with fail
    refine k.mono ?_;rintro e w1 ⟨rfl,hw⟩;replace hw:=hw.symm;subst hw
    go_wp2_with (go_at_call 40;refine kr.mono ?_;rintro e w' ⟨rfl,hw⟩;replace hw:=hw.symm;subst hw)
    refine kC.mono ?_;rintro e w2 ⟨vo,rfl,hO2,hE2,hfr2⟩;have SL:=hs.liftRow hE2 hO2 hfr2;have HLf:=h.lift (.row 5 1 vo n (zab (s.unread.take n)));obtain⟨ao,co,hvo,-,-⟩:=hO2.slice;have f9':=HLf.s9 SL hst;rw[HVU.out] at f9';have t9:=HLf.sthaw SL hst 9;obtain⟨own3,S3,H3,E3⟩:=HLf.cutU (y:=.slice ay (ul-n) ky) SL hst (by rw[HUL.out];exact HVU.out) n (by rw[HUL.out];exact HNU.out) (by rw[HUL.out];exact HVY.out);obtain⟨W3,hW3⟩:∃ W3,w2.setCell ⟨v.ptr s.id,9,none⟩ (.slice ay (ul-n) ky)=W3:=⟨_,rfl⟩;rw[hW3] at S3;have g20:W3.cell? ⟨g,20,none⟩=some (.bool d.failed):=H3.c20 S3;have n0:own3 none = .row 5 1 vo n (zab (s.unread.take n)):=(E3 none (λx e=>by cases e)).trans rfl;have e0:∀ n',(∀ x,n'≠nm x)->own3 (some n')=own n':=λn' hn'=>(E3 (some n') (λx e=>hn' x (by injection e))).trans rfl
    have g20b:=g20;obtain⟨v3,H3,r3,i3,p3⟩:∃ v3,zaa own3 (λx=>some (nm x)) g (d.setS s.id { s with unread:=s.unread.drop n }) v3/\v3.rp=v.rp/\v3.vI=v.vI/\v3.ptr s.id=v.ptr s.id:=⟨_,H3,rfl,rfl,rfl⟩;subst hvo;clear hO2 hE2 hfr2 SL HLf kC g20b;by_cases hz:n=0
    ·have HF:Hid (zid nm g wb own d v id most (.returned (.tuple #[.slice ao n co,.int .i64 0])) W3):=by
      refine .inr ⟨by rw[HEF.out];exact HQ0.out,_,own3,v3,rfl,S3,?_,by rw[HEF.out,HN.out];exact n0,e0,r3,λ_=>i3⟩;rw[HEF.out,HN.out];unfold Ds.read;dsimp only;rw[if_pos (.inl hz)];exact H3
     have hz':decide ((0:Int)<(n:Int))=false:=by simp;omega
     have hz2:decide (0<n)=false:=by simp;omega
     have hz3:¬ 0<n:=by omega
     clear S3 H3 n0 e0 E3 hz
     go_wp2
     go_ret2
     exact HF.out
    ·have hz':(0:Int)<(n:Int):=by omega
     cases hfl:d.failed with
     | true =>
      have HF:Hid (zid nm g wb own d v id most (.returned (.tuple #[.slice ao n co,.int .i64 0])) W3):=by refine .inr ⟨by rw[HEF.out];exact HQ0.out,_,own3,v3,rfl,S3,?_,by rw[HEF.out,HN.out];exact n0,e0,r3,λ_=>i3⟩;rw[HEF.out,HN.out];unfold Ds.read;dsimp only;rw[if_pos (.inr hfl)];exact H3
      rw[hfl] at g20;clear S3 H3 n0 e0 E3 hz hfl
      go_wp2
      go_ret2
      exact HF.out
     | false =>
      have n3:(d.setS s.id { s with unread:=s.unread.drop n }).str ({ s with unread:=s.unread.drop n }:DS).id=some { s with unread:=s.unread.drop n }:=by rw[zaj];exact if_pos rfl
      have hdl:(s.unread.drop n).length=ul-n:=by rw[List.length_drop,HUL.out]
      have hnu:=HNU.out;have F3:(d.setS s.id { s with unread:=s.unread.drop n }).Fits 4:=hf.setS _ _ ⟨fs.id,fs.state,fs.from0,fs.from1,fs.to0,by show s.to_+((s.unread.drop n).length:Int)<=100;rw[hdl];omega,fs.headers,fs.block,fs.data,fs.code⟩;have kG:=zmr H3 S3 F3 n3 n (by show s.to_+(n:Int)+((s.unread.drop n).length:Int)<=100;rw[hdl];omega);rw[show v3.ptr ({ s with unread:=s.unread.drop n }:DS).id=v.ptr s.id from p3] at kG;rw[hfl] at g20;have HND:=hide (And.intro n0 e0);have HFL:=hide hfl;have HZ:=hide hz;clear S3 H3 n0 e0 E3 hz hfl F3 n3 hdl hnu
      go_wp2_with fail
      refine kG.mono ?_;rintro e w4 ⟨rfl,own4,v4,S4,H4,E4,r4,i4,-⟩;have HF:Hid (zid nm g wb own d v id most (.returned (.tuple #[.slice ao n co,.int .i64 0])) w4):=by refine .inr ⟨by rw[HEF.out];exact HQ0.out,_,own4,v4,rfl,S4,?_,by rw[HEF.out,HN.out];exact(E4 none (λx e=>by cases e)).trans HND.out.1,λn' hn'=>(E4 (some n') (λx e=>hn' x (by injection e))).trans (HND.out.2 n' hn'),r4.trans r3,λhx=>(i4 (by rw[(zui _ _ _).1];exact hx)).trans i3⟩;rw[HEF.out,HN.out];unfold Ds.read;dsimp only;rw[if_neg (by rw[HFL.out];simp;exact HZ.out)];exact H4
      clear S4 H4 E4 r4 i4
      go_wp2
      go_ret2
      exact HF.out
  ·have HF:Hid (zid nm g wb own d v id most (.returned (.tuple #[.slice none 0 0,.int .i64 (Ds.read? s most:Int)])) w):=.inl ⟨by rw[efind];exact hq,by rw[efind],HL.out⟩;clear efind hr;by_cases h0:s.state=0
   ·have hv:Ds.read? s most=6:=by unfold Ds.read?;rw[if_pos h0]
    rw[hv] at HF;rw[h0] at f2;clear hq hv
    go_enter Tryz.func17,Tryz.ntmps17
    go_wp2_with fail
    refine k.mono ?_;rintro e w1 ⟨rfl,hw⟩;replace hw:=hw.symm;subst hw
    go_wp2
    go_ret2
    exact HF.out
   have h0b:((s.state:Int) == 0)=false:=by rw[beq_eq_false_iff_ne];omega
   by_cases hm:most<0
   ·have hv:Ds.read? s most=9:=by unfold Ds.read?;rw[if_neg h0,if_pos hm]
    rw[hv] at HF;clear hq hv
    go_enter Tryz.func17,Tryz.ntmps17
    go_wp2_with fail
    refine k.mono ?_;rintro e w1 ⟨rfl,hw⟩;replace hw:=hw.symm;subst hw
    go_wp2
    go_ret2
    exact HF.out
   have hm':decide (most<0)=false:=by simp;omega
   cases hqr:zbx s.state with
   | true =>
    have hv:Ds.read? s most=7:=by unfold Ds.read?;rw[if_neg h0,if_neg hm,if_pos hqr]
    rw[hv] at HF;rw[hqr] at kr;clear hq hv hqr ken
    go_enter Tryz.func17,Tryz.ntmps17
    go_wp2_with fail
    refine k.mono ?_;rintro e w1 ⟨rfl,hw⟩;replace hw:=hw.symm;subst hw
    go_wp2_with (go_at_call 40;refine kr.mono ?_;rintro e w' ⟨rfl,hw⟩;replace hw:=hw.symm;subst hw)
    go_ret2
    exact HF.out
   | false =>
    have hqe:s.unread.length=0/\zce s.state=true:=by
     by_cases e:s.unread.length=0/\zce s.state=true
     ·exact e
     ·exact absurd (by unfold Ds.read?;rw[if_neg h0,if_neg hm,if_neg (by rw[hqr];simp),if_neg e]) hq
    have hv:Ds.read? s most=8:=by unfold Ds.read?;rw[if_neg h0,if_neg hm,if_neg (by rw[hqr];simp),if_pos hqe]
    rw[hv] at HF;rw[hqr] at kr;rw[hqe.2] at ken;rw[hqe.1] at f9;clear hq hv hqr hqe
    go_enter Tryz.func17,Tryz.ntmps17
    go_wp2_with fail
    refine k.mono ?_;rintro e w1 ⟨rfl,hw⟩;replace hw:=hw.symm;subst hw
    go_wp2_with (first | (go_at_call 40;refine kr.mono ?_;rintro e w' ⟨rfl,hw⟩;replace hw:=hw.symm;subst hw) | (go_at_call 41;refine ken.mono ?_;rintro e w' ⟨rfl,hw⟩;replace hw:=hw.symm;subst hw))
    go_ret2
    exact HF.out
end
section
variable {N:Type} {own:N->Res} {nm:DN->N} {g:Nat} {d:Ds} {v:DV} {wb w:World}
def znm{N:Type}(nm:DN->N)(g:Nat)(wb:World)(own:N->Res)(d:Ds)(v:DV)(id:Int)(e:Ending)(w':World):Prop :=
 (d.headers? id=none/\e = .returned (.tuple #[.slice none 0 0,.int .i64 6])/\zaf nm g wb own d v w' d) \/
 (∃ hd,d.headers? id=some hd /\ ∃ vo,e = .returned (.tuple #[vo,.int .i64 0])/\Sep wb w' (lift own (.row 122 2 vo hd.length (zap hd)))/\zaa (lift own (.row 122 2 vo hd.length (zap hd))) (λx=>some (nm x)) g d v)
theorem zzx{d:Ds}{m:Bool}{n:Nat}{s:DS}(h:d.held m n=some s):d.str n=some s:=by
 unfold Ds.held at h;split at h
 ·cases h
 ·split at h
  ·rename_i s' hs' _
   injection h with h
   rw[<-h];exact hs'
  ·cases h
set_option maxHeartbeats 3200000 in
theorem zyd(h:zaa own nm g d v)(hs:Sep wb w own)(hf:d.Fits 0)(id:Int)(h1:-9223372036854775808<=id)(h2:id<=9223372036854775807) :
  Calls Tryz.prog 31 #[.pointer (some ⟨g,0,none⟩),.int .i64 id] w (znm nm g wb own d v id):=by
 have f9:=h.c9 hs;have hb:w.heap[v.gt]? = some (.map v.esT v.ckT):=hs.get (h.res .mt);have hk:=zmi (P:=Tryz.prog) (w:=w) Tryz.underlying96 Tryz.underlying3 Tryz.zeroPS hb h.mapT (a:=id) (zmk id h1 h2);have heq:=zfv Tryz.underlying43;have HL:=hide (h.left hs);cases hm:d.mapF false v.ptr id with
 | none =>
  have hq:d.headers? id=none:=by
   unfold Ds.mapF at hm;unfold Ds.headers?;by_cases h0:0<=id
   ·rw[if_pos h0] at hm ⊢;cases e:d.held false id.toNat with
    | none=>rfl
    | some s=>rw[e] at hm;cases hm
   ·rw[if_neg h0]
  have HF:Hid (znm nm g wb own d v id (.returned (.tuple #[.slice none 0 0,.int .i64 6])) w):=.inl ⟨hq,rfl,HL.out⟩;rw[hm] at hk;simp only[ptrTo] at hk;clear hq hm
  go_enter Tryz.func31,Tryz.ntmps31
  go_wp2
  go_ret2
  exact HF.out
 | some p =>
  have hm0:=hm;unfold Ds.mapF at hm0;have h0:0<=id:=by
   by_cases h0:0<=id
   ·exact h0
   ·rw[if_neg h0] at hm0;cases hm0
  rw[if_pos h0] at hm0;obtain⟨s,hhe⟩:∃ s,d.held false id.toNat=some s:=by
   cases e:d.held false id.toNat with
   | none=>rw[e] at hm0;cases hm0
   | some s=>exact⟨s,rfl⟩
  rw[hhe] at hm0;simp only[Option.map_some,Option.some.injEq] at hm0;have hst:=zzx hhe;have fs:=hf.st _ _ hst;have f5:=h.s5 hs hst;rw[hm0] at f5;rw[hm] at hk;simp only[ptrTo] at hk;by_cases hhd:s.headers=[]
  ·have hq:d.headers? id=none:=by unfold Ds.headers?;rw[if_pos h0,hhe];show (if s.headers=[] then none else some s.headers)=none;rw[if_pos hhd]
   have HF:Hid (znm nm g wb own d v id (.returned (.tuple #[.slice none 0 0,.int .i64 6])) w):=.inl ⟨hq,rfl,HL.out⟩;rw[h.nilH _ _ hst hhd] at f5;clear hq hm hm0 hhe
   go_enter Tryz.func31,Tryz.ntmps31
   go_wp2
   go_ret2
   exact HF.out
  ·have hq:d.headers? id=some s.headers:=by unfold Ds.headers?;rw[if_pos h0,hhe];show (if s.headers=[] then none else some s.headers)=_;rw[if_neg hhd]
   have hOH:=(show OwnAt w 122 2 (v.sv id.toNat).vH s.headers.length (zap s.headers) from hs.get (h.hdr hst));have kC:=zyc w _ s.headers hOH fs.headers;obtain⟨ah,oh,ch,hvh,-⟩:=zgp hOH (List.length_pos_iff.2 hhd);rw[hvh] at f5 kC;have HQ:=hide hq;clear hm hm0 hhe hq hOH hvh hhd
   go_enter Tryz.func31,Tryz.ntmps31
   go_wp2_with fail
   refine kC.mono ?_;rintro e w1 ⟨vo,rfl,hO1,hE1,hfr1⟩;have SL:=hs.liftRow hE1 hO1 hfr1;have HLf:=h.lift (.row 122 2 vo s.headers.length (zap s.headers));obtain⟨ao,co,hvo,-,-⟩:=hO1.slice;have HF:Hid (znm nm g wb own d v id (.returned (.tuple #[vo,.int .i64 0])) w1):=.inr ⟨s.headers,HQ.out,vo,rfl,SL,HLf⟩;clear hO1 hE1 hfr1 SL HLf kC;subst hvo
   go_wp2
   go_ret2
   exact HF.out
theorem zzbhj(d:Ds)(s:DS)(n:Nat):(d.read s n).failed=d.failed/\(d.read s n).inn=d.inn:=by
 unfold Ds.read;dsimp only;split
 ·exact⟨rfl,rfl⟩
 ·split<;>exact⟨rfl,rfl⟩
theorem zjm(h:zar own nm g d)(hs:Sep wb w own)(hf:d.Fits 4)(id most:Int)(h1:-9223372036854775808<=id)(h2:id<=9223372036854775807)(hm2:most<=9223372036854775807)(k:N)(hk:∀ x,nm x≠k)(hk0:own k = .none) :
  Calls Tryz.prog 17 #[.pointer (some ⟨g,0,none⟩),.int .i64 id,.int .i64 most] w λe w' => ∃ vo own',Sep wb w' own'/\(∀ n,n≠k->(∀ x,n≠nm x)->own' n=own n) /\
   ((Ds.read? (d.find id) most≠0/\e = .returned (.tuple #[.slice none 0 0,.int .i64 (Ds.read? (d.find id) most:Int)])/\zar own' nm g d/\own' k = .none) \/
   (Ds.read? (d.find id) most=0/\e = .returned (.tuple #[vo,.int .i64 0])/\zar own' nm g (d.read (d.find id) (Ds.readN (d.find id) most))/\own' k = .row 5 1 vo (Ds.readN (d.find id) most) (zab ((d.find id).unread.take (Ds.readN (d.find id) most))))):=by
 obtain⟨v,k1,k2⟩:=h;refine(zzbfd k1 hs hf id most h1 h2 hm2).mono ?_;rintro e w' (⟨a,b,c⟩ | ⟨a,vo,own',v',b,S,H,n0,e0,r0,i0⟩)
 ·obtain⟨own',S,X,E⟩:=c.endAt k2 ⟨rfl,rfl⟩;exact⟨.slice none 0 0,own',S,λn _ hx=>E n hx,.inl ⟨a,b,X,(E k (λx e=>hk x e.symm)).trans hk0⟩⟩
 ·obtain⟨q1,q2⟩:=zzbhj d (d.find id) (Ds.readN (d.find id) most);refine⟨vo,_,S.fold k,λn hn hx=>by rw[zac _ _ hn];exact e0 n hx,.inr ⟨a,b,⟨v',H.fold hk,λhx => ?_⟩,by rw[zag];exact n0⟩⟩;rw[q1] at hx;rw[r0,i0 hx,q2];exact k2 hx
theorem zgf(h:zar own nm g d)(hs:Sep wb w own)(hf:d.Fits 0)(id:Int)(h1:-9223372036854775808<=id)(h2:id<=9223372036854775807)(k:N)(hk:∀ x,nm x≠k)(hk0:own k = .none) :
  Calls Tryz.prog 31 #[.pointer (some ⟨g,0,none⟩),.int .i64 id] w λe w' => ∃ own',Sep wb w' own'/\zar own' nm g d/\(∀ n,n≠k->(∀ x,n≠nm x)->own' n=own n) /\
   ((d.headers? id=none/\e = .returned (.tuple #[.slice none 0 0,.int .i64 6])/\own' k = .none)\/(∃ hd vo,d.headers? id=some hd/\e = .returned (.tuple #[vo,.int .i64 0])/\own' k = .row 122 2 vo hd.length (zap hd))):=by
 obtain⟨v,k1,k2⟩:=h;refine(zyd k1 hs hf id h1 h2).mono ?_;rintro e w' (⟨a,b,c⟩ | ⟨hd,a,vo,b,S,H⟩)
 ·obtain⟨own',S,X,E⟩:=c.endAt k2 ⟨rfl,rfl⟩;exact⟨own',S,X,λn _ hx=>E n hx,.inl ⟨a,b,(E k (λx e=>hk x e.symm)).trans hk0⟩⟩
 ·exact⟨_,S.fold k,⟨v,H.fold hk,k2⟩,λn hn _=>by rw[zac _ _ hn];rfl,.inr ⟨hd,vo,a,b,by rw[zag];rfl⟩⟩
end
end Go.Proofs.YtoijpogadkogcaaGreat
