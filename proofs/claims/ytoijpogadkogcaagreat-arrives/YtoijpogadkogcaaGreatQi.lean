import Derived.Test.YtoijpogadkogcaaGreatQh
namespace Go.Proofs.YtoijpogadkogcaaGreat
open Go.RowKit
set_option maxRecDepth 100000
theorem zgr{P:Program}{ops:Array Oper}{o:Oper}{a:Act}{w:World}{K:Act->World->Prop}{Q:Exit->Act->World->Prop}{E:Prop}
  (hg:o.guard=none) (s x:Operand) (t tx:TypeId) (hop:o.op=Op.call { callee:=Callee.builtin Builtin.append,args:=#[s,x],argTypes:=#[t,tx] })
  (e:TypeId) (i:TypeInfo) (z:Value) (size bytes:Nat) (ht:P.underlying t=some (.slice e)) (hi:P.info? e=some i) (hz:i.zero=some z)
  (hsize:i.size=size) (hby:i.bytes=bytes) (hzs:z.cells.size=size)
  (v:Value) (n:Nat) (xs:List Value) (hs:a.eval s=v) (hown:OwnAt w e size v n xs)
  (y:Value) (m:Nat) (news:List Value) (hx:a.eval x=y) (hsrc:Src P size tx y m news w)
  (h63:n+m<=maxLen) (hbytes:(n+m)*bytes<=140737488355328)
  (hK:∀ v' w',OwnAt w' e size v' (n+m) (xs++news)->zau w v w' v'->K (a.put o.dst v') w') :
  if Region.wanted o (yielded ops a.tmps)=true then Oper.wp P o a w K Q else E:=by
 have hw:Region.wanted o (yielded ops a.tmps)=true:=by simp[Region.wanted,hg]
 rw[if_pos hw];obtain⟨v',w',hr,h2,h3⟩:=zjq (P:=P) w t tx o.type e i z size bytes ht hi hz hsize hby hzs v n xs hown y m news hsrc h63 hbytes;unfold Oper.wp;simp[execOp,hop,resolve,invoke,builtin,hs,hx,hr,Result.andThen];exact hK v' w' h2 h3
theorem zed{w:World}{v:Value}{l:Bytes}(h:zae w v l):Src Tryz.prog 1 34 v l.length (zab l) w:=by
 obtain⟨a,cap,rfl,h1,h2,h3⟩:=h;have hone:∀ u∈zab l,u.oneCell'=true:=by intro u hu;unfold zab at hu;obtain⟨b,_,rfl⟩:=List.mem_map.1 hu;rfl
 by_cases hl:l=[]
 ·subst hl;cases a with
  | none=>exact Src.ofNil w Tryz.underlying34 cap
  | some a=>exact Src.ofSlice w Tryz.underlying34 a 0 cap [] rfl (λj u hj=>by simp at hj) (λu hu=>by simp at hu)
 ·rcases h3 with h3|⟨b,o,rfl,hc⟩
  ·exact absurd h3 hl
  ·refine Src.ofSlice w Tryz.underlying34 ⟨b,o,none⟩ l.length cap (zab l) (by rw[zoi];omega) (λj u hj => ?_) hone;have hj':j<l.length:=by have:=(List.getElem?_eq_some_iff.1 hj).1;rwa [zoi] at this
   rw[zea,hc j hj',<-hj];simp[zab,List.getElem?_eq_getElem hj']
section
variable {N:Type} {own:N->Res} {nm:DN->N} {g:Nat} {d:Ds} {v:DV} {wb w:World}
theorem zaa.setU(h:zaa own nm g d v){s:DS}(hn:d.str s.id=some s)(u:Bytes)(x:Value) :
  zaa (upd (upd own (nm (.unread s.id)) (.row 5 1 x u.length (zab u))) (nm (.st s.id)) (.obj (v.ptr s.id) (.cells ((zba g s (v.sv s.id)).setIfInBounds 9 x) 94 (0,0)))) nm g (d.setS s.id { s with unread:=u }) { v with sv:=λk=>if k=s.id then { v.sv s.id with vU:=x } else v.sv k }:=by
 have ehdr:=h.hdr hn;have eblock:=h.block hn;have edata:=h.data hn;refine h.modS hn { s with unread:=u } { v.sv s.id with vU:=x } _ ?_ ?_ ?_ ?_ ?_ ?_ rfl rfl rfl (λe=>h.nilB _ _ hn e) (λe=>h.nilH _ _ hn e)
 ·rw[zag];rfl
 ·rw[zad h.inj,if_neg (by simp),zad h.inj,if_neg (by simp)];exact ehdr
 ·rw[zad h.inj,if_neg (by simp),zad h.inj,if_neg (by simp)];exact eblock
 ·rw[zad h.inj,if_neg (by simp),zad h.inj,if_neg (by simp)];exact edata
 ·rw[zad h.inj,if_neg (by simp),zad h.inj,if_pos rfl]
 ·intro y h0 _ _ _ h4;rw[zad h.inj,if_neg h0,zad h.inj,if_neg h4]
set_option maxHeartbeats 12800000 in
theorem zyy(h:zaa own nm g d v)(hs:Sep wb w own)(hf:d.Fits 4)(kind flags id:Nat)(vb:Value)(body:Bytes)(hb:∀ u,v.rp.ok u->zae u vb body)(hbl:body.length<=64)(hfl:flags<=255)(hid:id<=65535) :
  Calls Tryz.prog 93 #[.pointer (some ⟨g,0,none⟩),frV kind flags id vb] w λe w'=>e = .returned (.tuple #[])/\zaf nm g wb own d v w' (d.doData (flags%2 == 1) id body):=by
 obtain⟨ab,kb,hvb,hkb1,hkb2,-⟩:=hb w (hs.get (h.res .inn));obtain⟨n,hnl⟩:∃ n,body.length=n:=⟨_,rfl⟩;rw[hnl] at hvb hkb1 hbl;have HN:=hide hnl;have h1:-9223372036854775808<=(id:Int):=by omega
 have h2:(id:Int)<=9223372036854775807:=by omega
 have q0:=hf.to0;have q1:=hf.to1;have Sw:=hs.liftObj (frO kind flags id vb);have S0:=Sw.ext (Ext.refl _).drew;have H0:=h.lift (.obj w.heap.size (frO kind flags id vb));obtain⟨W0,hW0⟩:∃ W0,w.alloc (frO kind flags id vb)=W0:=⟨_,rfl⟩;rw[hW0] at S0 Sw;have hW0':w.alloc (.cells #[.int .i64 (kind:Int),.int .i64 (flags:Int),.int .i64 (id:Int),vb] 111)=W0:=hW0;have b0:W0.cell? ⟨w.heap.size,0,none⟩=some (.int .i64 (kind:Int)):=S0.cell (n:=none) rfl 0;have b1:W0.cell? ⟨w.heap.size,1,none⟩=some (.int .i64 (flags:Int)):=S0.cell (n:=none) rfl 1;have b2:W0.cell? ⟨w.heap.size,2,none⟩=some (.int .i64 (id:Int)):=S0.cell (n:=none) rfl 2;have b3:W0.cell? ⟨w.heap.size,3,none⟩=some vb:=S0.cell (n:=none) rfl 3;rw[hvb] at b3 hW0';obtain⟨bx,hbx⟩:∃ bx,w.heap.size=bx:=⟨_,rfl⟩;rw[hbx] at b0 b1 b2 b3 S0 Sw H0;unfold frV;rw[hvb];clear hnl hW0;cases hr:d.real id with
 | none =>
  obtain⟨z,hz,hz2⟩:=zkg d id;have efind:=zhq hr;rw[hz] at efind;obtain⟨W1,hW1⟩:∃ W1,W0.drew.alloc (.cells (zcl z) 94)=W1:=⟨_,rfl⟩;have kf:=zdx H0 S0 h1 h2 hr hz hW1;have S1:=S0.liftObj (.cells (zcl z) 94);rw[hW1] at S1;have H1:=H0.lift (.obj W0.drew.heap.size (.cells (zcl z) 94));have zz:W1.cell? ⟨W0.drew.heap.size,2,none⟩=some (.int .i64 (z:Int)):=S1.cell (n:=none) rfl 2;have zsz:W0.drew.heap.size=W0.heap.size:=rfl;rw[zsz] at kf zz;have d3:W1.cell? ⟨bx,3,none⟩=some (.slice ab n kb):=by rw[<-hvb];exact S1.cell (n:=some none) rfl 3
  have d0:W1.cell? ⟨bx,0,none⟩=some (.int .i64 (kind:Int)):=S1.cell (n:=some none) rfl 0;have d1:W1.cell? ⟨bx,1,none⟩=some (.int .i64 (flags:Int)):=S1.cell (n:=some none) rfl 1;have d2:W1.cell? ⟨bx,2,none⟩=some (.int .i64 (id:Int)):=S1.cell (n:=some none) rfl 2;clear hW1;rcases hz2 with rfl | rfl
  ·have HR:Hid (d.doData (flags%2 == 1) id body=d.fail 1):=by show _=_;unfold Ds.doData;rw[efind];rfl
   rw[HR.out];have kx:=zaq H1 S1 (hf.mono (by omega)) 1;clear hr hz efind
   go_enter Tryz.func93,Tryz.ntmps93
   go_wp2_with fail
   go_region_with (go_at_call 39;refine kf.mono ?_;rintro e w1 ⟨rfl,hw⟩;replace hw:=hw.symm;subst hw)
   all_goals
    go_wp2_with fail
    refine kx.mono ?_;rintro e w3 ⟨rfl,hL⟩;have HL:=hide (hL.unlift.unlift);clear hL
    go_wp2
    go_end0
    exact⟨rfl,HL.out⟩
  ·by_cases hlt:d.to_<(n:Int)
   ·have HR:Hid (d.doData (flags%2 == 1) id body=d.fail 2):=by show _=_;unfold Ds.doData;rw[efind,HN.out];dsimp only;rw[if_neg (by simp),if_pos hlt]
    rw[HR.out];have kt:=ztr H1 S1 n hlt;have kx:=zaq H1 S1 (hf.mono (by omega)) 2;clear hr hz efind
    go_enter Tryz.func93,Tryz.ntmps93
    go_wp2_with fail
    go_region_with (go_at_call 39;refine kf.mono ?_;rintro e w1 ⟨rfl,hw⟩;replace hw:=hw.symm;subst hw)
    all_goals
     go_wp2_with fail
     refine kt.mono ?_;rintro e w2 ⟨rfl,hw⟩;replace hw:=hw.symm;subst hw
     go_wp2_with fail
     refine kx.mono ?_;rintro e w3 ⟨rfl,hL⟩;have HL:=hide (hL.unlift.unlift);clear hL
     go_wp2
     go_end0
     exact⟨rfl,HL.out⟩
   ·have hle:(n:Int)<=d.to_:=by omega
    have HR:Hid (d.doData (flags%2 == 1) id body=({ d with to_:=d.to_-n }:Ds).passOver { state:=8 } (flags%2 == 1) n):=by show _=_;unfold Ds.doData;rw[efind,HN.out];dsimp only;rw[if_neg (by simp),if_neg hlt];rfl
    rw[HR.out];have kt:=zrd H1 S1 hf n hle;have S2:=S1.setObj H1.conn 11 (.int .i64 (d.to_-n));rw[zsd] at S2;have H2:=zaa.scal (d':={ d with to_:=d.to_-n }) H1 rfl rfl rfl rfl rfl;have F2:Ds.Fits { d with to_:=d.to_-n } 4:=hf.to_ _ (by omega) (by omega);obtain⟨W2,hW2⟩:∃ W2,W1.setCell ⟨g,11,none⟩ (.int .i64 (d.to_-n))=W2:=⟨_,rfl⟩;rw[hW2] at S2 kt;have z2:W2.cell? ⟨W0.heap.size,2,none⟩=some (.int .i64 8):=S2.cell (n:=none) ((zac _ _ (by simp)).trans rfl) 2;have hboxe:(upd (lift (lift own (.obj bx (frO kind flags id vb))) (.obj W0.drew.heap.size (.cells (zcl 8) 94))) (some (some (nm .conn))) (.obj g (.cells (zbc { d with to_:=d.to_-n } v) 105 (0,0)))) (some none) = .obj bx (frO kind flags id vb):=(zac _ _ (by simp)).trans rfl;have e0:W2.cell? ⟨bx,0,none⟩=some (.int .i64 (kind:Int)):=S2.cell hboxe 0;have e1:W2.cell? ⟨bx,1,none⟩=some (.int .i64 (flags:Int)):=S2.cell hboxe 1;have e2:W2.cell? ⟨bx,2,none⟩=some (.int .i64 (id:Int)):=S2.cell hboxe 2;have e3:W2.cell? ⟨bx,3,none⟩=some (.slice ab n kb):=by rw[<-hvb];exact S2.cell hboxe 3
    have kr:=zfc 8 (by omega) W2;have kx:=zmo H2 S2 (F2.mono (by omega)) { state:=8 } W0.heap.size kind flags id ab n kb (by omega) hfl (.inr ⟨8,none,.inr rfl,rfl,(zac _ _ (by simp)).trans rfl,λx e=>by cases e⟩);unfold frV at kx;clear hr hz efind
    go_enter Tryz.func93,Tryz.ntmps93
    go_wp2_with fail
    go_region_with (go_at_call 39;refine kf.mono ?_;rintro e w1 ⟨rfl,hw⟩;replace hw:=hw.symm;subst hw)
    all_goals
     go_wp2_with fail
     refine kt.mono ?_;rintro e w2 ⟨rfl,hw⟩;replace hw:=hw.symm;subst hw
     go_wp2_with fail
     refine kr.mono ?_;rintro e w2 ⟨rfl,hw⟩;replace hw:=hw.symm;subst hw
     go_wp2_with fail
     refine kx.mono ?_;rintro e w3 ⟨rfl,hL⟩;have HL:=hide ((hL.trans (own:=lift (lift own (.obj bx (frO kind flags id vb))) (.obj W0.drew.heap.size (.cells (zcl 8) 94))) (d:=d) (v:=v) ((zai.refl _ _).upd _ _) rfl (λ_=>rfl) (λ_ hn=>⟨rfl,hn⟩)).unlift.unlift);clear hL
     go_wp2
     go_end0
     exact⟨rfl,HL.out⟩
 | some s =>
  have hst:=zhi h hr;have fs:=hf.st _ _ hst;have efind:=zfe hr;have f2:W0.cell? ⟨v.ptr s.id,2,none⟩=some (.int .i64 (s.state:Int)):=H0.s2 Sw hst;have HD:Hid (d.doData (flags%2 == 1) id body=d.doData (flags%2 == 1) id body):=rfl
  go_enter Tryz.func93,Tryz.ntmps93
  go_wp2_with fail
  go_quiet ((go_at_call 39;exact Calls.quiet_of_same (zer H0 (Sw.ext (zay W0 _)) h1 h2 hr)))
  have Sd:=Sw.ext (zay W0 nq);generalize W0.drewN nq=Wd at Sd ⊢;have b3:Wd.cell? ⟨bx,3,none⟩=some (.slice ab n kb):=by rw[<-hvb];exact Sd.cell (n:=none) rfl 3
  have b0:Wd.cell? ⟨bx,0,none⟩=some (.int .i64 (kind:Int)):=Sd.cell (n:=none) rfl 0;have b1:Wd.cell? ⟨bx,1,none⟩=some (.int .i64 (flags:Int)):=Sd.cell (n:=none) rfl 1;have b2:Wd.cell? ⟨bx,2,none⟩=some (.int .i64 (id:Int)):=Sd.cell (n:=none) rfl 2;have f2:Wd.cell? ⟨v.ptr s.id,2,none⟩=some (.int .i64 (s.state:Int)):=H0.s2 Sd hst;clear S0 Sw;by_cases hz:s.state=0
  ·have HR:d.doData (flags%2 == 1) id body=d.fail 1:=by unfold Ds.doData;rw[efind];dsimp only;rw[if_pos hz]
   have kx:=zaq H0 Sd (hf.mono (by omega)) 1;rw[hz] at f2;clear hr efind
   go_wp2_with fail
   refine kx.mono ?_;rintro e w3 ⟨rfl,hL⟩;have HL:=hide (show zaf nm g wb own d v w3 (d.doData (flags%2 == 1) id body) from by rw[HR];exact hL.unlift);clear hL HR
   go_wp2
   go_end0
   exact⟨rfl,HL.out⟩
  have hzb:((s.state:Int) == 0)=false:=by simp;omega
  by_cases hlt:d.to_<(n:Int)
  ·have HR:d.doData (flags%2 == 1) id body=d.fail 2:=by unfold Ds.doData;rw[efind,HN.out];dsimp only;rw[if_neg hz,if_pos hlt]
   have kt:=ztr H0 Sd n hlt;have kx:=zaq H0 Sd (hf.mono (by omega)) 2;clear hr efind
   go_wp2_with fail
   refine kt.mono ?_;rintro e w2 ⟨rfl,hw⟩;replace hw:=hw.symm;subst hw
   go_wp2_with fail
   refine kx.mono ?_;rintro e w3 ⟨rfl,hL⟩;have HL:=hide (show zaf nm g wb own d v w3 (d.doData (flags%2 == 1) id body) from by rw[HR];exact hL.unlift);clear hL HR
   go_wp2
   go_end0
   exact⟨rfl,HL.out⟩
  have hle:(n:Int)<=d.to_:=by omega
  have kt:=zrd H0 Sd hf n hle;have S2:=Sd.setObj H0.conn 11 (.int .i64 (d.to_-n));rw[zsd] at S2;have H2:=zaa.scal (d':={ d with to_:=d.to_-n }) H0 rfl rfl rfl rfl rfl;have F2:Ds.Fits { d with to_:=d.to_-n } 4:=hf.to_ _ (by omega) (by omega);obtain⟨W2,hW2⟩:∃ W2,Wd.setCell ⟨g,11,none⟩ (.int .i64 (d.to_-n))=W2:=⟨_,rfl⟩;rw[hW2] at S2 kt;have f2':W2.cell? ⟨v.ptr s.id,2,none⟩=some (.int .i64 (s.state:Int)):=H2.s2 S2 hst;have hboxe:(upd (lift own (.obj bx (frO kind flags id vb))) (some (nm .conn)) (.obj g (.cells (zbc { d with to_:=d.to_-n } v) 105 (0,0)))) none = .obj bx (frO kind flags id vb):=(zac _ _ (by simp)).trans rfl;have e0:W2.cell? ⟨bx,0,none⟩=some (.int .i64 (kind:Int)):=S2.cell hboxe 0;have e1:W2.cell? ⟨bx,1,none⟩=some (.int .i64 (flags:Int)):=S2.cell hboxe 1;have e2:W2.cell? ⟨bx,2,none⟩=some (.int .i64 (id:Int)):=S2.cell hboxe 2;have e3:W2.cell? ⟨bx,3,none⟩=some (.slice ab n kb):=by rw[<-hvb];exact S2.cell hboxe 3
  have kr:=zfc s.state fs.state W2;have E2:zai (λx=>some (nm x)) (lift own (.obj bx (frO kind flags id vb))) _:=(zai.refl _ _).upd .conn (.obj g (.cells (zbc { d with to_:=d.to_-n } v) 105 (0,0)))
  go_wp2_with fail
  refine kt.mono ?_;rintro e w2 ⟨rfl,hw⟩;replace hw:=hw.symm;subst hw;clear hW2 kt f2 b0 b1 b2 b3;cases hrs:zbx s.state with
  | true =>
   have HR:d.doData (flags%2 == 1) id body=({ d with to_:=d.to_-n }:Ds).passOver s (flags%2 == 1) n:=by unfold Ds.doData;rw[efind,HN.out];dsimp only;rw[if_neg hz,if_neg (by omega),if_pos hrs]
   rw[hrs] at kr;have kx:=zmo H2 S2 (F2.mono (by omega)) s (v.ptr s.id) kind flags id ab n kb (by omega) hfl (.inl ⟨hst,rfl⟩);unfold frV at kx;clear hr efind
   go_wp2_with fail
   refine kr.mono ?_;rintro e w2 ⟨rfl,hw⟩;replace hw:=hw.symm;subst hw
   go_wp2_with fail
   refine kx.mono ?_;rintro e w3 ⟨rfl,hL⟩;have HL:=hide (show zaf nm g wb own d v w3 (d.doData (flags%2 == 1) id body) from by rw[HR];exact(zaf.trans (own:=lift own (.obj bx (frO kind flags id vb))) (d:=d) (v:=v) hL E2 rfl (λ_=>rfl) (λ_ hn=>⟨rfl,hn⟩)).unlift);clear hL HR
   go_wp2
   go_end0
   exact⟨rfl,HL.out⟩
  | false =>
   rw[hrs] at kr;have kd:=zlx s.state fs.state W2
   go_wp2_with fail
   refine kr.mono ?_;rintro e w2 ⟨rfl,hw⟩;replace hw:=hw.symm;subst hw;cases hed:zce s.state with
   | true =>
    have HR:d.doData (flags%2 == 1) id body=({ d with to_:=d.to_-n }:Ds).fail 4:=by unfold Ds.doData;rw[efind,HN.out];dsimp only;rw[if_neg hz,if_neg (by omega),if_neg (by rw[hrs];simp),if_pos hed]
    rw[hed] at kd;have kx:=zaq H2 S2 (F2.mono (by omega)) 4;clear hr efind
    go_wp2_with fail
    refine kd.mono ?_;rintro e w2 ⟨rfl,hw⟩;replace hw:=hw.symm;subst hw
    go_wp2_with fail
    refine kx.mono ?_;rintro e w3 ⟨rfl,hL⟩;have HL:=hide (show zaf nm g wb own d v w3 (d.doData (flags%2 == 1) id body) from by rw[HR];exact(zaf.trans (own:=lift own (.obj bx (frO kind flags id vb))) (d:=d) (v:=v) hL E2 rfl (λ_=>rfl) (λ_ hn=>⟨rfl,hn⟩)).unlift);clear hL HR
    go_wp2
    go_end0
    exact⟨rfl,HL.out⟩
   | false =>
    rw[hed] at kd
    go_wp2_with fail
    refine kd.mono ?_;rintro e w2 ⟨rfl,hw⟩;replace hw:=hw.symm;subst hw;by_cases hlt2:s.to_<(n:Int)
    ·have HR:d.doData (flags%2 == 1) id body=({ d with to_:=d.to_-n }:Ds).fail 2:=by unfold Ds.doData;rw[efind,HN.out];dsimp only;rw[if_neg hz,if_neg (by omega),if_neg (by rw[hrs];simp),if_neg (by rw[hed];simp),if_pos hlt2]
     have ks:=zzbek H2 S2 hst n hlt2;have kx:=zaq H2 S2 (F2.mono (by omega)) 2;clear hr efind
     go_wp2_with fail
     refine ks.mono ?_;rintro e w2 ⟨rfl,hw⟩;replace hw:=hw.symm;subst hw
     go_wp2_with fail
     refine kx.mono ?_;rintro e w3 ⟨rfl,hL⟩;have HL:=hide (show zaf nm g wb own d v w3 (d.doData (flags%2 == 1) id body) from by rw[HR];exact(zaf.trans (own:=lift own (.obj bx (frO kind flags id vb))) (d:=d) (v:=v) hL E2 rfl (λ_=>rfl) (λ_ hn=>⟨rfl,hn⟩)).unlift);clear hL HR
     go_wp2
     go_end0
     exact⟨rfl,HL.out⟩
    ·have hle2:(n:Int)<=s.to_:=by omega
     have fu:=fs.to1;have fu0:=fs.to0;obtain⟨i0,hi0,hz0,hz1,hz2⟩:=zbk Tryz.infoU;have ks:=zzbbm H2 S2 hst fs n hle2;have S3:=S2.setObj (H2.st hst) 4 (.int .i64 (s.to_-n));rw[ztn] at S3;have H3:=H2.scalS hst { s with to_:=s.to_-n } rfl rfl rfl rfl rfl rfl rfl;obtain⟨W3,hW3⟩:∃ W3,W2.setCell ⟨v.ptr s.id,4,none⟩ (.int .i64 (s.to_-n))=W3:=⟨_,rfl⟩;rw[hW3] at S3 ks;have n3:=zdt ({ d with to_:=d.to_-n }:Ds) s.id { s with to_:=s.to_-n };have g9:=H3.s9 S3 n3;obtain⟨aU,cU,hU,-,-⟩:=(S3.get (H3.unread n3)).slice;dsimp only at hU g9;rw[hU] at g9;have E3:=E2.upd (.st s.id) (.obj (v.ptr s.id) (.cells (zba g { s with to_:=s.to_-n } (v.sv s.id)) 94 (0,0)));have hboxe3:=(zac (upd (lift own (.obj bx (frO kind flags id vb))) (some (nm .conn)) (.obj g (.cells (zbc { d with to_:=d.to_-n } v) 105 (0,0)))) (n:=some (nm (.st s.id))) (m:=none) (.obj (v.ptr s.id) (.cells (zba g { s with to_:=s.to_-n } (v.sv s.id)) 94 (0,0))) (by simp)).trans hboxe;have q3:W3.cell? ⟨bx,3,none⟩=some (.slice ab n kb):=by rw[<-hvb];exact S3.cell hboxe3 3
     have S3d:=S3.ext (Ext.refl W3).drew;have hsrc:=zed (hb W3.drew (S3d.get (H3.res .inn)));rw[hvb,HN.out] at hsrc;have hOU:OwnAt W3.drew 5 1 (.slice aU s.unread.length cU) s.unread.length (zab s.unread):=by rw[<-hU];exact S3d.get (H3.unread n3)
     have HU:=hide hU;obtain⟨NU,hNU⟩:∃ NU,s.unread++body=NU:=⟨_,rfl⟩;have HLW:Hid (NU.length=s.unread.length+n):=by show _=_;rw[<-hNU,List.length_append,HN.out]
     have HCB:Hid (zab NU=zab s.unread++zab body):=by show _=_;rw[<-hNU,zbe]
     have HNU:=hide hNU;have fsn:({ s with to_:=s.to_-n,unread:=NU }:DS).Fits:=⟨fs.id,fs.state,fs.from0,fs.from1,by show 0<=s.to_-n;omega,by show s.to_-n+(NU.length:Int)<=100;rw[HLW.out];omega,fs.headers,fs.block,fs.data,fs.code⟩;have F4:(({ d with to_:=d.to_-n }:Ds).setS s.id { s with to_:=s.to_-n,unread:=NU }).Fits 4:=F2.setS _ _ fsn;have hR:d.doData (flags%2 == 1) id body=if (flags%2 == 1)=true then (({ d with to_:=d.to_-n }:Ds).setS s.id { s with to_:=s.to_-n,unread:=NU }).takeEnd { s with to_:=s.to_-n,unread:=NU } else ({ d with to_:=d.to_-n }:Ds).setS s.id { s with to_:=s.to_-n,unread:=NU }:=by unfold Ds.doData;rw[efind,HN.out];dsimp only;rw[if_neg hz,if_neg (by omega),if_neg (by rw[hrs];simp),if_neg (by rw[hed];simp),if_neg (by omega),HNU.out]
     have HR:=hide hR;have HSS:=hide (zjj ({ d with to_:=d.to_-n }:Ds) s.id { s with to_:=s.to_-n } { s with to_:=s.to_-n,unread:=NU });clear hr efind hU hNU hR
     go_wp2_with fail
     refine ks.mono ?_;rintro e w2 ⟨rfl,hw⟩;replace hw:=hw.symm;subst hw;clear hW3 ks kr kd f2'
     go_wp2_with fail
     go_region_law (
      refine zgr rfl (.tmp 17) (.tmp 19) 34 34 rfl 5 i0 (.int .u8 0) 1 1 Tryz.underlying34 hi0 hz0 hz1 hz2 rfl (.slice aU s.unread.length cU) s.unread.length (zab s.unread) ?_ hOU (.slice ab n kb) n (zab body) ?_ hsrc ?_ ?_ ?_
      ·simp[Act.eval]
      ·simp[Act.eval]
      ·unfold maxLen;omega
      ·omega
      intro v5 w5 hO5 hG5;have hO6:=zbv hO5 HLW.out.symm HCB.out.symm;rw[<-HU.out] at hG5;obtain⟨a5,k5,hv5,_,_⟩:=hO6.slice;subst hv5;have S5:=S3d.grew (H3.unread n3) hG5 hO6;have c5:=(zad H3.inj _ (.unread s.id) (.st s.id) (.row 5 1 (.slice a5 NU.length k5) NU.length (zab NU))).trans ((if_neg (by simp)).trans (H3.st n3));have t9:w5.frozen? ⟨v.ptr s.id,9,none⟩=false:=S5.thaw c5 9;have f9':w5.cell? ⟨v.ptr s.id,9,none⟩=some (v.sv s.id).vU:=S5.cell c5 9;clear hG5 hO5)
     all_goals
      have S6:=S5.setObj c5 9 (.slice a5 NU.length k5);have H6:=H3.setU (s:={ s with to_:=s.to_-n }) n3 NU (.slice a5 NU.length k5);dsimp only at S6 H6;rw[HSS.out] at H6;obtain⟨W6,hW6⟩:∃ W6,w5.setCell ⟨v.ptr s.id,9,none⟩ (.slice a5 NU.length k5)=W6:=⟨_,rfl⟩;rw[hW6] at S6;have E6:=(E3.upd (.unread s.id) (.row 5 1 (.slice a5 NU.length k5) NU.length (zab NU))).upd (.st s.id) (.obj (v.ptr s.id) (.cells ((zba g { s with to_:=s.to_-n } (v.sv s.id)).setIfInBounds 9 (.slice a5 NU.length k5)) 94 (0,0)));have hboxe6:=E6.kept;have r0:W6.cell? ⟨bx,0,none⟩=some (.int .i64 (kind:Int)):=S6.cell hboxe6 0;have r1:W6.cell? ⟨bx,1,none⟩=some (.int .i64 (flags:Int)):=S6.cell hboxe6 1;have r2:W6.cell? ⟨bx,2,none⟩=some (.int .i64 (id:Int)):=S6.cell hboxe6 2;have r3:W6.cell? ⟨bx,3,none⟩=some (.slice ab n kb):=by rw[<-hvb];exact S6.cell hboxe6 3
      have kh:=zip W6 kind flags id ab n kb hfl;clear S5 c5 t9 f9';cases hfin:(flags%2 == 1) with
      | true =>
       rw[hfin] at kh
       go_wp2_with fail
       refine kh.mono ?_;rintro e w7 ⟨rfl,he7⟩;have kx:=zon H6 (S6.ext he7) (F4.mono (by omega)) (s:={ s with to_:=s.to_-n,unread:=NU }) (zdt _ _ _);dsimp only at kx
       go_wp2_with fail
       refine kx.mono ?_;rintro e w8 ⟨rfl,hL⟩;have HL:=hide (show zaf nm g wb own d v w8 (d.doData (flags%2 == 1) id body) from by rw[HR.out,if_pos hfin];exact(zaf.trans (own:=lift own (.obj bx (frO kind flags id vb))) (d:=d) (v:=v) hL E6 rfl (λ_=>rfl) (λk hk=>⟨rfl,zbf d _ _ k hk⟩)).unlift);clear hL
       go_wp2
       go_end0
       exact⟨rfl,HL.out⟩
      | false =>
       rw[hfin] at kh
       go_wp2_with fail
       refine kh.mono ?_;rintro e w7 ⟨rfl,he7⟩;have HL:=hide (show zaf nm g wb own d v w7 (d.doData (flags%2 == 1) id body) from by rw[HR.out,if_neg (by rw[hfin];simp)];exact zaf.unlift (r:=.obj bx (frO kind flags id vb)) ⟨_,_,S6.ext he7,H6,E6,rfl,λ_=>rfl,λk hk=>⟨rfl,zbf d _ _ k hk⟩⟩)
       go_wp2
       go_end0
       exact⟨rfl,HL.out⟩
end
end Go.Proofs.YtoijpogadkogcaaGreat
