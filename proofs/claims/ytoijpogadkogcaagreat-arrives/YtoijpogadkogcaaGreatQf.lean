import Derived.Test.YtoijpogadkogcaaGreatQe
namespace Go.Proofs.YtoijpogadkogcaaGreat
open Go.RowKit
set_option maxRecDepth 100000
section
variable {N:Type} {own:N->Res} {nm:DN->N} {g:Nat} {d:Ds} {v:DV} {wb w:World}
theorem zyn(h:zaa own nm g d v)(hs:Sep wb w own){n:Nat}{s:DS}(hn:d.str n=some s):d.ring.filter (λk => !(v.ptr n == v.ptr k))=d.ring.filter (λk=>k != n):=by
 apply List.filter_congr;intro k hk;obtain⟨t,ht⟩:=h.wf.rings k hk;by_cases e:k=n
 ·subst e;simp
 ·have:v.ptr n≠v.ptr k:=λe'=>e (h.ptr_inj hs hn ht e').symm
  have e1:(v.ptr n == v.ptr k)=false:=beq_eq_false_iff_ne.2 this;have e2:(k != n)=true:=by simpa using e
  rw[e1,e2];rfl
theorem zaa.ring_ne(h:zaa own nm g d v)(hs:Sep wb w own){n:Nat}{s:DS}(hn:d.str n=some s):v.vR.ownBlock≠some (v.ptr n):=λe=>by
 have:=hs.apart (nm .ring) (nm (.st n)) (v.ptr n) (by rw[h.res];exact e) (by rw[h.st hn];rfl)
 exact absurd (h.inj _ _ this) (by simp)
set_option maxHeartbeats 1600000 in
theorem zra(h:zaa own nm g d v)(hs:Sep wb w own)(hf:d.Fits 1){s:DS}(hn:d.str s.id=some s) :
  Calls Tryz.prog 131 #[.pointer (some ⟨g,0,none⟩),.pointer (some ⟨v.ptr s.id,0,none⟩)] w λe w'=>e = .returned (.tuple #[])/\zaf nm g wb own d v w' (d.place s):=by
 have s1:=hs.ext ((Ext.refl w).alloc (.cells #[.pointer (some ⟨v.ptr s.id,0,none⟩)] 87));have kw:=zqz h s1 hn (hf.st _ _ hn).state;cases hw:s.waits with
 | true =>
  have HE:Hid (d.place s=d.enter s.id):=by show d.place s=_;unfold Ds.place;rw[if_pos hw]
  rw[HE.out];rw[hw] at kw;clear hw;have ke:=zfu h s1 hf hn
  go_enter Tryz.func131,Tryz.ntmps131
  go_wp2_with fail
  refine kw.mono ?_;rintro e w1 ⟨rfl,hw⟩;replace hw:=hw.symm;subst hw
  go_wp2_with fail
  refine ke.mono ?_;rintro e w1 ⟨rfl,hL⟩
  go_wp2
  refine bodyPost_ret (results_none rfl _ _ _) rfl ?_;exact⟨rfl,hL⟩
 | false =>
  have HE:Hid (d.place s = { d with ring:=d.ring.filter (λk=>k != s.id) }):=by show d.place s=_;unfold Ds.place;rw[if_neg (by rw[hw];simp)]
  rw[HE.out];rw[hw] at kw;clear hw;have hmf:∀ (fn:Fn) (first cap:Array Value) (w:World),(Instr.makeFunc fn first cap).run Tryz.prog w = .ok (.func fn first cap) w:=λ_ _ _ _=>rfl;have kd:=zoq d.ring v.ptr v.vR (v.ptr s.id) w.heap.size (w.alloc (.cells #[.pointer (some ⟨v.ptr s.id,0,none⟩)] 87)) (h.rowR s1) (by simp) (h.isBlk s1 hn) (h.ringBlk s1)
   (λe=>by have:=(h.rowR hs).lt _ e;omega) (h.ring_ne s1 hn) (λk hk=>by obtain⟨t,ht⟩:=h.wf.rings (d.ring.getD k 0) (by rw[List.getD_eq_getElem?_getD,List.getElem?_eq_getElem hk];exact List.getElem_mem _);exact h.ring_ne s1 ht)
  rw[zyn h hs hn] at kd;have f13:=h.c13 s1;obtain⟨aR,cR,hR,-,-⟩:=(h.rowR hs).slice;have HR:=hide hR;rw[hR] at f13 kd;have hmem:∀ k∈d.ring.filter (λk=>k != s.id),∃ s,d.str k=some s:=λk hk=>h.wf.rings k (List.mem_filter.1 hk).1;have HM:=hide hmem;clear hmem hR
  go_enter Tryz.func131,Tryz.ntmps131
  go_wp2_with fail
  refine kw.mono ?_;rintro e w1 ⟨rfl,hw⟩;replace hw:=hw.symm;subst hw
  go_wp2_with fail
  refine kd.mono ?_;rintro e w2 ⟨v2,rfl,ho2,hg2⟩;rw[<-HR.out] at hg2;obtain⟨a2,k2,hv2,-,-⟩:=ho2.slice;have s2:=s1.grew (h.res .ring) hg2 ho2;have c2:=(zad h.inj own .ring .conn (.row 87 1 v2 (d.ring.filter (λk=>k != s.id)).length (zat (d.ring.filter (λk=>k != s.id)) v.ptr))).trans ((if_neg (by simp)).trans h.conn);have th:=s2.thaw c2 13;have f13':w2.cell? ⟨g,13,none⟩=some v.vR:=s2.cell c2 13;have s3:=s2.setObj c2 13 v2;have h3:=h.setRing (d.ring.filter (λk=>k != s.id)) v2 HM.out;clear ho2 hg2 s1 s2 f13 kd kw;rw[hv2]
  go_wp2
  go_end0
  rw[<-hv2];exact⟨rfl,_,{ v with vR:=v2 },s3,h3,((zai.refl nm own).upd _ _).upd _ _,rfl,λ_=>rfl,λ_ hn=>⟨rfl,hn⟩⟩
theorem zcc(g:Nat)(s:DS)(v:DSV)(x:Nat):(zba g s v).setIfInBounds 2 (.int .i64 (x:Int))=zba g { s with state:=x } v:=rfl
theorem zke(d:Ds)(v:DV)(x:Int):(zbc d v).setIfInBounds 3 (.int .i64 x)=zbc { d with mCount:=x } v:=rfl
theorem zkf(d:Ds)(v:DV)(x:Int):(zbc d v).setIfInBounds 8 (.int .i64 x)=zbc { d with tCount:=x } v:=rfl
theorem zzbbl(d:Ds)(n:Nat)(s:DS)(m:Bool)(k:Nat):(d.setS n { s with kept:=false }).held m k=if k=n then none else d.held m k:=by
 unfold Ds.held;rw[zaj];by_cases e:k=n
 ·rw[if_pos e,if_pos e];rfl
 ·rw[if_neg e,if_neg e]
theorem zlz(d:Ds)(n:Nat)(s:DS)(m:Bool)(ptr:Nat->Nat):(d.setS n { s with kept:=false }).mapF m ptr=λx=>if x=(n:Int) then none else d.mapF m ptr x:=by
 funext x
 unfold Ds.mapF;rw[zzbbl d n s];by_cases h0:0<=x
 ·rw[if_pos h0,if_pos h0];by_cases e:x=(n:Int)
  ·rw[if_pos e,if_pos (by omega)];rfl
  ·rw[if_neg e,if_neg (by omega)]
 ·rw[if_neg h0,if_neg h0];split<;>rfl
theorem zjs(d:Ds){n:Nat}{s:DS}(hn:d.str n=some s)(m:Bool)(hm:s.mine≠m)(ptr:Nat->Nat):(d.setS n { s with kept:=false }).mapF m ptr=d.mapF m ptr:=by
 rw[zlz d n s];funext x
 by_cases e:x=(n:Int)
 ·rw[if_pos e];subst e;unfold Ds.mapF Ds.held;rw[if_pos (by omega),Int.toNat_natCast,hn];dsimp only;rw[if_neg (by simp[hm])];rfl
 ·rw[if_neg e]
theorem zaa.unkeep_m(h:zaa own nm g d v){n:Nat}{s:DS}(hn:d.str n=some s)(hm:s.mine=true)(es':Array MapEntry)(F:zds (λx=>if x=(n:Int) then none else d.mapF true v.ptr x) es') :
  zaa (upd own (nm .mm) (.obj v.gm (.map es' v.ckM))) nm g (d.setS n { s with kept:=false }) { v with esM:=es' }:=by
 refine⟨h.inj,λx => ?_,h.frl,?_,?_,h.wf.setS n _ (h.wf.ids n s hn),?_,?_⟩
 ·rw[zad h.inj,h.res];cases x with
  | mm=>rw[if_pos rfl];rfl
  | st k =>
   rw[if_neg (by simp)];by_cases e:k=n
   ·subst e;simp only[zao,zaj,if_true,hn];rfl
   ·simp only[zao,zaj,if_neg e]
  | hdr k =>
   rw[if_neg (by simp)];by_cases e:k=n
   ·subst e;simp only[zao,zaj,if_true,hn]
   ·simp only[zao,zaj,if_neg e]
  | block k =>
   rw[if_neg (by simp)];by_cases e:k=n
   ·subst e;simp only[zao,zaj,if_true,hn]
   ·simp only[zao,zaj,if_neg e]
  | data k =>
   rw[if_neg (by simp)];by_cases e:k=n
   ·subst e;simp only[zao,zaj,if_true,hn]
   ·simp only[zao,zaj,if_neg e]
  | unread k =>
   rw[if_neg (by simp)];by_cases e:k=n
   ·subst e;simp only[zao,zaj,if_true,hn]
   ·simp only[zao,zaj,if_neg e]
  | _=>rw[if_neg (by simp)];rfl
 ·rw[zlz d n s];exact F
 ·rw[zjs d hn false (by rw[hm];simp)];exact h.mapT
 ·intro k t hk1 hk2;rw[zaj] at hk1;by_cases e:k=n
  ·rw[if_pos e] at hk1;cases hk1;rw[e];exact h.nilB n s hn hk2
  ·rw[if_neg e] at hk1;exact h.nilB k t hk1 hk2
 ·intro k t hk1 hk2;rw[zaj] at hk1;by_cases e:k=n
  ·rw[if_pos e] at hk1;cases hk1;rw[e];exact h.nilH n s hn hk2
  ·rw[if_neg e] at hk1;exact h.nilH k t hk1 hk2
theorem zaa.unkeep_t(h:zaa own nm g d v){n:Nat}{s:DS}(hn:d.str n=some s)(hm:s.mine=false)(es':Array MapEntry)(F:zds (λx=>if x=(n:Int) then none else d.mapF false v.ptr x) es') :
  zaa (upd own (nm .mt) (.obj v.gt (.map es' v.ckT))) nm g (d.setS n { s with kept:=false }) { v with esT:=es' }:=by
 refine⟨h.inj,λx => ?_,h.frl,?_,?_,h.wf.setS n _ (h.wf.ids n s hn),?_,?_⟩
 ·rw[zad h.inj,h.res];cases x with
  | mt=>rw[if_pos rfl];rfl
  | st k =>
   rw[if_neg (by simp)];by_cases e:k=n
   ·subst e;simp only[zao,zaj,if_true,hn];rfl
   ·simp only[zao,zaj,if_neg e]
  | hdr k =>
   rw[if_neg (by simp)];by_cases e:k=n
   ·subst e;simp only[zao,zaj,if_true,hn]
   ·simp only[zao,zaj,if_neg e]
  | block k =>
   rw[if_neg (by simp)];by_cases e:k=n
   ·subst e;simp only[zao,zaj,if_true,hn]
   ·simp only[zao,zaj,if_neg e]
  | data k =>
   rw[if_neg (by simp)];by_cases e:k=n
   ·subst e;simp only[zao,zaj,if_true,hn]
   ·simp only[zao,zaj,if_neg e]
  | unread k =>
   rw[if_neg (by simp)];by_cases e:k=n
   ·subst e;simp only[zao,zaj,if_true,hn]
   ·simp only[zao,zaj,if_neg e]
  | _=>rw[if_neg (by simp)];rfl
 ·rw[zjs d hn true (by rw[hm];simp)];exact h.mapM
 ·rw[zlz d n s];exact F
 ·intro k t hk1 hk2;rw[zaj] at hk1;by_cases e:k=n
  ·rw[if_pos e] at hk1;cases hk1;rw[e];exact h.nilB n s hn hk2
  ·rw[if_neg e] at hk1;exact h.nilB k t hk1 hk2
 ·intro k t hk1 hk2;rw[zaj] at hk1;by_cases e:k=n
  ·rw[if_pos e] at hk1;cases hk1;rw[e];exact h.nilH n s hn hk2
  ·rw[if_neg e] at hk1;exact h.nilH k t hk1 hk2
theorem zjh{s:DS}(hn:d.str s.id=some s)(hm:s.mine=true){x:Int}{to:Nat}{own1:N->Res}(S:Sep wb w own1)(H:zaa own1 nm g { d with mCount:=x } v)(e1:zai nm own own1)
  (hx:x=d.mCount+Ds.shift s to) (hd:(to == 8 && s.headers.isEmpty)=false):zaf nm g wb own d v (w.setCell ⟨v.ptr s.id,2,none⟩ (.int .i64 (to:Int))) (d.move s to):=by
 have S2:=S.setObj (H.st (n:=s.id) hn) 2 (.int .i64 (to:Int));rw[zcc] at S2;have H2:=H.scalS (n:=s.id) (s:=s) hn { s with state:=to } rfl rfl rfl rfl rfl rfl rfl;have e:d.move s to=Ds.setS { d with mCount:=x } s.id { s with state:=to }:=by
  unfold Ds.move Ds.bump Ds.moved;rw[hm,hx,hd];simp only[Bool.not_false,Bool.and_true,if_true]
  try rw[<-hm]
 rw[e];exact⟨_,v,S2,H2,e1.upd _ _,rfl,λ_=>rfl,λk hk=>⟨rfl,zbf d _ _ k hk⟩⟩
theorem zzbdh{s:DS}(hn:d.str s.id=some s)(hm:s.mine=true){x:Int}{to:Nat}{own1:N->Res}(S:Sep wb w own1)(H:zaa own1 nm g { d with mCount:=x } v)(e1:zai nm own own1)
  (hx:x=d.mCount+Ds.shift s to) (hd:(to == 8 && s.headers.isEmpty)=true) (hid:s.id<=65535):∃ es',(∀ ty,(Builtin.delete_ #[96,3] ty #[.map (some v.gm),.int .i64 (s.id:Int)]).run Tryz.prog (w.setCell ⟨v.ptr s.id,2,none⟩ (.int .i64 (to:Int))).drew = .ok (.tuple #[]) (zcx (w.setCell ⟨v.ptr s.id,2,none⟩ (.int .i64 (to:Int))).drew v.gm (.map es' v.ckM))) /\
   zaf nm g wb own d v (zcx (w.setCell ⟨v.ptr s.id,2,none⟩ (.int .i64 (to:Int))).drew v.gm (.map es' v.ckM)) (d.move s to):=by
 have S2:=S.setObj (H.st (n:=s.id) hn) 2 (.int .i64 (to:Int));rw[zcc] at S2;have H2:=H.scalS (n:=s.id) (s:=s) hn { s with state:=to } rfl rfl rfl rfl rfl rfl rfl;have S3:=S2.ext (Ext.refl _).drew;obtain⟨es',hr,hF⟩:=zmj (P:=Tryz.prog) (ty:=0) Tryz.underlying96 Tryz.underlying3 (S3.get (H2.res .mm)) H2.mapM (a:=(s.id:Int)) (zmk _ (by omega) (by omega));have S4:=S3.setMap (H2.res .mm) (.map es' v.ckM);have H4:=H2.unkeep_m (n:=s.id) (s:={ s with state:=to }) (by rw[zaj,if_pos rfl]) hm es' hF;have e:d.move s to=Ds.setS (Ds.setS { d with mCount:=x } s.id { s with state:=to }) s.id { { s with state:=to } with kept:=false }:=by
  unfold Ds.move Ds.bump Ds.moved;rw[hm,hx,hd];simp only[Bool.not_true,Bool.and_false,if_true];unfold Ds.setS;dsimp only;congr 1;funext k
  by_cases ek:k=s.id
  ·rw[if_pos ek,if_pos ek]
  ·rw[if_neg ek,if_neg ek,if_neg ek]
 refine⟨es',λty=>hr,?_⟩;rw[e];exact⟨_,{ v with esM:=es' },S4,H4,(e1.upd _ _).upd _ _,rfl,λ_=>rfl,λk hk=>⟨rfl,zbf _ _ _ k (zbf d _ _ k hk)⟩⟩
theorem zji{s:DS}(hn:d.str s.id=some s)(hm:s.mine=false){x:Int}{to:Nat}{own1:N->Res}(S:Sep wb w own1)(H:zaa own1 nm g { d with tCount:=x } v)(e1:zai nm own own1)
  (hx:x=d.tCount+Ds.shift s to) (hd:(to == 8 && s.headers.isEmpty)=false):zaf nm g wb own d v (w.setCell ⟨v.ptr s.id,2,none⟩ (.int .i64 (to:Int))) (d.move s to):=by
 have S2:=S.setObj (H.st (n:=s.id) hn) 2 (.int .i64 (to:Int));rw[zcc] at S2;have H2:=H.scalS (n:=s.id) (s:=s) hn { s with state:=to } rfl rfl rfl rfl rfl rfl rfl;have e:d.move s to=Ds.setS { d with tCount:=x } s.id { s with state:=to }:=by
  unfold Ds.move Ds.bump Ds.moved;rw[hm,hx,hd];simp only[Bool.not_false,Bool.and_true,Bool.false_eq_true,if_false]
  try rw[<-hm]
 rw[e];exact⟨_,v,S2,H2,e1.upd _ _,rfl,λ_=>rfl,λk hk=>⟨rfl,zbf d _ _ k hk⟩⟩
theorem zzbdi{s:DS}(hn:d.str s.id=some s)(hm:s.mine=false){x:Int}{to:Nat}{own1:N->Res}(S:Sep wb w own1)(H:zaa own1 nm g { d with tCount:=x } v)(e1:zai nm own own1)
  (hx:x=d.tCount+Ds.shift s to) (hd:(to == 8 && s.headers.isEmpty)=true) (hid:s.id<=65535):∃ es',(∀ ty,(Builtin.delete_ #[96,3] ty #[.map (some v.gt),.int .i64 (s.id:Int)]).run Tryz.prog (w.setCell ⟨v.ptr s.id,2,none⟩ (.int .i64 (to:Int))).drew = .ok (.tuple #[]) (zcx (w.setCell ⟨v.ptr s.id,2,none⟩ (.int .i64 (to:Int))).drew v.gt (.map es' v.ckT))) /\
   zaf nm g wb own d v (zcx (w.setCell ⟨v.ptr s.id,2,none⟩ (.int .i64 (to:Int))).drew v.gt (.map es' v.ckT)) (d.move s to):=by
 have S2:=S.setObj (H.st (n:=s.id) hn) 2 (.int .i64 (to:Int));rw[zcc] at S2;have H2:=H.scalS (n:=s.id) (s:=s) hn { s with state:=to } rfl rfl rfl rfl rfl rfl rfl;have S3:=S2.ext (Ext.refl _).drew;obtain⟨es',hr,hF⟩:=zmj (P:=Tryz.prog) (ty:=0) Tryz.underlying96 Tryz.underlying3 (S3.get (H2.res .mt)) H2.mapT (a:=(s.id:Int)) (zmk _ (by omega) (by omega));have S4:=S3.setMap (H2.res .mt) (.map es' v.ckT);have H4:=H2.unkeep_t (n:=s.id) (s:={ s with state:=to }) (by rw[zaj,if_pos rfl]) hm es' hF;have e:d.move s to=Ds.setS (Ds.setS { d with tCount:=x } s.id { s with state:=to }) s.id { { s with state:=to } with kept:=false }:=by
  unfold Ds.move Ds.bump Ds.moved;rw[hm,hx,hd];simp only[Bool.not_true,Bool.and_false,Bool.false_eq_true,if_false];unfold Ds.setS;dsimp only;congr 1;funext k
  by_cases ek:k=s.id
  ·rw[if_pos ek,if_pos ek]
  ·rw[if_neg ek,if_neg ek,if_neg ek]
 refine⟨es',λty=>hr,?_⟩;rw[e];exact⟨_,{ v with esT:=es' },S4,H4,(e1.upd _ _).upd _ _,rfl,λ_=>rfl,λk hk=>⟨rfl,zbf _ _ _ k (zbf d _ _ k hk)⟩⟩
end
theorem zfv{P:Program}{t e:TypeId}(h:P.underlying t=some (.slice e))(a:Option Addr)(n k:Nat)(W:World):(binOp .eql t (.slice a n k) (.slice none 0 0)).run P W = .ok (.bool a.isNone) W:=by
 have:∀ m,(Op.equalIn (m+1) t (.slice a n k) (.slice none 0 0)).run P W = .ok a.isNone W:=λm=>by
  cases a<;>simp[Op.equalIn,run_underlying h]
 simp only[binOp];simp[Op.equal,Op.maxDepth,this 9999]
theorem zdt(d:Ds)(n:Nat)(s:DS):(d.setS n s).str n=some s:=by rw[zaj,if_pos rfl]
section
variable {N:Type} {own:N->Res} {nm:DN->N} {g:Nat} {d:Ds} {v:DV} {wb w:World}
set_option maxHeartbeats 6400000 in
theorem zzbji(h:zaa own nm g d v)(hs:Sep wb w own)(hf:d.Fits 1){s:DS}(hn:d.str s.id=some s)(hm:s.mine=true)(to:Nat)(hto:to<=8) :
  Calls Tryz.prog 129 #[.pointer (some ⟨v.ptr s.id,0,none⟩),.int .i64 (to:Int)] w λe w'=>e = .returned (.tuple #[])/\zaf nm g wb own d v w' (d.move s to):=by
 have q0:=hf.mCount0;have q1:=hf.mCount1;have fs:=hf.st _ _ hn;have kc:=zby s.state fs.state w;have f1:=h.s1 hs hn;rw[hm] at f1;simp only[if_true] at f1;have f2:=h.s2 hs hn;have f5:=h.s5 hs hn;have fc:=h.c3 hs;have tc:=h.thaw hs 3;have t2:=h.sthaw hs hn 2;have hid:=fs.id;have heq:=zfv Tryz.underlying43;obtain⟨aH,kH,hH,-,-⟩:=(hs.get (h.hdr hn)).slice;have hnilH:=h.nilH s.id s hn;cases hc:zav s.state with
 | true =>
  cases ht:zav to with
  | true =>
   obtain⟨W1,hW1⟩:∃ W,World.setCell w ⟨g,3,none⟩ (.int .i64 (d.mCount-1))=W:=⟨_,rfl⟩;have SW1:=hs.setObj h.conn 3 (.int .i64 (d.mCount-1));rw[zke,hW1] at SW1;have HW1:=zaa.scal (d':={ d with mCount:=d.mCount-1 }) h rfl rfl rfl rfl rfl;have f1W1:World.cell? W1 ⟨v.ptr s.id,1,none⟩=some (.pointer (some ⟨g,0,none⟩)):=by rw[HW1.s1 SW1 hn,hm];rfl
   have fcW1:=HW1.c3 SW1;have f5W1:=HW1.s5 SW1 hn;have tcW1:=HW1.thaw SW1 3;have t2W1:=HW1.sthaw SW1 hn 2;have f2W1:=HW1.s2 SW1 hn;obtain⟨W2,hW2⟩:∃ W,World.setCell W1 ⟨g,3,none⟩ (.int .i64 (d.mCount))=W:=⟨_,rfl⟩;have SW2:=SW1.setObj HW1.conn 3 (.int .i64 (d.mCount));rw[zke,hW2] at SW2;have HW2:=zaa.scal (d':={ d with mCount:=d.mCount }) HW1 rfl rfl rfl rfl rfl;have f1W2:World.cell? W2 ⟨v.ptr s.id,1,none⟩=some (.pointer (some ⟨g,0,none⟩)):=by rw[HW2.s1 SW2 hn,hm];rfl
   have fcW2:=HW2.c3 SW2;have f5W2:=HW2.s5 SW2 hn;have tcW2:=HW2.thaw SW2 3;have t2W2:=HW2.sthaw SW2 hn 2;have f2W2:=HW2.s2 SW2 hn;have kt:=zby to hto W1;rw[ht] at kt;rw[hc] at kc;have h8:¬ to=8:=λe=>by rw[e] at ht;simp[zav] at ht
   have h8b:((to:Int) == 8)=false:=by simp;omega
   have hd:(to == 8 && s.headers.isEmpty)=false:=by simp[h8]
   have L:=hide (zjh hn hm SW2 HW2 (((zai.refl nm own).upd _ _).upd _ _) (x:=d.mCount) (to:=to) (by simp only[Ds.shift,hc,ht,if_true];omega) hd);clear hd;clear hc ht h8 hnilH
   go_enter Tryz.func129,Tryz.ntmps129
   go_wp2_with fail
   refine kc.mono ?_;rintro e w1 ⟨rfl,hw⟩;replace hw:=hw.symm;subst hw
   go_wp2_with fail
   refine(kt).mono ?_;rintro e w1 ⟨rfl,hw⟩;replace hw:=hw.symm;subst hw
   go_wp2
   go_end0
   exact⟨rfl,L.out⟩
  | false =>
   obtain⟨W1,hW1⟩:∃ W,World.setCell w ⟨g,3,none⟩ (.int .i64 (d.mCount-1))=W:=⟨_,rfl⟩;have SW1:=hs.setObj h.conn 3 (.int .i64 (d.mCount-1));rw[zke,hW1] at SW1;have HW1:=zaa.scal (d':={ d with mCount:=d.mCount-1 }) h rfl rfl rfl rfl rfl;have f1W1:World.cell? W1 ⟨v.ptr s.id,1,none⟩=some (.pointer (some ⟨g,0,none⟩)):=by rw[HW1.s1 SW1 hn,hm];rfl
   have fcW1:=HW1.c3 SW1;have f5W1:=HW1.s5 SW1 hn;have tcW1:=HW1.thaw SW1 3;have t2W1:=HW1.sthaw SW1 hn 2;have f2W1:=HW1.s2 SW1 hn;have kt:=zby to hto W1;rw[ht] at kt;rw[hc] at kc;by_cases h8:to=8
   ·by_cases hh:s.headers=[]
    ·have hd:(to == 8 && s.headers.isEmpty)=true:=by simp[h8,hh]
     have hV:=hnilH hh;obtain⟨es',hr,hL⟩:=zzbdh hn hm SW1 HW1 ((zai.refl nm own).upd _ _) (x:=d.mCount-1) (to:=to) (by simp only[Ds.shift,hc,ht,if_true,Bool.false_eq_true,if_false];omega) hd hid;obtain⟨W3,hW3⟩:∃ W3,World.setCell W1 ⟨v.ptr s.id,2,none⟩ (.int .i64 (to:Int))=W3:=⟨_,rfl⟩;have S3:=SW1.setObj (HW1.st hn) 2 (.int .i64 (to:Int));rw[zcc,hW3] at S3;have H3:=HW1.scalS (n:=s.id) (s:=s) hn { s with state:=to } rfl rfl rfl rfl rfl rfl rfl;rw[hW3] at hr hL;have hn3:=zdt ({ d with mCount:=d.mCount-1 }:Ds) s.id { s with state:=to };have g1:=H3.s1 S3 hn3;dsimp only at g1;rw[hm] at g1;simp only[if_true] at g1;have g0:=H3.s0 S3 hn3;have g5:=H3.s5 S3 hn3;rw[hV] at g5;have gm:W3.cell? ⟨g,4,none⟩=some (.map (some v.gm)):=H3.c4 S3;have HL:=hide hL;have h8b:((to:Int) == 8)=true:=by simp;omega
     clear hL hd hh hc ht h8 hnilH
     go_enter Tryz.func129,Tryz.ntmps129
     go_wp2_with fail
     refine kc.mono ?_;rintro e w1 ⟨rfl,hw⟩;replace hw:=hw.symm;subst hw
     go_wp2_with fail
     refine(kt).mono ?_;rintro e w1 ⟨rfl,hw⟩;replace hw:=hw.symm;subst hw
     go_wp2
     go_region
     all_goals
      go_wp2
      go_end0
      exact⟨rfl,HL.out⟩
    ·have hd:(to == 8 && s.headers.isEmpty)=false:=by simp[hh]
     have hpos:0<s.headers.length:=List.length_pos_iff.2 hh;obtain⟨a5,o5,k5,e5,-⟩:=zgp (hs.get (h.hdr hn)) hpos;have h8b:((to:Int) == 8)=true:=by simp;omega
     have L:=hide (zjh hn hm SW1 HW1 ((zai.refl nm own).upd _ _) (x:=d.mCount-1) (to:=to) (by simp only[Ds.shift,hc,ht,if_true,Bool.false_eq_true,if_false];omega) hd);clear hd;obtain⟨W3,hW3⟩:∃ W3,World.setCell W1 ⟨v.ptr s.id,2,none⟩ (.int .i64 (to:Int))=W3:=⟨_,rfl⟩;have S3:=SW1.setObj (HW1.st hn) 2 (.int .i64 (to:Int));rw[zcc,hW3] at S3;have H3:=HW1.scalS (n:=s.id) (s:=s) hn { s with state:=to } rfl rfl rfl rfl rfl rfl rfl;have hn3:=zdt ({ d with mCount:=d.mCount-1 }:Ds) s.id { s with state:=to };have g5:=H3.s5 S3 hn3;rw[e5] at g5;rw[hW3] at L;clear hh hc ht h8 hnilH
     go_enter Tryz.func129,Tryz.ntmps129
     go_wp2_with fail
     refine kc.mono ?_;rintro e w1 ⟨rfl,hw⟩;replace hw:=hw.symm;subst hw
     go_wp2_with fail
     refine(kt).mono ?_;rintro e w1 ⟨rfl,hw⟩;replace hw:=hw.symm;subst hw
     go_wp2
     go_end0
     exact⟨rfl,L.out⟩
   ·have h8b:((to:Int) == 8)=false:=by simp;omega
    have hd:(to == 8 && s.headers.isEmpty)=false:=by simp[h8]
    have L:=hide (zjh hn hm SW1 HW1 ((zai.refl nm own).upd _ _) (x:=d.mCount-1) (to:=to) (by simp only[Ds.shift,hc,ht,if_true,Bool.false_eq_true,if_false];omega) hd);clear hd;clear hc ht h8 hnilH
    go_enter Tryz.func129,Tryz.ntmps129
    go_wp2_with fail
    refine kc.mono ?_;rintro e w1 ⟨rfl,hw⟩;replace hw:=hw.symm;subst hw
    go_wp2_with fail
    refine(kt).mono ?_;rintro e w1 ⟨rfl,hw⟩;replace hw:=hw.symm;subst hw
    go_wp2
    go_end0
    exact⟨rfl,L.out⟩
 | false =>
  cases ht:zav to with
  | true =>
   obtain⟨W2,hW2⟩:∃ W,World.setCell w ⟨g,3,none⟩ (.int .i64 (d.mCount+1))=W:=⟨_,rfl⟩;have SW2:=hs.setObj h.conn 3 (.int .i64 (d.mCount+1));rw[zke,hW2] at SW2;have HW2:=zaa.scal (d':={ d with mCount:=d.mCount+1 }) h rfl rfl rfl rfl rfl;have f1W2:World.cell? W2 ⟨v.ptr s.id,1,none⟩=some (.pointer (some ⟨g,0,none⟩)):=by rw[HW2.s1 SW2 hn,hm];rfl
   have fcW2:=HW2.c3 SW2;have f5W2:=HW2.s5 SW2 hn;have tcW2:=HW2.thaw SW2 3;have t2W2:=HW2.sthaw SW2 hn 2;have f2W2:=HW2.s2 SW2 hn;have kt:=zby to hto w;rw[ht] at kt;rw[hc] at kc;have h8:¬ to=8:=λe=>by rw[e] at ht;simp[zav] at ht
   have h8b:((to:Int) == 8)=false:=by simp;omega
   have hd:(to == 8 && s.headers.isEmpty)=false:=by simp[h8]
   have L:=hide (zjh hn hm SW2 HW2 ((zai.refl nm own).upd _ _) (x:=d.mCount+1) (to:=to) (by simp only[Ds.shift,hc,ht,if_true,Bool.false_eq_true,if_false];omega) hd);clear hd;clear hc ht h8 hnilH
   go_enter Tryz.func129,Tryz.ntmps129
   go_wp2_with fail
   refine kc.mono ?_;rintro e w1 ⟨rfl,hw⟩;replace hw:=hw.symm;subst hw
   go_wp2_with fail
   refine(kt).mono ?_;rintro e w1 ⟨rfl,hw⟩;replace hw:=hw.symm;subst hw
   go_wp2
   go_end0
   exact⟨rfl,L.out⟩
  | false =>
   have kt:=zby to hto w;rw[ht] at kt;rw[hc] at kc;by_cases h8:to=8
   ·by_cases hh:s.headers=[]
    ·have hd:(to == 8 && s.headers.isEmpty)=true:=by simp[h8,hh]
     have hV:=hnilH hh;obtain⟨es',hr,hL⟩:=zzbdh hn hm hs (by exact h) (zai.refl nm own) (x:=d.mCount) (to:=to) (by simp only[Ds.shift,hc,ht,Bool.false_eq_true,if_false];omega) hd hid;obtain⟨W3,hW3⟩:∃ W3,World.setCell w ⟨v.ptr s.id,2,none⟩ (.int .i64 (to:Int))=W3:=⟨_,rfl⟩;have S3:=hs.setObj (h.st hn) 2 (.int .i64 (to:Int));rw[zcc,hW3] at S3;have H3:=h.scalS (n:=s.id) (s:=s) hn { s with state:=to } rfl rfl rfl rfl rfl rfl rfl;rw[hW3] at hr hL;have hn3:=zdt d s.id { s with state:=to };have g1:=H3.s1 S3 hn3;dsimp only at g1;rw[hm] at g1;simp only[if_true] at g1;have g0:=H3.s0 S3 hn3;have g5:=H3.s5 S3 hn3;rw[hV] at g5;have gm:W3.cell? ⟨g,4,none⟩=some (.map (some v.gm)):=H3.c4 S3;have HL:=hide hL;have h8b:((to:Int) == 8)=true:=by simp;omega
     clear hL hd hh hc ht h8 hnilH
     go_enter Tryz.func129,Tryz.ntmps129
     go_wp2_with fail
     refine kc.mono ?_;rintro e w1 ⟨rfl,hw⟩;replace hw:=hw.symm;subst hw
     go_wp2_with fail
     refine(kt).mono ?_;rintro e w1 ⟨rfl,hw⟩;replace hw:=hw.symm;subst hw
     go_wp2
     go_region
     all_goals
      go_wp2
      go_end0
      exact⟨rfl,HL.out⟩
    ·have hd:(to == 8 && s.headers.isEmpty)=false:=by simp[hh]
     have hpos:0<s.headers.length:=List.length_pos_iff.2 hh;obtain⟨a5,o5,k5,e5,-⟩:=zgp (hs.get (h.hdr hn)) hpos;have h8b:((to:Int) == 8)=true:=by simp;omega
     have L:=hide (zjh hn hm hs (by exact h) (zai.refl nm own) (x:=d.mCount) (to:=to) (by simp only[Ds.shift,hc,ht,Bool.false_eq_true,if_false];omega) hd);clear hd;obtain⟨W3,hW3⟩:∃ W3,World.setCell w ⟨v.ptr s.id,2,none⟩ (.int .i64 (to:Int))=W3:=⟨_,rfl⟩;have S3:=hs.setObj (h.st hn) 2 (.int .i64 (to:Int));rw[zcc,hW3] at S3;have H3:=h.scalS (n:=s.id) (s:=s) hn { s with state:=to } rfl rfl rfl rfl rfl rfl rfl;have hn3:=zdt d s.id { s with state:=to };have g5:=H3.s5 S3 hn3;rw[e5] at g5;rw[hW3] at L;clear hh hc ht h8 hnilH
     go_enter Tryz.func129,Tryz.ntmps129
     go_wp2_with fail
     refine kc.mono ?_;rintro e w1 ⟨rfl,hw⟩;replace hw:=hw.symm;subst hw
     go_wp2_with fail
     refine(kt).mono ?_;rintro e w1 ⟨rfl,hw⟩;replace hw:=hw.symm;subst hw
     go_wp2
     go_end0
     exact⟨rfl,L.out⟩
   ·have h8b:((to:Int) == 8)=false:=by simp;omega
    have hd:(to == 8 && s.headers.isEmpty)=false:=by simp[h8]
    have L:=hide (zjh hn hm hs (by exact h) (zai.refl nm own) (x:=d.mCount) (to:=to) (by simp only[Ds.shift,hc,ht,Bool.false_eq_true,if_false];omega) hd);clear hd;clear hc ht h8 hnilH
    go_enter Tryz.func129,Tryz.ntmps129
    go_wp2_with fail
    refine kc.mono ?_;rintro e w1 ⟨rfl,hw⟩;replace hw:=hw.symm;subst hw
    go_wp2_with fail
    refine(kt).mono ?_;rintro e w1 ⟨rfl,hw⟩;replace hw:=hw.symm;subst hw
    go_wp2
    go_end0
    exact⟨rfl,L.out⟩
set_option maxHeartbeats 6400000 in
theorem zzbjj(h:zaa own nm g d v)(hs:Sep wb w own)(hf:d.Fits 1){s:DS}(hn:d.str s.id=some s)(hm:s.mine=false)(to:Nat)(hto:to<=8) :
  Calls Tryz.prog 129 #[.pointer (some ⟨v.ptr s.id,0,none⟩),.int .i64 (to:Int)] w λe w'=>e = .returned (.tuple #[])/\zaf nm g wb own d v w' (d.move s to):=by
 have q0:=hf.tCount0;have q1:=hf.tCount1;have fs:=hf.st _ _ hn;have kc:=zby s.state fs.state w;have f1:=h.s1 hs hn;rw[hm] at f1;simp only[Bool.false_eq_true,if_false] at f1;have f2:=h.s2 hs hn;have f5:=h.s5 hs hn;have fc:=h.c8 hs;have tc:=h.thaw hs 8;have t2:=h.sthaw hs hn 2;have hid:=fs.id;have heq:=zfv Tryz.underlying43;obtain⟨aH,kH,hH,-,-⟩:=(hs.get (h.hdr hn)).slice;have hnilH:=h.nilH s.id s hn;cases hc:zav s.state with
 | true =>
  cases ht:zav to with
  | true =>
   obtain⟨W1,hW1⟩:∃ W,World.setCell w ⟨g,8,none⟩ (.int .i64 (d.tCount-1))=W:=⟨_,rfl⟩;have SW1:=hs.setObj h.conn 8 (.int .i64 (d.tCount-1));rw[zkf,hW1] at SW1;have HW1:=zaa.scal (d':={ d with tCount:=d.tCount-1 }) h rfl rfl rfl rfl rfl;have f1W1:World.cell? W1 ⟨v.ptr s.id,1,none⟩=some (.pointer (some ⟨g,5,none⟩)):=by rw[HW1.s1 SW1 hn,hm];rfl
   have fcW1:=HW1.c8 SW1;have f5W1:=HW1.s5 SW1 hn;have tcW1:=HW1.thaw SW1 8;have t2W1:=HW1.sthaw SW1 hn 2;have f2W1:=HW1.s2 SW1 hn;obtain⟨W2,hW2⟩:∃ W,World.setCell W1 ⟨g,8,none⟩ (.int .i64 (d.tCount))=W:=⟨_,rfl⟩;have SW2:=SW1.setObj HW1.conn 8 (.int .i64 (d.tCount));rw[zkf,hW2] at SW2;have HW2:=zaa.scal (d':={ d with tCount:=d.tCount }) HW1 rfl rfl rfl rfl rfl;have f1W2:World.cell? W2 ⟨v.ptr s.id,1,none⟩=some (.pointer (some ⟨g,5,none⟩)):=by rw[HW2.s1 SW2 hn,hm];rfl
   have fcW2:=HW2.c8 SW2;have f5W2:=HW2.s5 SW2 hn;have tcW2:=HW2.thaw SW2 8;have t2W2:=HW2.sthaw SW2 hn 2;have f2W2:=HW2.s2 SW2 hn;have kt:=zby to hto W1;rw[ht] at kt;rw[hc] at kc;have h8:¬ to=8:=λe=>by rw[e] at ht;simp[zav] at ht
   have h8b:((to:Int) == 8)=false:=by simp;omega
   have hd:(to == 8 && s.headers.isEmpty)=false:=by simp[h8]
   have L:=hide (zji hn hm SW2 HW2 (((zai.refl nm own).upd _ _).upd _ _) (x:=d.tCount) (to:=to) (by simp only[Ds.shift,hc,ht,if_true];omega) hd);clear hd;clear hc ht h8 hnilH
   go_enter Tryz.func129,Tryz.ntmps129
   go_wp2_with fail
   refine kc.mono ?_;rintro e w1 ⟨rfl,hw⟩;replace hw:=hw.symm;subst hw
   go_wp2_with fail
   refine(kt).mono ?_;rintro e w1 ⟨rfl,hw⟩;replace hw:=hw.symm;subst hw
   go_wp2
   go_end0
   exact⟨rfl,L.out⟩
  | false =>
   obtain⟨W1,hW1⟩:∃ W,World.setCell w ⟨g,8,none⟩ (.int .i64 (d.tCount-1))=W:=⟨_,rfl⟩;have SW1:=hs.setObj h.conn 8 (.int .i64 (d.tCount-1));rw[zkf,hW1] at SW1;have HW1:=zaa.scal (d':={ d with tCount:=d.tCount-1 }) h rfl rfl rfl rfl rfl;have f1W1:World.cell? W1 ⟨v.ptr s.id,1,none⟩=some (.pointer (some ⟨g,5,none⟩)):=by rw[HW1.s1 SW1 hn,hm];rfl
   have fcW1:=HW1.c8 SW1;have f5W1:=HW1.s5 SW1 hn;have tcW1:=HW1.thaw SW1 8;have t2W1:=HW1.sthaw SW1 hn 2;have f2W1:=HW1.s2 SW1 hn;have kt:=zby to hto W1;rw[ht] at kt;rw[hc] at kc;by_cases h8:to=8
   ·by_cases hh:s.headers=[]
    ·have hd:(to == 8 && s.headers.isEmpty)=true:=by simp[h8,hh]
     have hV:=hnilH hh;obtain⟨es',hr,hL⟩:=zzbdi hn hm SW1 HW1 ((zai.refl nm own).upd _ _) (x:=d.tCount-1) (to:=to) (by simp only[Ds.shift,hc,ht,if_true,Bool.false_eq_true,if_false];omega) hd hid;obtain⟨W3,hW3⟩:∃ W3,World.setCell W1 ⟨v.ptr s.id,2,none⟩ (.int .i64 (to:Int))=W3:=⟨_,rfl⟩;have S3:=SW1.setObj (HW1.st hn) 2 (.int .i64 (to:Int));rw[zcc,hW3] at S3;have H3:=HW1.scalS (n:=s.id) (s:=s) hn { s with state:=to } rfl rfl rfl rfl rfl rfl rfl;rw[hW3] at hr hL;have hn3:=zdt ({ d with tCount:=d.tCount-1 }:Ds) s.id { s with state:=to };have g1:=H3.s1 S3 hn3;dsimp only at g1;rw[hm] at g1;simp only[Bool.false_eq_true,if_false] at g1;have g0:=H3.s0 S3 hn3;have g5:=H3.s5 S3 hn3;rw[hV] at g5;have gm:W3.cell? ⟨g,9,none⟩=some (.map (some v.gt)):=H3.c9 S3;have HL:=hide hL;have h8b:((to:Int) == 8)=true:=by simp;omega
     clear hL hd hh hc ht h8 hnilH
     go_enter Tryz.func129,Tryz.ntmps129
     go_wp2_with fail
     refine kc.mono ?_;rintro e w1 ⟨rfl,hw⟩;replace hw:=hw.symm;subst hw
     go_wp2_with fail
     refine(kt).mono ?_;rintro e w1 ⟨rfl,hw⟩;replace hw:=hw.symm;subst hw
     go_wp2
     go_region
     all_goals
      go_wp2
      go_end0
      exact⟨rfl,HL.out⟩
    ·have hd:(to == 8 && s.headers.isEmpty)=false:=by simp[hh]
     have hpos:0<s.headers.length:=List.length_pos_iff.2 hh;obtain⟨a5,o5,k5,e5,-⟩:=zgp (hs.get (h.hdr hn)) hpos;have h8b:((to:Int) == 8)=true:=by simp;omega
     have L:=hide (zji hn hm SW1 HW1 ((zai.refl nm own).upd _ _) (x:=d.tCount-1) (to:=to) (by simp only[Ds.shift,hc,ht,if_true,Bool.false_eq_true,if_false];omega) hd);clear hd;obtain⟨W3,hW3⟩:∃ W3,World.setCell W1 ⟨v.ptr s.id,2,none⟩ (.int .i64 (to:Int))=W3:=⟨_,rfl⟩;have S3:=SW1.setObj (HW1.st hn) 2 (.int .i64 (to:Int));rw[zcc,hW3] at S3;have H3:=HW1.scalS (n:=s.id) (s:=s) hn { s with state:=to } rfl rfl rfl rfl rfl rfl rfl;have hn3:=zdt ({ d with tCount:=d.tCount-1 }:Ds) s.id { s with state:=to };have g5:=H3.s5 S3 hn3;rw[e5] at g5;rw[hW3] at L;clear hh hc ht h8 hnilH
     go_enter Tryz.func129,Tryz.ntmps129
     go_wp2_with fail
     refine kc.mono ?_;rintro e w1 ⟨rfl,hw⟩;replace hw:=hw.symm;subst hw
     go_wp2_with fail
     refine(kt).mono ?_;rintro e w1 ⟨rfl,hw⟩;replace hw:=hw.symm;subst hw
     go_wp2
     go_end0
     exact⟨rfl,L.out⟩
   ·have h8b:((to:Int) == 8)=false:=by simp;omega
    have hd:(to == 8 && s.headers.isEmpty)=false:=by simp[h8]
    have L:=hide (zji hn hm SW1 HW1 ((zai.refl nm own).upd _ _) (x:=d.tCount-1) (to:=to) (by simp only[Ds.shift,hc,ht,if_true,Bool.false_eq_true,if_false];omega) hd);clear hd;clear hc ht h8 hnilH
    go_enter Tryz.func129,Tryz.ntmps129
    go_wp2_with fail
    refine kc.mono ?_;rintro e w1 ⟨rfl,hw⟩;replace hw:=hw.symm;subst hw
    go_wp2_with fail
    refine(kt).mono ?_;rintro e w1 ⟨rfl,hw⟩;replace hw:=hw.symm;subst hw
    go_wp2
    go_end0
    exact⟨rfl,L.out⟩
 | false =>
  cases ht:zav to with
  | true =>
   obtain⟨W2,hW2⟩:∃ W,World.setCell w ⟨g,8,none⟩ (.int .i64 (d.tCount+1))=W:=⟨_,rfl⟩;have SW2:=hs.setObj h.conn 8 (.int .i64 (d.tCount+1));rw[zkf,hW2] at SW2;have HW2:=zaa.scal (d':={ d with tCount:=d.tCount+1 }) h rfl rfl rfl rfl rfl;have f1W2:World.cell? W2 ⟨v.ptr s.id,1,none⟩=some (.pointer (some ⟨g,5,none⟩)):=by rw[HW2.s1 SW2 hn,hm];rfl
   have fcW2:=HW2.c8 SW2;have f5W2:=HW2.s5 SW2 hn;have tcW2:=HW2.thaw SW2 8;have t2W2:=HW2.sthaw SW2 hn 2;have f2W2:=HW2.s2 SW2 hn;have kt:=zby to hto w;rw[ht] at kt;rw[hc] at kc;have h8:¬ to=8:=λe=>by rw[e] at ht;simp[zav] at ht
   have h8b:((to:Int) == 8)=false:=by simp;omega
   have hd:(to == 8 && s.headers.isEmpty)=false:=by simp[h8]
   have L:=hide (zji hn hm SW2 HW2 ((zai.refl nm own).upd _ _) (x:=d.tCount+1) (to:=to) (by simp only[Ds.shift,hc,ht,if_true,Bool.false_eq_true,if_false];omega) hd);clear hd;clear hc ht h8 hnilH
   go_enter Tryz.func129,Tryz.ntmps129
   go_wp2_with fail
   refine kc.mono ?_;rintro e w1 ⟨rfl,hw⟩;replace hw:=hw.symm;subst hw
   go_wp2_with fail
   refine(kt).mono ?_;rintro e w1 ⟨rfl,hw⟩;replace hw:=hw.symm;subst hw
   go_wp2
   go_end0
   exact⟨rfl,L.out⟩
  | false =>
   have kt:=zby to hto w;rw[ht] at kt;rw[hc] at kc;by_cases h8:to=8
   ·by_cases hh:s.headers=[]
    ·have hd:(to == 8 && s.headers.isEmpty)=true:=by simp[h8,hh]
     have hV:=hnilH hh;obtain⟨es',hr,hL⟩:=zzbdi hn hm hs (by exact h) (zai.refl nm own) (x:=d.tCount) (to:=to) (by simp only[Ds.shift,hc,ht,Bool.false_eq_true,if_false];omega) hd hid;obtain⟨W3,hW3⟩:∃ W3,World.setCell w ⟨v.ptr s.id,2,none⟩ (.int .i64 (to:Int))=W3:=⟨_,rfl⟩;have S3:=hs.setObj (h.st hn) 2 (.int .i64 (to:Int));rw[zcc,hW3] at S3;have H3:=h.scalS (n:=s.id) (s:=s) hn { s with state:=to } rfl rfl rfl rfl rfl rfl rfl;rw[hW3] at hr hL;have hn3:=zdt d s.id { s with state:=to };have g1:=H3.s1 S3 hn3;dsimp only at g1;rw[hm] at g1;simp only[Bool.false_eq_true,if_false] at g1;have g0:=H3.s0 S3 hn3;have g5:=H3.s5 S3 hn3;rw[hV] at g5;have gm:W3.cell? ⟨g,9,none⟩=some (.map (some v.gt)):=H3.c9 S3;have HL:=hide hL;have h8b:((to:Int) == 8)=true:=by simp;omega
     clear hL hd hh hc ht h8 hnilH
     go_enter Tryz.func129,Tryz.ntmps129
     go_wp2_with fail
     refine kc.mono ?_;rintro e w1 ⟨rfl,hw⟩;replace hw:=hw.symm;subst hw
     go_wp2_with fail
     refine(kt).mono ?_;rintro e w1 ⟨rfl,hw⟩;replace hw:=hw.symm;subst hw
     go_wp2
     go_region
     all_goals
      go_wp2
      go_end0
      exact⟨rfl,HL.out⟩
    ·have hd:(to == 8 && s.headers.isEmpty)=false:=by simp[hh]
     have hpos:0<s.headers.length:=List.length_pos_iff.2 hh;obtain⟨a5,o5,k5,e5,-⟩:=zgp (hs.get (h.hdr hn)) hpos;have h8b:((to:Int) == 8)=true:=by simp;omega
     have L:=hide (zji hn hm hs (by exact h) (zai.refl nm own) (x:=d.tCount) (to:=to) (by simp only[Ds.shift,hc,ht,Bool.false_eq_true,if_false];omega) hd);clear hd;obtain⟨W3,hW3⟩:∃ W3,World.setCell w ⟨v.ptr s.id,2,none⟩ (.int .i64 (to:Int))=W3:=⟨_,rfl⟩;have S3:=hs.setObj (h.st hn) 2 (.int .i64 (to:Int));rw[zcc,hW3] at S3;have H3:=h.scalS (n:=s.id) (s:=s) hn { s with state:=to } rfl rfl rfl rfl rfl rfl rfl;have hn3:=zdt d s.id { s with state:=to };have g5:=H3.s5 S3 hn3;rw[e5] at g5;rw[hW3] at L;clear hh hc ht h8 hnilH
     go_enter Tryz.func129,Tryz.ntmps129
     go_wp2_with fail
     refine kc.mono ?_;rintro e w1 ⟨rfl,hw⟩;replace hw:=hw.symm;subst hw
     go_wp2_with fail
     refine(kt).mono ?_;rintro e w1 ⟨rfl,hw⟩;replace hw:=hw.symm;subst hw
     go_wp2
     go_end0
     exact⟨rfl,L.out⟩
   ·have h8b:((to:Int) == 8)=false:=by simp;omega
    have hd:(to == 8 && s.headers.isEmpty)=false:=by simp[h8]
    have L:=hide (zji hn hm hs (by exact h) (zai.refl nm own) (x:=d.tCount) (to:=to) (by simp only[Ds.shift,hc,ht,Bool.false_eq_true,if_false];omega) hd);clear hd;clear hc ht h8 hnilH
    go_enter Tryz.func129,Tryz.ntmps129
    go_wp2_with fail
    refine kc.mono ?_;rintro e w1 ⟨rfl,hw⟩;replace hw:=hw.symm;subst hw
    go_wp2_with fail
    refine(kt).mono ?_;rintro e w1 ⟨rfl,hw⟩;replace hw:=hw.symm;subst hw
    go_wp2
    go_end0
    exact⟨rfl,L.out⟩
theorem zcp(h:zaa own nm g d v)(hs:Sep wb w own)(hf:d.Fits 1){s:DS}(hn:d.str s.id=some s)(to:Nat)(hto:to<=8) :
  Calls Tryz.prog 129 #[.pointer (some ⟨v.ptr s.id,0,none⟩),.int .i64 (to:Int)] w λe w'=>e = .returned (.tuple #[])/\zaf nm g wb own d v w' (d.move s to):=by
 cases hm:s.mine with
 | true=>exact zzbji h hs hf hn hm to hto
 | false=>exact zzbjj h hs hf hn hm to hto
end
end Go.Proofs.YtoijpogadkogcaaGreat
