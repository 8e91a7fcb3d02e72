import Derived.Test.YtoijpogadkogcaaGreatQe
namespace Go.Proofs.YtoijpogadkogcaaGreat
open Go.RowKit
set_option maxRecDepth 100000
section
variable {N:Type} {own:N→Res} {nm:DN→N} {g:Nat} {d:Ds} {v:DV} {wb w:World}
theorem zta (h:DevAt own nm g d v) (hs:Sep wb w own) {n:Nat} {s:DS} (hn:d.str n=some s):d.ring.filter (fun k => !(v.ptr n == v.ptr k))=d.ring.filter (fun k=>k != n):=by
 apply List.filter_congr;intro k hk;obtain⟨t,ht⟩:=h.wf.rings k hk;by_cases e:k=n
 ·subst e;simp
 ·have:v.ptr n≠v.ptr k:=fun e'=>e (h.ptr_inj hs hn ht e').symm
  have e1:(v.ptr n == v.ptr k)=false:=beq_eq_false_iff_ne.2 this;have e2:(k != n)=true:=by simpa using e
  rw[e1,e2];rfl
theorem DevAt.ring_ne (h:DevAt own nm g d v) (hs:Sep wb w own) {n:Nat} {s:DS} (hn:d.str n=some s):v.vR.ownBlock≠some (v.ptr n):=fun e=>by
 have:=hs.apart (nm .ring) (nm (.st n)) (v.ptr n) (by rw[h.res];exact e) (by rw[h.st hn];rfl)
 exact absurd (h.inj _ _ this) (by simp)
set_option maxHeartbeats 1600000 in
theorem zmk (h:DevAt own nm g d v) (hs:Sep wb w own) (hf:d.Fits 1) {s:DS} (hn:d.str s.id=some s) :
  Calls Tryz.prog 131 #[.pointer (some ⟨g,0,none⟩),.pointer (some ⟨v.ptr s.id,0,none⟩)] w fun e w'=>e = .returned (.tuple #[])∧LeftD nm g wb own d v w' (d.place s):=by
 have s1:=hs.ext ((Ext.refl w).alloc (.cells #[.pointer (some ⟨v.ptr s.id,0,none⟩)] 87));have kw:=zmj h s1 hn (hf.st _ _ hn).state;cases hw:s.waits with
 | true =>
  have HE:Hid (d.place s=d.enter s.id):=by show d.place s=_;unfold Ds.place;rw[if_pos hw]
  rw[HE.out];rw[hw] at kw;clear hw;have ke:=zcy h s1 hf hn
  go_enter Tryz.func131,Tryz.ntmps131
  go_wp2_with fail
  refine kw.mono ?_;rintro e w1 ⟨rfl,hw⟩;replace hw:=hw.symm;subst hw
  go_wp2_with fail
  refine ke.mono ?_;rintro e w1 ⟨rfl,hL⟩
  go_wp2
  refine bodyPost_ret (results_none rfl _ _ _) rfl ?_;exact⟨rfl,hL⟩
 | false =>
  have HE:Hid (d.place s = { d with ring:=d.ring.filter (fun k=>k != s.id) }):=by show d.place s=_;unfold Ds.place;rw[if_neg (by rw[hw];simp)]
  rw[HE.out];rw[hw] at kw;clear hw;have hmf:∀ (fn:Fn) (first cap:Array Value) (w:World),(Instr.makeFunc fn first cap).run Tryz.prog w = .ok (.func fn first cap) w:=fun _ _ _ _=>rfl;have kd:=zkc d.ring v.ptr v.vR (v.ptr s.id) w.heap.size (w.alloc (.cells #[.pointer (some ⟨v.ptr s.id,0,none⟩)] 87)) (h.rowR s1) (by simp) (h.isBlk s1 hn) (h.ringBlk s1)
   (fun e=>by have:=(h.rowR hs).lt _ e;omega) (h.ring_ne s1 hn) (fun k hk=>by
    obtain⟨t,ht⟩:=h.wf.rings (d.ring.getD k 0) (by rw[List.getD_eq_getElem?_getD,List.getElem?_eq_getElem hk];exact List.getElem_mem _);exact h.ring_ne s1 ht)
  rw[zta h hs hn] at kd;have f13:=h.c13 s1;obtain⟨aR,cR,hR,-,-⟩:=(h.rowR hs).slice;have HR:=hide hR;rw[hR] at f13 kd;have hmem:∀ k∈d.ring.filter (fun k=>k != s.id),∃ s,d.str k=some s:=fun k hk=>h.wf.rings k (List.mem_filter.1 hk).1;have HM:=hide hmem;clear hmem hR
  go_enter Tryz.func131,Tryz.ntmps131
  go_wp2_with fail
  refine kw.mono ?_;rintro e w1 ⟨rfl,hw⟩;replace hw:=hw.symm;subst hw
  go_wp2_with fail
  refine kd.mono ?_;rintro e w2 ⟨v2,rfl,ho2,hg2⟩;rw[←HR.out] at hg2;obtain⟨a2,k2,hv2,-,-⟩:=ho2.slice;have s2:=s1.grew (h.res .ring) hg2 ho2;have c2:=(zab h.inj own .ring .conn (.row 87 1 v2 (d.ring.filter (fun k=>k != s.id)).length (ptrCells (d.ring.filter (fun k=>k != s.id)) v.ptr))).trans ((if_neg (by simp)).trans h.conn);have th:=s2.thaw c2 13;have f13':w2.cell? ⟨g,13,none⟩=some v.vR:=s2.cell c2 13;have s3:=s2.setObj c2 13 v2;have h3:=h.setRing (d.ring.filter (fun k=>k != s.id)) v2 HM.out;clear ho2 hg2 s1 s2 f13 kd kw;rw[hv2]
  go_wp2
  go_end0
  rw[←hv2];exact⟨rfl,_,{ v with vR:=v2 },s3,h3,((SameD.refl nm own).upd _ _).upd _ _,rfl,fun _=>rfl,fun _ hn=>⟨rfl,hn⟩⟩
theorem zav (g:Nat) (s:DS) (v:DSV) (x:Nat):(dsCells g s v).setIfInBounds 2 (.int .i64 (x:Int))=dsCells g { s with state:=x } v:=rfl
theorem zgh (d:Ds) (v:DV) (x:Int):(connD d v).setIfInBounds 3 (.int .i64 x)=connD { d with mCount:=x } v:=rfl
theorem zgi (d:Ds) (v:DV) (x:Int):(connD d v).setIfInBounds 8 (.int .i64 x)=connD { d with tCount:=x } v:=rfl
theorem zvx (d:Ds) (n:Nat) (s:DS) (m:Bool) (k:Nat):(d.setS n { s with kept:=false }).held m k=if k=n then none else d.held m k:=by
 unfold Ds.held;rw[zad];by_cases e:k=n
 ·rw[if_pos e,if_pos e];rfl
 ·rw[if_neg e,if_neg e]
theorem zia (d:Ds) (n:Nat) (s:DS) (m:Bool) (ptr:Nat→Nat):(d.setS n { s with kept:=false }).mapF m ptr=fun x=>if x=(n:Int) then none else d.mapF m ptr x:=by
 funext x
 unfold Ds.mapF;rw[zvx d n s];by_cases h0:0≤x
 ·rw[if_pos h0,if_pos h0];by_cases e:x=(n:Int)
  ·rw[if_pos e,if_pos (by omega)];rfl
  ·rw[if_neg e,if_neg (by omega)]
 ·rw[if_neg h0,if_neg h0];split <;> rfl
theorem zfv (d:Ds) {n:Nat} {s:DS} (hn:d.str n=some s) (m:Bool) (hm:s.mine≠m) (ptr:Nat→Nat):(d.setS n { s with kept:=false }).mapF m ptr=d.mapF m ptr:=by
 rw[zia d n s];funext x
 by_cases e:x=(n:Int)
 ·rw[if_pos e];subst e;unfold Ds.mapF Ds.held;rw[if_pos (by omega),Int.toNat_natCast,hn];dsimp only;rw[if_neg (by simp[hm])];rfl
 ·rw[if_neg e]
theorem DevAt.unkeep_m (h:DevAt own nm g d v) {n:Nat} {s:DS} (hn:d.str n=some s) (hm:s.mine=true) (es':Array MapEntry) (F:MapIs (fun x=>if x=(n:Int) then none else d.mapF true v.ptr x) es') :
  DevAt (upd own (nm .mm) (.obj v.gm (.map es' v.ckM))) nm g (d.setS n { s with kept:=false }) { v with esM:=es' }:=by
 refine⟨h.inj,fun x => ?_,h.frl,?_,?_,h.wf.setS n _ (h.wf.ids n s hn),?_,?_⟩
 ·rw[zab h.inj,h.res];cases x with
  | mm=>rw[if_pos rfl];rfl
  | st k =>
   rw[if_neg (by simp)];by_cases e:k=n
   ·subst e;simp only[devRes,zad,if_true,hn];rfl
   ·simp only[devRes,zad,if_neg e]
  | hdr k =>
   rw[if_neg (by simp)];by_cases e:k=n
   ·subst e;simp only[devRes,zad,if_true,hn]
   ·simp only[devRes,zad,if_neg e]
  | block k =>
   rw[if_neg (by simp)];by_cases e:k=n
   ·subst e;simp only[devRes,zad,if_true,hn]
   ·simp only[devRes,zad,if_neg e]
  | data k =>
   rw[if_neg (by simp)];by_cases e:k=n
   ·subst e;simp only[devRes,zad,if_true,hn]
   ·simp only[devRes,zad,if_neg e]
  | unread k =>
   rw[if_neg (by simp)];by_cases e:k=n
   ·subst e;simp only[devRes,zad,if_true,hn]
   ·simp only[devRes,zad,if_neg e]
  | _=>rw[if_neg (by simp)];rfl
 ·rw[zia d n s];exact F
 ·rw[zfv d hn false (by rw[hm];simp)];exact h.mapT
 ·intro k t hk1 hk2;rw[zad] at hk1;by_cases e:k=n
  ·rw[if_pos e] at hk1;cases hk1;rw[e];exact h.nilB n s hn hk2
  ·rw[if_neg e] at hk1;exact h.nilB k t hk1 hk2
 ·intro k t hk1 hk2;rw[zad] at hk1;by_cases e:k=n
  ·rw[if_pos e] at hk1;cases hk1;rw[e];exact h.nilH n s hn hk2
  ·rw[if_neg e] at hk1;exact h.nilH k t hk1 hk2
theorem DevAt.unkeep_t (h:DevAt own nm g d v) {n:Nat} {s:DS} (hn:d.str n=some s) (hm:s.mine=false) (es':Array MapEntry) (F:MapIs (fun x=>if x=(n:Int) then none else d.mapF false v.ptr x) es') :
  DevAt (upd own (nm .mt) (.obj v.gt (.map es' v.ckT))) nm g (d.setS n { s with kept:=false }) { v with esT:=es' }:=by
 refine⟨h.inj,fun x => ?_,h.frl,?_,?_,h.wf.setS n _ (h.wf.ids n s hn),?_,?_⟩
 ·rw[zab h.inj,h.res];cases x with
  | mt=>rw[if_pos rfl];rfl
  | st k =>
   rw[if_neg (by simp)];by_cases e:k=n
   ·subst e;simp only[devRes,zad,if_true,hn];rfl
   ·simp only[devRes,zad,if_neg e]
  | hdr k =>
   rw[if_neg (by simp)];by_cases e:k=n
   ·subst e;simp only[devRes,zad,if_true,hn]
   ·simp only[devRes,zad,if_neg e]
  | block k =>
   rw[if_neg (by simp)];by_cases e:k=n
   ·subst e;simp only[devRes,zad,if_true,hn]
   ·simp only[devRes,zad,if_neg e]
  | data k =>
   rw[if_neg (by simp)];by_cases e:k=n
   ·subst e;simp only[devRes,zad,if_true,hn]
   ·simp only[devRes,zad,if_neg e]
  | unread k =>
   rw[if_neg (by simp)];by_cases e:k=n
   ·subst e;simp only[devRes,zad,if_true,hn]
   ·simp only[devRes,zad,if_neg e]
  | _=>rw[if_neg (by simp)];rfl
 ·rw[zfv d hn true (by rw[hm];simp)];exact h.mapM
 ·rw[zia d n s];exact F
 ·intro k t hk1 hk2;rw[zad] at hk1;by_cases e:k=n
  ·rw[if_pos e] at hk1;cases hk1;rw[e];exact h.nilB n s hn hk2
  ·rw[if_neg e] at hk1;exact h.nilB k t hk1 hk2
 ·intro k t hk1 hk2;rw[zad] at hk1;by_cases e:k=n
  ·rw[if_pos e] at hk1;cases hk1;rw[e];exact h.nilH n s hn hk2
  ·rw[if_neg e] at hk1;exact h.nilH k t hk1 hk2
theorem zfl {s:DS} (hn:d.str s.id=some s) (hm:s.mine=true) {x:Int} {to:Nat} {own1:N→Res} (S:Sep wb w own1) (H:DevAt own1 nm g { d with mCount:=x } v) (e1:SameD nm own own1)
  (hx:x=d.mCount+Ds.shift s to) (hd:(to == 8 && s.headers.isEmpty)=false):LeftD nm g wb own d v (w.setCell ⟨v.ptr s.id,2,none⟩ (.int .i64 (to:Int))) (d.move s to):=by
 have S2:=S.setObj (H.st (n:=s.id) hn) 2 (.int .i64 (to:Int));rw[zav] at S2;have H2:=H.scalS (n:=s.id) (s:=s) hn { s with state:=to } rfl rfl rfl rfl rfl rfl rfl;have e:d.move s to=Ds.setS { d with mCount:=x } s.id { s with state:=to }:=by
  unfold Ds.move Ds.bump Ds.moved;rw[hm,hx,hd];simp only[Bool.not_false,Bool.and_true,if_true]
  try rw[←hm]
 rw[e];exact⟨_,v,S2,H2,e1.upd _ _,rfl,fun _=>rfl,fun k hk=>⟨rfl,zaj d _ _ k hk⟩⟩
theorem zxq {s:DS} (hn:d.str s.id=some s) (hm:s.mine=true) {x:Int} {to:Nat} {own1:N→Res} (S:Sep wb w own1) (H:DevAt own1 nm g { d with mCount:=x } v) (e1:SameD nm own own1)
  (hx:x=d.mCount+Ds.shift s to) (hd:(to == 8 && s.headers.isEmpty)=true) (hid:s.id≤65535):∃ es',(∀ ty,(Builtin.delete_ #[96,3] ty #[.map (some v.gm),.int .i64 (s.id:Int)]).run Tryz.prog (w.setCell ⟨v.ptr s.id,2,none⟩ (.int .i64 (to:Int))).drew = .ok (.tuple #[]) (setObjAt (w.setCell ⟨v.ptr s.id,2,none⟩ (.int .i64 (to:Int))).drew v.gm (.map es' v.ckM))) ∧
   LeftD nm g wb own d v (setObjAt (w.setCell ⟨v.ptr s.id,2,none⟩ (.int .i64 (to:Int))).drew v.gm (.map es' v.ckM)) (d.move s to):=by
 have S2:=S.setObj (H.st (n:=s.id) hn) 2 (.int .i64 (to:Int));rw[zav] at S2;have H2:=H.scalS (n:=s.id) (s:=s) hn { s with state:=to } rfl rfl rfl rfl rfl rfl rfl;have S3:=S2.ext (Ext.refl _).drew;obtain⟨es',hr,hF⟩:=zim (P:=Tryz.prog) (ty:=0) Tryz.underlying96 Tryz.underlying3 (S3.get (H2.res .mm)) H2.mapM (a:=(s.id:Int)) (zin _ (by omega) (by omega));have S4:=S3.setMap (H2.res .mm) (.map es' v.ckM);have H4:=H2.unkeep_m (n:=s.id) (s:={ s with state:=to }) (by rw[zad,if_pos rfl]) hm es' hF;have e:d.move s to=Ds.setS (Ds.setS { d with mCount:=x } s.id { s with state:=to }) s.id { { s with state:=to } with kept:=false }:=by
  unfold Ds.move Ds.bump Ds.moved;rw[hm,hx,hd];simp only[Bool.not_true,Bool.and_false,if_true];unfold Ds.setS;dsimp only;congr 1;funext k
  by_cases ek:k=s.id
  ·rw[if_pos ek,if_pos ek]
  ·rw[if_neg ek,if_neg ek,if_neg ek]
 refine⟨es',fun ty=>hr,?_⟩;rw[e];exact⟨_,{ v with esM:=es' },S4,H4,(e1.upd _ _).upd _ _,rfl,fun _=>rfl,fun k hk=>⟨rfl,zaj _ _ _ k (zaj d _ _ k hk)⟩⟩
theorem zfm {s:DS} (hn:d.str s.id=some s) (hm:s.mine=false) {x:Int} {to:Nat} {own1:N→Res} (S:Sep wb w own1) (H:DevAt own1 nm g { d with tCount:=x } v) (e1:SameD nm own own1)
  (hx:x=d.tCount+Ds.shift s to) (hd:(to == 8 && s.headers.isEmpty)=false):LeftD nm g wb own d v (w.setCell ⟨v.ptr s.id,2,none⟩ (.int .i64 (to:Int))) (d.move s to):=by
 have S2:=S.setObj (H.st (n:=s.id) hn) 2 (.int .i64 (to:Int));rw[zav] at S2;have H2:=H.scalS (n:=s.id) (s:=s) hn { s with state:=to } rfl rfl rfl rfl rfl rfl rfl;have e:d.move s to=Ds.setS { d with tCount:=x } s.id { s with state:=to }:=by
  unfold Ds.move Ds.bump Ds.moved;rw[hm,hx,hd];simp only[Bool.not_false,Bool.and_true,Bool.false_eq_true,if_false]
  try rw[←hm]
 rw[e];exact⟨_,v,S2,H2,e1.upd _ _,rfl,fun _=>rfl,fun k hk=>⟨rfl,zaj d _ _ k hk⟩⟩
theorem zxr {s:DS} (hn:d.str s.id=some s) (hm:s.mine=false) {x:Int} {to:Nat} {own1:N→Res} (S:Sep wb w own1) (H:DevAt own1 nm g { d with tCount:=x } v) (e1:SameD nm own own1)
  (hx:x=d.tCount+Ds.shift s to) (hd:(to == 8 && s.headers.isEmpty)=true) (hid:s.id≤65535):∃ es',(∀ ty,(Builtin.delete_ #[96,3] ty #[.map (some v.gt),.int .i64 (s.id:Int)]).run Tryz.prog (w.setCell ⟨v.ptr s.id,2,none⟩ (.int .i64 (to:Int))).drew = .ok (.tuple #[]) (setObjAt (w.setCell ⟨v.ptr s.id,2,none⟩ (.int .i64 (to:Int))).drew v.gt (.map es' v.ckT))) ∧
   LeftD nm g wb own d v (setObjAt (w.setCell ⟨v.ptr s.id,2,none⟩ (.int .i64 (to:Int))).drew v.gt (.map es' v.ckT)) (d.move s to):=by
 have S2:=S.setObj (H.st (n:=s.id) hn) 2 (.int .i64 (to:Int));rw[zav] at S2;have H2:=H.scalS (n:=s.id) (s:=s) hn { s with state:=to } rfl rfl rfl rfl rfl rfl rfl;have S3:=S2.ext (Ext.refl _).drew;obtain⟨es',hr,hF⟩:=zim (P:=Tryz.prog) (ty:=0) Tryz.underlying96 Tryz.underlying3 (S3.get (H2.res .mt)) H2.mapT (a:=(s.id:Int)) (zin _ (by omega) (by omega));have S4:=S3.setMap (H2.res .mt) (.map es' v.ckT);have H4:=H2.unkeep_t (n:=s.id) (s:={ s with state:=to }) (by rw[zad,if_pos rfl]) hm es' hF;have e:d.move s to=Ds.setS (Ds.setS { d with tCount:=x } s.id { s with state:=to }) s.id { { s with state:=to } with kept:=false }:=by
  unfold Ds.move Ds.bump Ds.moved;rw[hm,hx,hd];simp only[Bool.not_true,Bool.and_false,Bool.false_eq_true,if_false];unfold Ds.setS;dsimp only;congr 1;funext k
  by_cases ek:k=s.id
  ·rw[if_pos ek,if_pos ek]
  ·rw[if_neg ek,if_neg ek,if_neg ek]
 refine⟨es',fun ty=>hr,?_⟩;rw[e];exact⟨_,{ v with esT:=es' },S4,H4,(e1.upd _ _).upd _ _,rfl,fun _=>rfl,fun k hk=>⟨rfl,zaj _ _ _ k (zaj d _ _ k hk)⟩⟩
end
open Go.RowKit
set_option maxRecDepth 100000
theorem zcz {P:Program} {t e:TypeId} (h:P.underlying t=some (.slice e)) (a:Option Addr) (n k:Nat) (W:World):(binOp .eql t (.slice a n k) (.slice none 0 0)).run P W = .ok (.bool a.isNone) W:=by
 have:∀ m,(Op.equalIn (m+1) t (.slice a n k) (.slice none 0 0)).run P W = .ok a.isNone W:=fun m=>by
  cases a <;> simp[Op.equalIn,run_underlying h]
 simp only[binOp];simp[Op.equal,Op.maxDepth,this 9999]
theorem setS1 (d:Ds) (n:Nat) (s:DS):(d.setS n s).str n=some s:=by rw[zad,if_pos rfl]
section
variable {N:Type} {own:N→Res} {nm:DN→N} {g:Nat} {d:Ds} {v:DV} {wb w:World}
set_option maxHeartbeats 6400000 in
theorem zzbdl (h:DevAt own nm g d v) (hs:Sep wb w own) (hf:d.Fits 1) {s:DS} (hn:d.str s.id=some s) (hm:s.mine=true) (to:Nat) (hto:to≤8) :
  Calls Tryz.prog 129 #[.pointer (some ⟨v.ptr s.id,0,none⟩),.int .i64 (to:Int)] w fun e w'=>e = .returned (.tuple #[])∧LeftD nm g wb own d v w' (d.move s to):=by
 have q0:=hf.mCount0;have q1:=hf.mCount1;have fs:=hf.st _ _ hn;have kc:=zat s.state fs.state w;have f1:=h.s1 hs hn;rw[hm] at f1;simp only[if_true] at f1;have f2:=h.s2 hs hn;have f5:=h.s5 hs hn;have fc:=h.c3 hs;have tc:=h.thaw hs 3;have t2:=h.sthaw hs hn 2;have hid:=fs.id;have heq:=zcz Tryz.underlying43;obtain⟨aH,kH,hH,-,-⟩:=(hs.get (h.hdr hn)).slice;have hnilH:=h.nilH s.id s hn;cases hc:stCounts s.state with
 | true =>
  cases ht:stCounts to with
  | true =>
   obtain⟨W1,hW1⟩:∃ W,World.setCell w ⟨g,3,none⟩ (.int .i64 (d.mCount-1))=W:=⟨_,rfl⟩;have SW1:=hs.setObj h.conn 3 (.int .i64 (d.mCount-1));rw[zgh,hW1] at SW1;have HW1:=DevAt.scal (d':={ d with mCount:=d.mCount-1 }) h rfl rfl rfl rfl rfl;have f1W1:World.cell? W1 ⟨v.ptr s.id,1,none⟩=some (.pointer (some ⟨g,0,none⟩)):=by rw[HW1.s1 SW1 hn,hm];rfl
   have fcW1:=HW1.c3 SW1;have f5W1:=HW1.s5 SW1 hn;have tcW1:=HW1.thaw SW1 3;have t2W1:=HW1.sthaw SW1 hn 2;have f2W1:=HW1.s2 SW1 hn;obtain⟨W2,hW2⟩:∃ W,World.setCell W1 ⟨g,3,none⟩ (.int .i64 (d.mCount))=W:=⟨_,rfl⟩;have SW2:=SW1.setObj HW1.conn 3 (.int .i64 (d.mCount));rw[zgh,hW2] at SW2;have HW2:=DevAt.scal (d':={ d with mCount:=d.mCount }) HW1 rfl rfl rfl rfl rfl;have f1W2:World.cell? W2 ⟨v.ptr s.id,1,none⟩=some (.pointer (some ⟨g,0,none⟩)):=by rw[HW2.s1 SW2 hn,hm];rfl
   have fcW2:=HW2.c3 SW2;have f5W2:=HW2.s5 SW2 hn;have tcW2:=HW2.thaw SW2 3;have t2W2:=HW2.sthaw SW2 hn 2;have f2W2:=HW2.s2 SW2 hn;have kt:=zat to hto W1;rw[ht] at kt;rw[hc] at kc;have h8:¬ to=8:=fun e=>by rw[e] at ht;simp[stCounts] at ht
   have h8b:((to:Int) == 8)=false:=by simp;omega
   have hd:(to == 8 && s.headers.isEmpty)=false:=by simp[h8]
   have L:=hide (zfl hn hm SW2 HW2 (((SameD.refl nm own).upd _ _).upd _ _) (x:=d.mCount) (to:=to) (by simp only[Ds.shift,hc,ht,if_true];omega) hd);clear hd;clear hc ht h8 hnilH
   go_enter Tryz.func129,Tryz.ntmps129
   go_wp2_with fail
   refine kc.mono ?_;rintro e w1 ⟨rfl,hw⟩;replace hw:=hw.symm;subst hw
   go_wp2_with fail
   refine(kt).mono ?_;rintro e w1 ⟨rfl,hw⟩;replace hw:=hw.symm;subst hw
   go_wp2
   go_end0
   exact⟨rfl,L.out⟩
  | false =>
   obtain⟨W1,hW1⟩:∃ W,World.setCell w ⟨g,3,none⟩ (.int .i64 (d.mCount-1))=W:=⟨_,rfl⟩;have SW1:=hs.setObj h.conn 3 (.int .i64 (d.mCount-1));rw[zgh,hW1] at SW1;have HW1:=DevAt.scal (d':={ d with mCount:=d.mCount-1 }) h rfl rfl rfl rfl rfl;have f1W1:World.cell? W1 ⟨v.ptr s.id,1,none⟩=some (.pointer (some ⟨g,0,none⟩)):=by rw[HW1.s1 SW1 hn,hm];rfl
   have fcW1:=HW1.c3 SW1;have f5W1:=HW1.s5 SW1 hn;have tcW1:=HW1.thaw SW1 3;have t2W1:=HW1.sthaw SW1 hn 2;have f2W1:=HW1.s2 SW1 hn;have kt:=zat to hto W1;rw[ht] at kt;rw[hc] at kc;by_cases h8:to=8
   ·by_cases hh:s.headers=[]
    ·have hd:(to == 8 && s.headers.isEmpty)=true:=by simp[h8,hh]
     have hV:=hnilH hh;obtain⟨es',hr,hL⟩:=zxq hn hm SW1 HW1 ((SameD.refl nm own).upd _ _) (x:=d.mCount-1) (to:=to) (by simp only[Ds.shift,hc,ht,if_true,Bool.false_eq_true,if_false];omega) hd hid;obtain⟨W3,hW3⟩:∃ W3,World.setCell W1 ⟨v.ptr s.id,2,none⟩ (.int .i64 (to:Int))=W3:=⟨_,rfl⟩;have S3:=SW1.setObj (HW1.st hn) 2 (.int .i64 (to:Int));rw[zav,hW3] at S3;have H3:=HW1.scalS (n:=s.id) (s:=s) hn { s with state:=to } rfl rfl rfl rfl rfl rfl rfl;rw[hW3] at hr hL;have hn3:=setS1 ({ d with mCount:=d.mCount-1 }:Ds) s.id { s with state:=to };have g1:=H3.s1 S3 hn3;dsimp only at g1;rw[hm] at g1;simp only[if_true] at g1;have g0:=H3.s0 S3 hn3;have g5:=H3.s5 S3 hn3;rw[hV] at g5;have gm:W3.cell? ⟨g,4,none⟩=some (.map (some v.gm)):=H3.c4 S3;have HL:=hide hL;have h8b:((to:Int) == 8)=true:=by simp;omega
     clear hL hd hh hc ht h8 hnilH
     go_enter Tryz.func129,Tryz.ntmps129
     go_wp2_with fail
     refine kc.mono ?_;rintro e w1 ⟨rfl,hw⟩;replace hw:=hw.symm;subst hw
     go_wp2_with fail
     refine(kt).mono ?_;rintro e w1 ⟨rfl,hw⟩;replace hw:=hw.symm;subst hw
     go_wp2
     go_region
     all_goals
      go_wp2
      go_end0
      exact⟨rfl,HL.out⟩
    ·have hd:(to == 8 && s.headers.isEmpty)=false:=by simp[hh]
     have hpos:0<s.headers.length:=List.length_pos_iff.2 hh;obtain⟨a5,o5,k5,e5,-⟩:=zdk (hs.get (h.hdr hn)) hpos;have h8b:((to:Int) == 8)=true:=by simp;omega
     have L:=hide (zfl hn hm SW1 HW1 ((SameD.refl nm own).upd _ _) (x:=d.mCount-1) (to:=to) (by simp only[Ds.shift,hc,ht,if_true,Bool.false_eq_true,if_false];omega) hd);clear hd;obtain⟨W3,hW3⟩:∃ W3,World.setCell W1 ⟨v.ptr s.id,2,none⟩ (.int .i64 (to:Int))=W3:=⟨_,rfl⟩;have S3:=SW1.setObj (HW1.st hn) 2 (.int .i64 (to:Int));rw[zav,hW3] at S3;have H3:=HW1.scalS (n:=s.id) (s:=s) hn { s with state:=to } rfl rfl rfl rfl rfl rfl rfl;have hn3:=setS1 ({ d with mCount:=d.mCount-1 }:Ds) s.id { s with state:=to };have g5:=H3.s5 S3 hn3;rw[e5] at g5;rw[hW3] at L;clear hh hc ht h8 hnilH
     go_enter Tryz.func129,Tryz.ntmps129
     go_wp2_with fail
     refine kc.mono ?_;rintro e w1 ⟨rfl,hw⟩;replace hw:=hw.symm;subst hw
     go_wp2_with fail
     refine(kt).mono ?_;rintro e w1 ⟨rfl,hw⟩;replace hw:=hw.symm;subst hw
     go_wp2
     go_end0
     exact⟨rfl,L.out⟩
   ·have h8b:((to:Int) == 8)=false:=by simp;omega
    have hd:(to == 8 && s.headers.isEmpty)=false:=by simp[h8]
    have L:=hide (zfl hn hm SW1 HW1 ((SameD.refl nm own).upd _ _) (x:=d.mCount-1) (to:=to) (by simp only[Ds.shift,hc,ht,if_true,Bool.false_eq_true,if_false];omega) hd);clear hd;clear hc ht h8 hnilH
    go_enter Tryz.func129,Tryz.ntmps129
    go_wp2_with fail
    refine kc.mono ?_;rintro e w1 ⟨rfl,hw⟩;replace hw:=hw.symm;subst hw
    go_wp2_with fail
    refine(kt).mono ?_;rintro e w1 ⟨rfl,hw⟩;replace hw:=hw.symm;subst hw
    go_wp2
    go_end0
    exact⟨rfl,L.out⟩
 | false =>
  cases ht:stCounts to with
  | true =>
   obtain⟨W2,hW2⟩:∃ W,World.setCell w ⟨g,3,none⟩ (.int .i64 (d.mCount+1))=W:=⟨_,rfl⟩;have SW2:=hs.setObj h.conn 3 (.int .i64 (d.mCount+1));rw[zgh,hW2] at SW2;have HW2:=DevAt.scal (d':={ d with mCount:=d.mCount+1 }) h rfl rfl rfl rfl rfl;have f1W2:World.cell? W2 ⟨v.ptr s.id,1,none⟩=some (.pointer (some ⟨g,0,none⟩)):=by rw[HW2.s1 SW2 hn,hm];rfl
   have fcW2:=HW2.c3 SW2;have f5W2:=HW2.s5 SW2 hn;have tcW2:=HW2.thaw SW2 3;have t2W2:=HW2.sthaw SW2 hn 2;have f2W2:=HW2.s2 SW2 hn;have kt:=zat to hto w;rw[ht] at kt;rw[hc] at kc;have h8:¬ to=8:=fun e=>by rw[e] at ht;simp[stCounts] at ht
   have h8b:((to:Int) == 8)=false:=by simp;omega
   have hd:(to == 8 && s.headers.isEmpty)=false:=by simp[h8]
   have L:=hide (zfl hn hm SW2 HW2 ((SameD.refl nm own).upd _ _) (x:=d.mCount+1) (to:=to) (by simp only[Ds.shift,hc,ht,if_true,Bool.false_eq_true,if_false];omega) hd);clear hd;clear hc ht h8 hnilH
   go_enter Tryz.func129,Tryz.ntmps129
   go_wp2_with fail
   refine kc.mono ?_;rintro e w1 ⟨rfl,hw⟩;replace hw:=hw.symm;subst hw
   go_wp2_with fail
   refine(kt).mono ?_;rintro e w1 ⟨rfl,hw⟩;replace hw:=hw.symm;subst hw
   go_wp2
   go_end0
   exact⟨rfl,L.out⟩
  | false =>
   have kt:=zat to hto w;rw[ht] at kt;rw[hc] at kc;by_cases h8:to=8
   ·by_cases hh:s.headers=[]
    ·have hd:(to == 8 && s.headers.isEmpty)=true:=by simp[h8,hh]
     have hV:=hnilH hh;obtain⟨es',hr,hL⟩:=zxq hn hm hs (by exact h) (SameD.refl nm own) (x:=d.mCount) (to:=to) (by simp only[Ds.shift,hc,ht,Bool.false_eq_true,if_false];omega) hd hid;obtain⟨W3,hW3⟩:∃ W3,World.setCell w ⟨v.ptr s.id,2,none⟩ (.int .i64 (to:Int))=W3:=⟨_,rfl⟩;have S3:=hs.setObj (h.st hn) 2 (.int .i64 (to:Int));rw[zav,hW3] at S3;have H3:=h.scalS (n:=s.id) (s:=s) hn { s with state:=to } rfl rfl rfl rfl rfl rfl rfl;rw[hW3] at hr hL;have hn3:=setS1 d s.id { s with state:=to };have g1:=H3.s1 S3 hn3;dsimp only at g1;rw[hm] at g1;simp only[if_true] at g1;have g0:=H3.s0 S3 hn3;have g5:=H3.s5 S3 hn3;rw[hV] at g5;have gm:W3.cell? ⟨g,4,none⟩=some (.map (some v.gm)):=H3.c4 S3;have HL:=hide hL;have h8b:((to:Int) == 8)=true:=by simp;omega
     clear hL hd hh hc ht h8 hnilH
     go_enter Tryz.func129,Tryz.ntmps129
     go_wp2_with fail
     refine kc.mono ?_;rintro e w1 ⟨rfl,hw⟩;replace hw:=hw.symm;subst hw
     go_wp2_with fail
     refine(kt).mono ?_;rintro e w1 ⟨rfl,hw⟩;replace hw:=hw.symm;subst hw
     go_wp2
     go_region
     all_goals
      go_wp2
      go_end0
      exact⟨rfl,HL.out⟩
    ·have hd:(to == 8 && s.headers.isEmpty)=false:=by simp[hh]
     have hpos:0<s.headers.length:=List.length_pos_iff.2 hh;obtain⟨a5,o5,k5,e5,-⟩:=zdk (hs.get (h.hdr hn)) hpos;have h8b:((to:Int) == 8)=true:=by simp;omega
     have L:=hide (zfl hn hm hs (by exact h) (SameD.refl nm own) (x:=d.mCount) (to:=to) (by simp only[Ds.shift,hc,ht,Bool.false_eq_true,if_false];omega) hd);clear hd;obtain⟨W3,hW3⟩:∃ W3,World.setCell w ⟨v.ptr s.id,2,none⟩ (.int .i64 (to:Int))=W3:=⟨_,rfl⟩;have S3:=hs.setObj (h.st hn) 2 (.int .i64 (to:Int));rw[zav,hW3] at S3;have H3:=h.scalS (n:=s.id) (s:=s) hn { s with state:=to } rfl rfl rfl rfl rfl rfl rfl;have hn3:=setS1 d s.id { s with state:=to };have g5:=H3.s5 S3 hn3;rw[e5] at g5;rw[hW3] at L;clear hh hc ht h8 hnilH
     go_enter Tryz.func129,Tryz.ntmps129
     go_wp2_with fail
     refine kc.mono ?_;rintro e w1 ⟨rfl,hw⟩;replace hw:=hw.symm;subst hw
     go_wp2_with fail
     refine(kt).mono ?_;rintro e w1 ⟨rfl,hw⟩;replace hw:=hw.symm;subst hw
     go_wp2
     go_end0
     exact⟨rfl,L.out⟩
   ·have h8b:((to:Int) == 8)=false:=by simp;omega
    have hd:(to == 8 && s.headers.isEmpty)=false:=by simp[h8]
    have L:=hide (zfl hn hm hs (by exact h) (SameD.refl nm own) (x:=d.mCount) (to:=to) (by simp only[Ds.shift,hc,ht,Bool.false_eq_true,if_false];omega) hd);clear hd;clear hc ht h8 hnilH
    go_enter Tryz.func129,Tryz.ntmps129
    go_wp2_with fail
    refine kc.mono ?_;rintro e w1 ⟨rfl,hw⟩;replace hw:=hw.symm;subst hw
    go_wp2_with fail
    refine(kt).mono ?_;rintro e w1 ⟨rfl,hw⟩;replace hw:=hw.symm;subst hw
    go_wp2
    go_end0
    exact⟨rfl,L.out⟩
set_option maxHeartbeats 6400000 in
theorem zzbdm (h:DevAt own nm g d v) (hs:Sep wb w own) (hf:d.Fits 1) {s:DS} (hn:d.str s.id=some s) (hm:s.mine=false) (to:Nat) (hto:to≤8) :
  Calls Tryz.prog 129 #[.pointer (some ⟨v.ptr s.id,0,none⟩),.int .i64 (to:Int)] w fun e w'=>e = .returned (.tuple #[])∧LeftD nm g wb own d v w' (d.move s to):=by
 have q0:=hf.tCount0;have q1:=hf.tCount1;have fs:=hf.st _ _ hn;have kc:=zat s.state fs.state w;have f1:=h.s1 hs hn;rw[hm] at f1;simp only[Bool.false_eq_true,if_false] at f1;have f2:=h.s2 hs hn;have f5:=h.s5 hs hn;have fc:=h.c8 hs;have tc:=h.thaw hs 8;have t2:=h.sthaw hs hn 2;have hid:=fs.id;have heq:=zcz Tryz.underlying43;obtain⟨aH,kH,hH,-,-⟩:=(hs.get (h.hdr hn)).slice;have hnilH:=h.nilH s.id s hn;cases hc:stCounts s.state with
 | true =>
  cases ht:stCounts to with
  | true =>
   obtain⟨W1,hW1⟩:∃ W,World.setCell w ⟨g,8,none⟩ (.int .i64 (d.tCount-1))=W:=⟨_,rfl⟩;have SW1:=hs.setObj h.conn 8 (.int .i64 (d.tCount-1));rw[zgi,hW1] at SW1;have HW1:=DevAt.scal (d':={ d with tCount:=d.tCount-1 }) h rfl rfl rfl rfl rfl;have f1W1:World.cell? W1 ⟨v.ptr s.id,1,none⟩=some (.pointer (some ⟨g,5,none⟩)):=by rw[HW1.s1 SW1 hn,hm];rfl
   have fcW1:=HW1.c8 SW1;have f5W1:=HW1.s5 SW1 hn;have tcW1:=HW1.thaw SW1 8;have t2W1:=HW1.sthaw SW1 hn 2;have f2W1:=HW1.s2 SW1 hn;obtain⟨W2,hW2⟩:∃ W,World.setCell W1 ⟨g,8,none⟩ (.int .i64 (d.tCount))=W:=⟨_,rfl⟩;have SW2:=SW1.setObj HW1.conn 8 (.int .i64 (d.tCount));rw[zgi,hW2] at SW2;have HW2:=DevAt.scal (d':={ d with tCount:=d.tCount }) HW1 rfl rfl rfl rfl rfl;have f1W2:World.cell? W2 ⟨v.ptr s.id,1,none⟩=some (.pointer (some ⟨g,5,none⟩)):=by rw[HW2.s1 SW2 hn,hm];rfl
   have fcW2:=HW2.c8 SW2;have f5W2:=HW2.s5 SW2 hn;have tcW2:=HW2.thaw SW2 8;have t2W2:=HW2.sthaw SW2 hn 2;have f2W2:=HW2.s2 SW2 hn;have kt:=zat to hto W1;rw[ht] at kt;rw[hc] at kc;have h8:¬ to=8:=fun e=>by rw[e] at ht;simp[stCounts] at ht
   have h8b:((to:Int) == 8)=false:=by simp;omega
   have hd:(to == 8 && s.headers.isEmpty)=false:=by simp[h8]
   have L:=hide (zfm hn hm SW2 HW2 (((SameD.refl nm own).upd _ _).upd _ _) (x:=d.tCount) (to:=to) (by simp only[Ds.shift,hc,ht,if_true];omega) hd);clear hd;clear hc ht h8 hnilH
   go_enter Tryz.func129,Tryz.ntmps129
   go_wp2_with fail
   refine kc.mono ?_;rintro e w1 ⟨rfl,hw⟩;replace hw:=hw.symm;subst hw
   go_wp2_with fail
   refine(kt).mono ?_;rintro e w1 ⟨rfl,hw⟩;replace hw:=hw.symm;subst hw
   go_wp2
   go_end0
   exact⟨rfl,L.out⟩
  | false =>
   obtain⟨W1,hW1⟩:∃ W,World.setCell w ⟨g,8,none⟩ (.int .i64 (d.tCount-1))=W:=⟨_,rfl⟩;have SW1:=hs.setObj h.conn 8 (.int .i64 (d.tCount-1));rw[zgi,hW1] at SW1;have HW1:=DevAt.scal (d':={ d with tCount:=d.tCount-1 }) h rfl rfl rfl rfl rfl;have f1W1:World.cell? W1 ⟨v.ptr s.id,1,none⟩=some (.pointer (some ⟨g,5,none⟩)):=by rw[HW1.s1 SW1 hn,hm];rfl
   have fcW1:=HW1.c8 SW1;have f5W1:=HW1.s5 SW1 hn;have tcW1:=HW1.thaw SW1 8;have t2W1:=HW1.sthaw SW1 hn 2;have f2W1:=HW1.s2 SW1 hn;have kt:=zat to hto W1;rw[ht] at kt;rw[hc] at kc;by_cases h8:to=8
   ·by_cases hh:s.headers=[]
    ·have hd:(to == 8 && s.headers.isEmpty)=true:=by simp[h8,hh]
     have hV:=hnilH hh;obtain⟨es',hr,hL⟩:=zxr hn hm SW1 HW1 ((SameD.refl nm own).upd _ _) (x:=d.tCount-1) (to:=to) (by simp only[Ds.shift,hc,ht,if_true,Bool.false_eq_true,if_false];omega) hd hid;obtain⟨W3,hW3⟩:∃ W3,World.setCell W1 ⟨v.ptr s.id,2,none⟩ (.int .i64 (to:Int))=W3:=⟨_,rfl⟩;have S3:=SW1.setObj (HW1.st hn) 2 (.int .i64 (to:Int));rw[zav,hW3] at S3;have H3:=HW1.scalS (n:=s.id) (s:=s) hn { s with state:=to } rfl rfl rfl rfl rfl rfl rfl;rw[hW3] at hr hL;have hn3:=setS1 ({ d with tCount:=d.tCount-1 }:Ds) s.id { s with state:=to };have g1:=H3.s1 S3 hn3;dsimp only at g1;rw[hm] at g1;simp only[Bool.false_eq_true,if_false] at g1;have g0:=H3.s0 S3 hn3;have g5:=H3.s5 S3 hn3;rw[hV] at g5;have gm:W3.cell? ⟨g,9,none⟩=some (.map (some v.gt)):=H3.c9 S3;have HL:=hide hL;have h8b:((to:Int) == 8)=true:=by simp;omega
     clear hL hd hh hc ht h8 hnilH
     go_enter Tryz.func129,Tryz.ntmps129
     go_wp2_with fail
     refine kc.mono ?_;rintro e w1 ⟨rfl,hw⟩;replace hw:=hw.symm;subst hw
     go_wp2_with fail
     refine(kt).mono ?_;rintro e w1 ⟨rfl,hw⟩;replace hw:=hw.symm;subst hw
     go_wp2
     go_region
     all_goals
      go_wp2
      go_end0
      exact⟨rfl,HL.out⟩
    ·have hd:(to == 8 && s.headers.isEmpty)=false:=by simp[hh]
     have hpos:0<s.headers.length:=List.length_pos_iff.2 hh;obtain⟨a5,o5,k5,e5,-⟩:=zdk (hs.get (h.hdr hn)) hpos;have h8b:((to:Int) == 8)=true:=by simp;omega
     have L:=hide (zfm hn hm SW1 HW1 ((SameD.refl nm own).upd _ _) (x:=d.tCount-1) (to:=to) (by simp only[Ds.shift,hc,ht,if_true,Bool.false_eq_true,if_false];omega) hd);clear hd;obtain⟨W3,hW3⟩:∃ W3,World.setCell W1 ⟨v.ptr s.id,2,none⟩ (.int .i64 (to:Int))=W3:=⟨_,rfl⟩;have S3:=SW1.setObj (HW1.st hn) 2 (.int .i64 (to:Int));rw[zav,hW3] at S3;have H3:=HW1.scalS (n:=s.id) (s:=s) hn { s with state:=to } rfl rfl rfl rfl rfl rfl rfl;have hn3:=setS1 ({ d with tCount:=d.tCount-1 }:Ds) s.id { s with state:=to };have g5:=H3.s5 S3 hn3;rw[e5] at g5;rw[hW3] at L;clear hh hc ht h8 hnilH
     go_enter Tryz.func129,Tryz.ntmps129
     go_wp2_with fail
     refine kc.mono ?_;rintro e w1 ⟨rfl,hw⟩;replace hw:=hw.symm;subst hw
     go_wp2_with fail
     refine(kt).mono ?_;rintro e w1 ⟨rfl,hw⟩;replace hw:=hw.symm;subst hw
     go_wp2
     go_end0
     exact⟨rfl,L.out⟩
   ·have h8b:((to:Int) == 8)=false:=by simp;omega
    have hd:(to == 8 && s.headers.isEmpty)=false:=by simp[h8]
    have L:=hide (zfm hn hm SW1 HW1 ((SameD.refl nm own).upd _ _) (x:=d.tCount-1) (to:=to) (by simp only[Ds.shift,hc,ht,if_true,Bool.false_eq_true,if_false];omega) hd);clear hd;clear hc ht h8 hnilH
    go_enter Tryz.func129,Tryz.ntmps129
    go_wp2_with fail
    refine kc.mono ?_;rintro e w1 ⟨rfl,hw⟩;replace hw:=hw.symm;subst hw
    go_wp2_with fail
    refine(kt).mono ?_;rintro e w1 ⟨rfl,hw⟩;replace hw:=hw.symm;subst hw
    go_wp2
    go_end0
    exact⟨rfl,L.out⟩
 | false =>
  cases ht:stCounts to with
  | true =>
   obtain⟨W2,hW2⟩:∃ W,World.setCell w ⟨g,8,none⟩ (.int .i64 (d.tCount+1))=W:=⟨_,rfl⟩;have SW2:=hs.setObj h.conn 8 (.int .i64 (d.tCount+1));rw[zgi,hW2] at SW2;have HW2:=DevAt.scal (d':={ d with tCount:=d.tCount+1 }) h rfl rfl rfl rfl rfl;have f1W2:World.cell? W2 ⟨v.ptr s.id,1,none⟩=some (.pointer (some ⟨g,5,none⟩)):=by rw[HW2.s1 SW2 hn,hm];rfl
   have fcW2:=HW2.c8 SW2;have f5W2:=HW2.s5 SW2 hn;have tcW2:=HW2.thaw SW2 8;have t2W2:=HW2.sthaw SW2 hn 2;have f2W2:=HW2.s2 SW2 hn;have kt:=zat to hto w;rw[ht] at kt;rw[hc] at kc;have h8:¬ to=8:=fun e=>by rw[e] at ht;simp[stCounts] at ht
   have h8b:((to:Int) == 8)=false:=by simp;omega
   have hd:(to == 8 && s.headers.isEmpty)=false:=by simp[h8]
   have L:=hide (zfm hn hm SW2 HW2 ((SameD.refl nm own).upd _ _) (x:=d.tCount+1) (to:=to) (by simp only[Ds.shift,hc,ht,if_true,Bool.false_eq_true,if_false];omega) hd);clear hd;clear hc ht h8 hnilH
   go_enter Tryz.func129,Tryz.ntmps129
   go_wp2_with fail
   refine kc.mono ?_;rintro e w1 ⟨rfl,hw⟩;replace hw:=hw.symm;subst hw
   go_wp2_with fail
   refine(kt).mono ?_;rintro e w1 ⟨rfl,hw⟩;replace hw:=hw.symm;subst hw
   go_wp2
   go_end0
   exact⟨rfl,L.out⟩
  | false =>
   have kt:=zat to hto w;rw[ht] at kt;rw[hc] at kc;by_cases h8:to=8
   ·by_cases hh:s.headers=[]
    ·have hd:(to == 8 && s.headers.isEmpty)=true:=by simp[h8,hh]
     have hV:=hnilH hh;obtain⟨es',hr,hL⟩:=zxr hn hm hs (by exact h) (SameD.refl nm own) (x:=d.tCount) (to:=to) (by simp only[Ds.shift,hc,ht,Bool.false_eq_true,if_false];omega) hd hid;obtain⟨W3,hW3⟩:∃ W3,World.setCell w ⟨v.ptr s.id,2,none⟩ (.int .i64 (to:Int))=W3:=⟨_,rfl⟩;have S3:=hs.setObj (h.st hn) 2 (.int .i64 (to:Int));rw[zav,hW3] at S3;have H3:=h.scalS (n:=s.id) (s:=s) hn { s with state:=to } rfl rfl rfl rfl rfl rfl rfl;rw[hW3] at hr hL;have hn3:=setS1 d s.id { s with state:=to };have g1:=H3.s1 S3 hn3;dsimp only at g1;rw[hm] at g1;simp only[Bool.false_eq_true,if_false] at g1;have g0:=H3.s0 S3 hn3;have g5:=H3.s5 S3 hn3;rw[hV] at g5;have gm:W3.cell? ⟨g,9,none⟩=some (.map (some v.gt)):=H3.c9 S3;have HL:=hide hL;have h8b:((to:Int) == 8)=true:=by simp;omega
     clear hL hd hh hc ht h8 hnilH
     go_enter Tryz.func129,Tryz.ntmps129
     go_wp2_with fail
     refine kc.mono ?_;rintro e w1 ⟨rfl,hw⟩;replace hw:=hw.symm;subst hw
     go_wp2_with fail
     refine(kt).mono ?_;rintro e w1 ⟨rfl,hw⟩;replace hw:=hw.symm;subst hw
     go_wp2
     go_region
     all_goals
      go_wp2
      go_end0
      exact⟨rfl,HL.out⟩
    ·have hd:(to == 8 && s.headers.isEmpty)=false:=by simp[hh]
     have hpos:0<s.headers.length:=List.length_pos_iff.2 hh;obtain⟨a5,o5,k5,e5,-⟩:=zdk (hs.get (h.hdr hn)) hpos;have h8b:((to:Int) == 8)=true:=by simp;omega
     have L:=hide (zfm hn hm hs (by exact h) (SameD.refl nm own) (x:=d.tCount) (to:=to) (by simp only[Ds.shift,hc,ht,Bool.false_eq_true,if_false];omega) hd);clear hd;obtain⟨W3,hW3⟩:∃ W3,World.setCell w ⟨v.ptr s.id,2,none⟩ (.int .i64 (to:Int))=W3:=⟨_,rfl⟩;have S3:=hs.setObj (h.st hn) 2 (.int .i64 (to:Int));rw[zav,hW3] at S3;have H3:=h.scalS (n:=s.id) (s:=s) hn { s with state:=to } rfl rfl rfl rfl rfl rfl rfl;have hn3:=setS1 d s.id { s with state:=to };have g5:=H3.s5 S3 hn3;rw[e5] at g5;rw[hW3] at L;clear hh hc ht h8 hnilH
     go_enter Tryz.func129,Tryz.ntmps129
     go_wp2_with fail
     refine kc.mono ?_;rintro e w1 ⟨rfl,hw⟩;replace hw:=hw.symm;subst hw
     go_wp2_with fail
     refine(kt).mono ?_;rintro e w1 ⟨rfl,hw⟩;replace hw:=hw.symm;subst hw
     go_wp2
     go_end0
     exact⟨rfl,L.out⟩
   ·have h8b:((to:Int) == 8)=false:=by simp;omega
    have hd:(to == 8 && s.headers.isEmpty)=false:=by simp[h8]
    have L:=hide (zfm hn hm hs (by exact h) (SameD.refl nm own) (x:=d.tCount) (to:=to) (by simp only[Ds.shift,hc,ht,Bool.false_eq_true,if_false];omega) hd);clear hd;clear hc ht h8 hnilH
    go_enter Tryz.func129,Tryz.ntmps129
    go_wp2_with fail
    refine kc.mono ?_;rintro e w1 ⟨rfl,hw⟩;replace hw:=hw.symm;subst hw
    go_wp2_with fail
    refine(kt).mono ?_;rintro e w1 ⟨rfl,hw⟩;replace hw:=hw.symm;subst hw
    go_wp2
    go_end0
    exact⟨rfl,L.out⟩
theorem zaz (h:DevAt own nm g d v) (hs:Sep wb w own) (hf:d.Fits 1) {s:DS} (hn:d.str s.id=some s) (to:Nat) (hto:to≤8) :
  Calls Tryz.prog 129 #[.pointer (some ⟨v.ptr s.id,0,none⟩),.int .i64 (to:Int)] w fun e w'=>e = .returned (.tuple #[])∧LeftD nm g wb own d v w' (d.move s to):=by
 cases hm:s.mine with
 | true=>exact zzbdl h hs hf hn hm to hto
 | false=>exact zzbdm h hs hf hn hm to hto
end
end Go.Proofs.YtoijpogadkogcaaGreat
