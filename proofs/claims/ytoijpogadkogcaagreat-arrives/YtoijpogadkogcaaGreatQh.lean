import Derived.Test.YtoijpogadkogcaaGreatQg
namespace Go.Proofs.YtoijpogadkogcaaGreat
open Go.RowKit
set_option maxRecDepth 100000
section
variable {N:Type} {own:N->Res} {nm:DN->N} {g:Nat} {d:Ds} {v:DV} {wb w:World}
theorem zhi(h:zaa own nm g d v){id:Int}{s:DS}(hr:d.real id=some s):d.str s.id=some s:=by
 unfold Ds.real at hr;cases hsd:d.side id with
 | none=>rw[hsd] at hr;cases hr
 | some m =>
  rw[hsd] at hr;dsimp only at hr;split at hr
  ·unfold Ds.held at hr;cases hx:d.str id.toNat with
   | none=>rw[hx] at hr;cases hr
   | some t =>
    rw[hx] at hr;dsimp only at hr;split at hr
    ·cases hr
     rw[h.wf.ids _ _ hx];exact hx
    ·cases hr
  ·cases hr
theorem zfe{d:Ds}{id:Int}{s:DS}(hr:d.real id=some s):d.find id=s:=by unfold Ds.find;rw[hr]
theorem zhq{d:Ds}{id:Int}(hr:d.real id=none):d.find id = { state:=if d.known id then 8 else 0 }:=by unfold Ds.find;rw[hr];dsimp only;split<;>rfl
theorem zer(h:zaa own nm g d v)(hs:Sep wb w own){id:Int}(h1:-9223372036854775808<=id)(h2:id<=9223372036854775807){s:DS}(hr:d.real id=some s) :
  Calls Tryz.prog 39 #[.pointer (some ⟨g,0,none⟩),.int .i64 id] w λe w'=>e = .returned (.pointer (some ⟨v.ptr s.id,0,none⟩))/\w'=w:=by
 refine(ztm h hs id h1 h2).mono ?_;rintro e w' ⟨p,rfl,hF⟩;rcases hF with ⟨t,ht,_,rfl,hw⟩ | ⟨ht,_,_⟩
 ·rw[hr] at ht;cases ht;exact⟨rfl,hw⟩
 ·rw[hr] at ht;cases ht
theorem zdx(h:zaa own nm g d v)(hs:Sep wb w own){id:Int}(h1:-9223372036854775808<=id)(h2:id<=9223372036854775807)(hr:d.real id=none){z:Nat}(hz:(if d.known id then 8 else 0)=z){W1:World}(hW:w.alloc (.cells (zcl z) 94)=W1) :
  Calls Tryz.prog 39 #[.pointer (some ⟨g,0,none⟩),.int .i64 id] w λe w'=>e = .returned (.pointer (some ⟨w.heap.size,0,none⟩))/\w'=W1:=by
 refine(ztm h hs id h1 h2).mono ?_;rintro e w' ⟨p,rfl,hF⟩;rcases hF with ⟨t,ht,_,rfl,hw⟩ | ⟨_,rfl,rfl⟩
 ·rw[hr] at ht;cases ht
 ·subst hz;subst hW;exact⟨rfl,rfl⟩
theorem zmn(w:World)(z:Nat){W1:World}(hW:w.alloc (.cells (zcl z) 94)=W1) :
  Ext w W1/\W1.cell? ⟨w.heap.size,2,none⟩=some (.int .i64 (z:Int))/\W1.cell? ⟨w.heap.size,8,none⟩=some (.bool false)/\W1.cell? ⟨w.heap.size,0,none⟩=some (.int .i64 0):=by
 subst hW;refine⟨(Ext.refl w).alloc _,?_,?_,?_⟩<;>simp[zcl]
theorem zkg(d:Ds)(id:Int):∃ z,(if d.known id then 8 else 0)=z/\(z=0\/z=8):=by refine⟨_,rfl,?_⟩;split<;>simp
end
def DS.clr(s:DS):DS:={ s with block:=[],data:=[] }
def Ds.clearTo(d:Ds)(k:Nat):Ds:={ d with failed:=true,str:=λn=>if (d.ring.take k).contains n then (d.str n).map DS.clr else d.str n }
theorem zys(d:Ds):d.clearTo 0 = { d with failed:=true }:=by unfold Ds.clearTo;simp
theorem zyt(d:Ds)(k:Nat)(hk:k<d.ring.length)(s:DS)(hs:(d.clearTo k).str (d.ring.getD k 0)=some s):d.clearTo (k+1)=(d.clearTo k).setS (d.ring.getD k 0) s.clr:=by
 unfold Ds.clearTo Ds.setS;dsimp only;congr 1;funext n
 have e1:d.ring.take (k+1)=d.ring.take k++[d.ring.getD k 0]:=by rw[List.take_add_one,List.getElem?_eq_getElem hk,List.getD_eq_getElem?_getD,List.getElem?_eq_getElem hk];rfl
 rw[e1];have hs':(if (d.ring.take k).contains (d.ring.getD k 0) then (d.str (d.ring.getD k 0)).map DS.clr else d.str (d.ring.getD k 0))=some s:=hs;generalize d.ring.getD k 0=z at *;generalize d.ring.take k=l at *;by_cases en:n=z
 ·subst en;rw[if_pos (by simp),if_pos rfl];cases hd:d.str n with
  | none=>rw[hd] at hs';simp at hs'
  | some t =>
   rw[hd] at hs';by_cases hc:l.contains n=true
   ·rw[if_pos hc] at hs';cases hs'
    rfl
   ·rw[if_neg hc] at hs';cases hs'
    rfl
 ·rw[if_neg en]
  have:(l++[z]).contains n=l.contains n:=by rw[Bool.eq_iff_iff,List.contains_iff_mem,List.contains_iff_mem,List.mem_append,List.mem_singleton];exact⟨λh=>h.elim id (λe=>absurd e en),.inl⟩
  rw[this]
theorem zpf(d:Ds)(k n:Nat):((d.clearTo k).str n).isSome=(d.str n).isSome:=by
 unfold Ds.clearTo;dsimp only;split
 ·cases d.str n<;>rfl
 ·rfl
theorem zzbky(d:Ds)(code:Nat):d.fail code=(({ d.clearTo d.ring.length with ring:=[],inn:=[],coming:=none }:Ds).layAway code).tell 6 0 code:=by unfold Ds.fail Ds.clearTo;rw[List.take_length];rfl
theorem Ds.Fits.clearTo{d:Ds}{m:Nat}(h:d.Fits m)(k:Nat):(d.clearTo k).Fits m :=
 ⟨h.mLast,h.tLast,h.mMost,h.tMost,h.mCount0,h.mCount1,h.tCount0,h.tCount1,h.from0,h.from1,h.to0,h.to1,h.ctl,h.ring,h.ev,h.inn,h.pings,h.coming,h.bodies,λn s hs=>by
  have hs':(if (d.ring.take k).contains n then (d.str n).map DS.clr else d.str n)=some s:=hs;split at hs'
  ·cases hd:d.str n with
   | none=>rw[hd] at hs';cases hs'
   | some t=>rw[hd] at hs';cases hs';exact(h.st n t hd).clear
  ·exact h.st n s hs'⟩
section
variable {N:Type} {own:N->Res} {nm:DN->N} {g:Nat} {d:Ds} {v:DV} {wb w:World}
theorem zyu(d:Ds)(v:DV):(zbc d v).setIfInBounds 20 (.bool true)=zbc { d with failed:=true } v:=rfl
theorem zaa.setIn(h:zaa own nm g d v)(b:Bytes)(x:Value) :
  zaa (upd own (nm .conn) (.obj g (.cells ((zbc d v).setIfInBounds 15 x) 105 (0,0)))) nm g { d with inn:=b } { v with vI:=x }:=by
 refine⟨h.inj,λy => ?_,h.frl,h.mapM,h.mapT,⟨h.wf.ids,h.wf.rings⟩,h.nilB,h.nilH⟩;rw[zad h.inj,h.res];cases y<;>simp only[zao,reduceCtorEq,if_false,if_true]
 rfl
theorem zaa.noComing(h:zaa own nm g d v) :
  zaa (upd (upd (upd own (nm .blk) .none) (nm .blkb) .none) (nm .conn) (.obj g (.cells ((zbc d v).setIfInBounds 16 (.pointer none)) 105 (0,0)))) nm g { d with coming:=none } v:=by
 refine⟨h.inj,λy => ?_,h.frl,h.mapM,h.mapT,⟨h.wf.ids,h.wf.rings⟩,h.nilB,h.nilH⟩;rw[zad h.inj,zad h.inj,zad h.inj,h.res];cases y<;>simp only[zao,reduceCtorEq,if_false,if_true]
 rfl
theorem zaa.letGo(h:zaa own nm g d v)(hs:Sep wb w own) :
  ∃ own',Sep wb (((w.setCell ⟨g,13,none⟩ (.slice none 0 0)).setCell ⟨g,15,none⟩ (.slice none 0 0)).setCell ⟨g,16,none⟩ (.pointer none)) own' /\
   zaa own' nm g { d with ring:=[],inn:=[],coming:=none } { v with vR:=.slice none 0 0,vI:=.slice none 0 0 }/\zai nm own own':=by
 have s1:=hs.nilRow (nm .ring) 87 1;have c1:=(zad h.inj own .ring .conn (.row 87 1 (.slice none 0 0) 0 [])).trans ((if_neg (by simp)).trans h.conn);have s2:=s1.setObj c1 13 (.slice none 0 0);have h2:=h.setRing [] (.slice none 0 0) (λn hn=>by cases hn);have s3:=s2.setObj h2.conn 15 (.slice none 0 0);have h3:=h2.setIn [] (.slice none 0 0);have s4:=(s3.drop (nm .blk)).drop (nm .blkb);have c4:=(zad h.inj (upd _ (nm .blk) .none) .blkb .conn .none).trans ((if_neg (by simp)).trans ((zad h.inj _ .blk .conn .none).trans ((if_neg (by simp)).trans h3.conn)));have s5:=s4.setObj c4 16 (.pointer none);have h5:=h3.noComing;exact⟨_,s5,h5,(((((((zai.refl nm own).upd _ _).upd _ _).upd _ _).upd _ _).upd _ _).upd _ _)⟩
set_option maxHeartbeats 3200000 in
theorem zaq(h:zaa own nm g d v)(hs:Sep wb w own)(hf:d.Fits 2)(code:Nat) :
  Calls Tryz.prog 52 #[.pointer (some ⟨g,0,none⟩),.int .i64 (code:Int)] w λe w'=>e = .returned (.tuple #[])/\zaf nm g wb own d v w' (d.fail code):=by
 rw[zzbky];have q:=hf.ring;have t20:=h.thaw hs 20;have f20:=h.c20 hs;have S1:=hs.setObj h.conn 20 (.bool true);rw[zyu] at S1;have H1:=zaa.scal (d':={ d with failed:=true }) h rfl rfl rfl rfl rfl;rw[<-zys] at S1 H1;obtain⟨W1,hW1⟩:∃ W1,World.setCell w ⟨g,20,none⟩ (.bool true)=W1:=⟨_,rfl⟩;rw[hW1] at S1;have g13:W1.cell? ⟨g,13,none⟩=some v.vR:=H1.c13 S1;obtain⟨aR,cR,hR,hR1,hR2⟩:=(h.rowR hs).slice;rw[hR] at g13;have HR:=hide hR;clear hR;unfold maxLen at hR2;have hring:∀ k,k<d.ring.length -> ∃ s,d.str (d.ring.getD k 0)=some s:=λk hk=>h.wf.rings _ (by rw[List.getD_eq_getElem?_getD,List.getElem?_eq_getElem hk];exact List.getElem_mem _)
 have HRG:=hide hring;clear hring;have E1:zai nm own (upd own (nm .conn) (.obj g (.cells (zbc (d.clearTo 0) v) 105 (0,0)))):=(zai.refl nm own).upd _ _
 go_enter Tryz.func52,Tryz.ntmps52
 go_wp2
 go_loopw [14] (λi wr => ∃ k:Nat,k<=d.ring.length/\i = .int .i64 k/\Hid (∃ own' v',Sep wb wr own'/\zaa own' nm g (d.clearTo k) v'/\zai nm own own'/\v'.rp=v.rp/\v'.vR=v.vR/\v'.ptr=v.ptr)) (λi _=>d.ring.length-(intOf i).toNat)
 case atStart=>exact⟨0,Nat.zero_le _,rfl,_,v,S1,H1,E1,rfl,rfl,rfl⟩
 case round =>
  obtain⟨k,hk,rfl,HI⟩:=hrel;obtain⟨own2,v2,S2,H2,E2,r2,vr2,p2⟩:=HI.out;by_cases hlt:k<d.ring.length
  ·obtain⟨s0,hs0⟩:=HRG.out k hlt;have hsm:((d.clearTo k).str (d.ring.getD k 0)).isSome=true:=by rw[zpf,hs0];rfl
   obtain⟨s,hst⟩:=Option.isSome_iff_exists.1 hsm;have hid:=H2.wf.ids _ _ hst;have hst':(d.clearTo k).str s.id=some s:=by rw[hid];exact hst
   obtain⟨own3,S3,H3,E3⟩:=H2.clearBD S2 hst';have hrow:=H2.rowR S2;rw[vr2,p2] at hrow;obtain⟨a',o',cap',e1,_,_,hcell⟩:=hrow.at (show 0<d.ring.length by omega);have e1':=HR.out.symm.trans e1;simp only[Value.slice.injEq] at e1';obtain⟨rfl,_,rfl⟩:=e1';have hc:wr.cell? ⟨a',o'+k,none⟩=some (.pointer (some ⟨v.ptr s.id,0,none⟩)):=by rw[hcell k (show k<d.ring.length*1 by omega)];exact(zeq d.ring v.ptr k hlt).trans (by rw[hid])
   have t6:=H2.sthaw S2 hst' 6;have t7:(wr.setCell ⟨v.ptr s.id,6,none⟩ (.slice none 0 0)).frozen? ⟨v.ptr s.id,7,none⟩=false:=by
    have:=(S2.setObj (H2.st hst') 6 (.slice none 0 0)).thaw (zag _ _ _) 7
    rw[p2] at this;exact this
   have f6:=H2.s6 S2 hst';have f7:=H2.s7 S2 hst';rw[p2] at t6 f6 f7 S3;have HN:Hid (∃ own' v',Sep wb ((wr.setCell ⟨v.ptr s.id,6,none⟩ (.slice none 0 0)).setCell ⟨v.ptr s.id,7,none⟩ (.slice none 0 0)) own'/\zaa own' nm g (d.clearTo (k+1)) v'/\zai nm own own'/\v'.rp=v.rp/\v'.vR=v.vR/\v'.ptr=v.ptr):=by
    have e:(d.clearTo k).setS s.id { s with block:=[],data:=[] }=d.clearTo (k+1):=by
     show (d.clearTo k).setS s.id s.clr=_
     rw[zyt d k hlt s hst,hid]
    rw[e] at H3;exact⟨own3,_,S3,H3,E2.trans E3,r2,vr2,p2⟩
   clear S2 H2 S3 H3 hcell hrow;generalize v.ptr s.id=z at *
   go_wp2
   go_roundw
   case rel=>exact⟨k+1,by omega,by go_num,HN.out⟩
   case measure=>simp[intOf];omega
  ·have hkn:k=d.ring.length:=by omega
   subst hkn;obtain⟨own3,S3,H3,E3⟩:=H2.letGo S2;have F3:Ds.Fits ({ d.clearTo d.ring.length with ring:=[],inn:=[],coming:=none }:Ds) 2:=by have g:=hf.clearTo d.ring.length;exact⟨g.mLast,g.tLast,g.mMost,g.tMost,g.mCount0,g.mCount1,g.tCount0,g.tCount1,g.from0,g.from1,g.to0,g.to1,g.ctl,by show 0+1000*2<=_;omega,g.ev,Nat.zero_le _,g.pings,λi e b hc=>by (cases hc),g.bodies,g.st⟩
   have kl:=zxs H3 S3 (F3.mono (by omega)) code;have F4:(Ds.layAway ({ d.clearTo d.ring.length with ring:=[],inn:=[],coming:=none }:Ds) code).Fits 1:=F3.lay _ _ _ _ (by simp[two]) (by omega);have t13:=H2.thaw S2 13;have t15:∀ x,(wr.setCell ⟨g,13,none⟩ x).frozen? ⟨g,15,none⟩=false:=λx=>(S2.setObj H2.conn 13 x).thaw (zag _ _ _) 15;have t16:∀ x y,((wr.setCell ⟨g,13,none⟩ x).setCell ⟨g,15,none⟩ y).frozen? ⟨g,16,none⟩=false:=λx y=>((S2.setObj H2.conn 13 x).setObj (zag _ _ _) 15 y).thaw (zag _ _ _) 16;have g13':=H2.c13 S2;have g15':=H2.c15 S2;have g16':=H2.c16 S2;have E4:=E2.trans E3;have HPT:Hid (∀ n,(d.str n).isSome=true->v2.ptr n=v.ptr n/\((d.clearTo d.ring.length).str n).isSome=true):=λn hn=>⟨by rw[p2],by rw[zpf];exact hn⟩
   clear S2 H2 S3 H3
   go_wp2_with fail
   refine kl.mono ?_;rintro e w2 ⟨rfl,own5,v5,S5,H5,E5,r5,i5,p5⟩;have kt:=zgq H5 S5 F4 6 0 code;clear S5 H5
   go_wp2_with fail
   refine kt.mono ?_;rintro e w3 ⟨rfl,hL⟩;have HL:=hide (hL.trans (own:=own) (d:=d) (v:=v) (E4.trans E5) (r5.trans r2) (λhx=>by cases hx) (λn hn=>⟨(p5 n (HPT.out n hn).2).1.trans (HPT.out n hn).1,(p5 n (HPT.out n hn).2).2⟩));clear hL
   go_wp2
   go_end0
   exact⟨rfl,HL.out⟩
end
theorem and_1(f:Nat)(h:f<=255):bits BinOp.and IntKind.i64 (f:Int) 1=((f%2:Nat):Int):=by
 have:∀ k:Fin 256,bits BinOp.and IntKind.i64 ((k.val:Nat):Int) 1=((k.val%2:Nat):Int):=by decide +kernel
 exact this ⟨f,by omega⟩
theorem and_2(f:Nat)(h:f<=255):bits BinOp.and IntKind.i64 (f:Int) 2=((2*(f/2%2):Nat):Int):=by
 have:∀ k:Fin 256,bits BinOp.and IntKind.i64 ((k.val:Nat):Int) 2=((2*(k.val/2%2):Nat):Int):=by decide +kernel
 exact this ⟨f,by omega⟩
theorem zzbmq(x y:Nat)(hx:x<=255)(hy:y<=255):bits BinOp.or IntKind.i64 ((x:Int)*256) (y:Int)=((x*256+y:Nat):Int):=by
 have e1:BitVec.ofInt 64 ((x:Int)*256)=BitVec.ofNat 64 (x*256):=by rw[show (x:Int)*256=((x*256:Nat):Int) by omega];exact BitVec.ofInt_natCast _ _
 have e2:BitVec.ofInt 64 (y:Int)=BitVec.ofNat 64 y:=BitVec.ofInt_natCast _ _;have e3:(BitVec.ofNat 64 (x*256) ||| BitVec.ofNat 64 y).toNat=x*256+y:=by
  rw[BitVec.toNat_or,BitVec.toNat_ofNat,BitVec.toNat_ofNat,Nat.mod_eq_of_lt (by omega),Nat.mod_eq_of_lt (by omega)]
  have:=Nat.two_pow_add_eq_or_of_lt (b:=y) (i:=8) (by omega) x
  rw[show 2 ^ 8*x=x*256 by omega] at this;exact this.symm
 show IntKind.i64.wrap ((BitVec.ofInt 64 ((x:Int)*256) ||| BitVec.ofInt 64 (y:Int)).toNat:Int)=_
 rw[e1,e2,e3,zhh _ (by omega) (by omega)]
set_option maxHeartbeats 1600000 in
theorem zip(w:World)(kind flags id:Nat)(a:Option Addr)(n k:Nat)(hfl:flags<=255) :
  Calls Tryz.prog 137 #[.agg #[.int .i64 (kind:Int),.int .i64 (flags:Int),.int .i64 (id:Int),.slice a n k],.int .i64 1] w λe w'=>e = .returned (.bool (flags%2 == 1))/\Ext w w':=by
 have ha:=and_1 flags hfl;have HB:Hid ((((flags%2:Nat):Int) != 0)=(flags%2 == 1)):=by show _=_;rw[Bool.eq_iff_iff];simp;omega
 go_enter Tryz.func137,Tryz.ntmps137
 go_wp2
 go_ret
 exact⟨zcj HB.out,(Ext.refl w).alloc _⟩
set_option maxHeartbeats 1600000 in
theorem zzbkz(w:World)(kind flags id:Nat)(a:Option Addr)(n k:Nat)(hfl:flags<=255) :
  Calls Tryz.prog 137 #[.agg #[.int .i64 (kind:Int),.int .i64 (flags:Int),.int .i64 (id:Int),.slice a n k],.int .i64 2] w λe w'=>e = .returned (.bool (flags/2%2 == 1))/\Ext w w':=by
 have ha:=and_2 flags hfl;have HB:Hid ((((2*(flags/2%2):Nat):Int) != 0)=(flags/2%2 == 1)):=by show _=_;rw[Bool.eq_iff_iff];simp;omega
 generalize 2*(flags/2%2)=z at *
 go_enter Tryz.func137,Tryz.ntmps137
 go_wp2
 go_ret
 exact⟨zcj HB.out,(Ext.refl w).alloc _⟩
set_option maxHeartbeats 1600000 in
theorem zde(w:World)(vb:Value)(b:Bytes)(hb:zae w vb b)(hn:2<=b.length) :
  Calls Tryz.prog 91 #[vb] w λe w'=>e = .returned (.int .i64 (Cs.num b 0:Int))/\Ext w w':=by
 obtain⟨a,k,rfl,hc1,hc2,h3⟩:=hb;rcases h3 with h3 | ⟨g,o,rfl,hc⟩
 ·rw[h3] at hn;simp at hn
 ·have h0:=hc 0 (by omega);have h1:=hc 1 (by omega);rw[Nat.add_zero] at h0;have hx:(b.getD 0 0).toNat<=255:=by have:=(b.getD 0 0).toNat_lt;omega
  have hy:(b.getD 1 0).toNat<=255:=by have:=(b.getD 1 0).toNat_lt;omega
  have ho:=zzbmq _ _ hx hy;have HR:Hid ((((b.getD 0 0).toNat*256+(b.getD 1 0).toNat:Nat):Int)=(Cs.num b 0:Int)):=rfl;clear hc;generalize (b.getD 0 0).toNat=x at *;generalize (b.getD 1 0).toNat=y at *;have b0:(0:Int)<(b.length:Int):=by omega
  have b1:(1:Int)<(b.length:Int):=by omega
  have hc3:(b.length:Int)<=9223372036854775807:=by unfold maxLen at hc2;omega
  go_enter Tryz.func91,Tryz.ntmps91
  go_wp2
  go_quiet (fail)
  go_wp2
  go_ret
  exact⟨zdr HR.out,zay w nq⟩
section
variable {N:Type} {own:N->Res} {nm:DN->N} {g:Nat} {d:Ds} {v:DV} {wb w:World}
set_option maxHeartbeats 1600000 in
theorem ztr(h:zaa own nm g d v)(hs:Sep wb w own)(n:Nat)(hlt:d.to_<n) :
  Calls Tryz.prog 135 #[.pointer (some ⟨g,10,none⟩),.int .i64 (n:Int)] w λe w'=>e = .returned (.bool false)/\w'=w:=by
 have f11:=h.c11 hs
 go_enter Tryz.func135,Tryz.ntmps135
 go_wp2
 go_ret
 exact⟨rfl,rfl⟩
set_option maxHeartbeats 1600000 in
theorem zrd(h:zaa own nm g d v)(hs:Sep wb w own){m:Nat}(hf:d.Fits m)(n:Nat)(hle:(n:Int)<=d.to_) :
  Calls Tryz.prog 135 #[.pointer (some ⟨g,10,none⟩),.int .i64 (n:Int)] w λe w'=>e = .returned (.bool true)/\w'=w.setCell ⟨g,11,none⟩ (.int .i64 (d.to_-n)):=by
 have f11:=h.c11 hs;have t11:=h.thaw hs 11;have q1:=hf.to1
 go_enter Tryz.func135,Tryz.ntmps135
 go_wp2
 go_ret
 exact⟨rfl,rfl⟩
set_option maxHeartbeats 1600000 in
theorem zzbek(h:zaa own nm g d v)(hs:Sep wb w own){s:DS}(hst:d.str s.id=some s)(n:Nat)(hlt:s.to_<n) :
  Calls Tryz.prog 135 #[.pointer (some ⟨v.ptr s.id,3,none⟩),.int .i64 (n:Int)] w λe w'=>e = .returned (.bool false)/\w'=w:=by
 have f4:=h.s4 hs hst
 go_enter Tryz.func135,Tryz.ntmps135
 go_wp2
 go_ret
 exact⟨rfl,rfl⟩
set_option maxHeartbeats 1600000 in
theorem zzbbm(h:zaa own nm g d v)(hs:Sep wb w own){s:DS}(hst:d.str s.id=some s)(fs:s.Fits)(n:Nat)(hle:(n:Int)<=s.to_) :
  Calls Tryz.prog 135 #[.pointer (some ⟨v.ptr s.id,3,none⟩),.int .i64 (n:Int)] w λe w'=>e = .returned (.bool true)/\w'=w.setCell ⟨v.ptr s.id,4,none⟩ (.int .i64 (s.to_-n)):=by
 have f4:=h.s4 hs hst;have t4:=h.sthaw hs hst 4;have q0:=fs.to0;have q1:=fs.to1
 go_enter Tryz.func135,Tryz.ntmps135
 go_wp2
 go_ret
 exact⟨rfl,rfl⟩
theorem zhz(d:Ds)(s:DS):(d.endThere s).failed=d.failed:=by unfold Ds.endThere;split;exact zma _ _ _;rfl
theorem zyv(d:Ds)(s:DS)(hst:d.str s.id=some s):∃ t,(d.endThere s).str s.id=some t/\t.id=s.id:=by
 unfold Ds.endThere;split
 ·rename_i x hx;exact⟨_,zse d s x,rfl⟩
 ·exact⟨s,hst,rfl⟩
theorem zzbel(s:DS)(t:Nat)(h:Ds.thereTo s=some t):t<=8:=by
 unfold Ds.thereTo at h;split at h
 ·cases h;omega
 ·split at h
  ·cases h;omega
  ·split at h
   ·cases h;omega
   ·cases h
theorem Ds.Fits.endThere{d:Ds}{m:Nat}(h:d.Fits (m+1)){s:DS}(hs:s.Fits):(d.endThere s).Fits m:=by
 unfold Ds.endThere;split
 ·rename_i t ht;exact h.move hs (zzbel s t ht)
 ·exact h.mono (Nat.le_succ m)
set_option maxHeartbeats 1600000 in
theorem zon(h:zaa own nm g d v)(hs:Sep wb w own)(hf:d.Fits 2){s:DS}(hst:d.str s.id=some s) :
  Calls Tryz.prog 138 #[.pointer (some ⟨g,0,none⟩),.pointer (some ⟨v.ptr s.id,0,none⟩)] w λe w'=>e = .returned (.tuple #[])/\zaf nm g wb own d v w' (d.takeEnd s):=by
 have ke:=zml h hs (hf.mono (by omega)) hst;have F1:(d.endThere s).Fits 1:=hf.endThere (hf.st _ _ hst);obtain⟨t,ht,hti⟩:=zyv d s hst;have hfl:=zhz d s
 go_enter Tryz.func138,Tryz.ntmps138
 go_wp2_with fail
 refine ke.mono ?_;rintro e w2 ⟨rfl,own2,v2,S2,H2,E2,r2,i2,p2⟩;have hp:=(p2 s.id (by rw[hst];rfl)).1;have g0:=H2.s0 S2 ht;rw[hp,hti] at g0;have kt:=zgq H2 S2 F1 2 s.id 0;clear S2 H2
 go_wp2_with fail
 refine kt.mono ?_;rintro e w3 ⟨rfl,hL⟩;have HL:=hide (hL.trans (own:=own) (d:=d) (v:=v) E2 r2 i2 p2);clear hL
 go_wp2
 go_end0
 exact⟨rfl,HL.out⟩
theorem zjv(d:Ds)(v:DV)(x:Int):(zbc d v).setIfInBounds 10 (.int .i64 x)=zbc { d with from_:=x } v:=rfl
theorem zia(g:Nat)(s:DS)(v:DSV)(x:Int):(zba g s v).setIfInBounds 3 (.int .i64 x)=zba g { s with from_:=x } v:=rfl
set_option maxHeartbeats 1600000 in
theorem zyw(h:zaa own nm g d v)(hs:Sep wb w own)(hf:d.Fits 2)(n:Nat)(hn:n<=65535) :
  Calls Tryz.prog 140 #[.pointer (some ⟨g,0,none⟩),.pointer (some ⟨g,10,none⟩),.int .i64 (n:Int)] w λe w'=>e = .returned (.tuple #[])/\zaf nm g wb own d v w' (if 1000<d.from_+n then d.fail 2 else { d with from_:=d.from_+n }):=by
 have f10:=h.c10 hs;have t10:=h.thaw hs 10;have q0:=hf.from0;have q1:=hf.from1;by_cases hlt:1000<d.from_+n
 ·rw[if_pos hlt];have kf:=zaq h hs hf 2
  go_enter Tryz.func140,Tryz.ntmps140
  go_wp2_with fail
  refine kf.mono ?_;rintro e w1 ⟨rfl,hL⟩
  go_wp2
  refine bodyPost_ret (results_none rfl _ _ _) rfl ?_;exact⟨rfl,hL⟩
 ·rw[if_neg hlt];have S1:=hs.setObj h.conn 10 (.int .i64 (d.from_+n));rw[zjv] at S1;have H1:=zaa.scal (d':={ d with from_:=d.from_+n }) h rfl rfl rfl rfl rfl
  go_enter Tryz.func140,Tryz.ntmps140
  go_wp2
  go_end0
  exact⟨rfl,_,v,S1,H1,(zai.refl nm own).upd _ _,rfl,λ_=>rfl,λ_ hn=>⟨rfl,hn⟩⟩
set_option maxHeartbeats 1600000 in
theorem zyx(h:zaa own nm g d v)(hs:Sep wb w own)(hf:d.Fits 2){s:DS}(hst:d.str s.id=some s)(n:Nat)(hn:n<=65535) :
  Calls Tryz.prog 140 #[.pointer (some ⟨g,0,none⟩),.pointer (some ⟨v.ptr s.id,3,none⟩),.int .i64 (n:Int)] w λe w'=>e = .returned (.tuple #[])/\zaf nm g wb own d v w' (if 1000<s.from_+n then d.fail 2 else d.setS s.id { s with from_:=s.from_+n }):=by
 have f3:=h.s3 hs hst;have t3:=h.sthaw hs hst 3;have fs:=hf.st _ _ hst;have q0:=fs.from0;have q1:=fs.from1;by_cases hlt:1000<s.from_+n
 ·rw[if_pos hlt];have kf:=zaq h hs hf 2
  go_enter Tryz.func140,Tryz.ntmps140
  go_wp2_with fail
  refine kf.mono ?_;rintro e w1 ⟨rfl,hL⟩
  go_wp2
  refine bodyPost_ret (results_none rfl _ _ _) rfl ?_;exact⟨rfl,hL⟩
 ·rw[if_neg hlt];have S1:=hs.setObj (h.st hst) 3 (.int .i64 (s.from_+n));rw[zia] at S1;have H1:=h.scalS hst { s with from_:=s.from_+n } rfl rfl rfl rfl rfl rfl rfl
  go_enter Tryz.func140,Tryz.ntmps140
  go_wp2
  go_end0
  exact⟨rfl,_,v,S1,H1,(zai.refl nm own).upd _ _,rfl,λ_=>rfl,λk hk=>⟨rfl,zbf d _ _ k hk⟩⟩
end
def lift{N:Type}(own:N->Res)(r:Res):Option N->Res
 | none=>r
 | some n=>own n
theorem Sep.liftObj{N:Type}{own:N->Res}{wb w:World}(h:Sep wb w own)(o:Obj):Sep wb (w.alloc o) (lift own (.obj w.heap.size o)):=by
 have e:Ext w (w.alloc o):=(Ext.refl w).alloc o;have h':=h.ext e;refine⟨h'.base,λn => ?_,λn m k hn hm => ?_,λn k hn => ?_⟩
 ·cases n with
  | none=>exact heap_alloc_new w o
  | some n=>exact h'.ok n
 ·cases n with
  | none =>
   cases m with
   | none=>rfl
   | some m=>have h1:k=w.heap.size:=hn;have:=(h.low m k hm).2;omega
  | some n =>
   cases m with
   | none=>have h1:k=w.heap.size:=hm;have:=(h.low n k hn).2;omega
   | some m=>rw[h.apart n m k hn hm]
 ·cases n with
  | none=>have h1:k=w.heap.size:=hn;exact⟨by have:=h.base.size;omega,by rw[h1];simp⟩
  | some n=>exact h'.low n k hn
theorem Sep.liftRow{N:Type}{own:N->Res}{wb w w':World}(h:Sep wb w own)(e:Ext w w'){T sz k:Nat}{y:Value}{xs:List Value}(ho:OwnAt w' T sz y k xs)(hf:∀ b,y.ownBlock=some b->w.heap.size<=b):Sep wb w' (lift own (.row T sz y k xs)):=by
 have h':=h.ext e;refine⟨h'.base,λn => ?_,λn m k hn hm => ?_,λn k hn => ?_⟩
 ·cases n with
  | none=>exact ho
  | some n=>exact h'.ok n
 ·cases n with
  | none =>
   cases m with
   | none=>rfl
   | some m=>have:=hf k hn;have:=(h.low m k hm).2;omega
  | some n =>
   cases m with
   | none=>have:=hf k hm;have:=(h.low n k hn).2;omega
   | some m=>rw[h.apart n m k hn hm]
 ·cases n with
  | none=>exact⟨Nat.le_trans h.base.size (hf k hn),ho.lt k hn⟩
  | some n=>exact h'.low n k hn
theorem Sep.unlift{N:Type}{own:Option N->Res}{wb w:World}(h:Sep wb w own):Sep wb w (λn=>own (some n)) :=
 ⟨h.base,λn=>h.ok (some n),λn m k hn hm=>by have:=h.apart (some n) (some m) k hn hm;injection this,λn k hn=>h.low (some n) k hn⟩
section
variable {N:Type} {own:N->Res} {nm:DN->N} {g:Nat} {d:Ds} {v:DV} {wb w:World}
theorem zaa.lift(h:zaa own nm g d v)(r:Res):zaa (lift own r) (λx=>some (nm x)) g d v :=
 ⟨λa b e=>h.inj a b (by injection e),h.res,h.frl,h.mapM,h.mapT,h.wf,h.nilB,h.nilH⟩
theorem zaa.unlift{own:Option N->Res}(h:zaa own (λx=>some (nm x)) g d v):zaa (λn=>own (some n)) nm g d v :=
 ⟨λa b e=>h.inj a b (by rw[e]),h.res,h.frl,h.mapM,h.mapT,h.wf,h.nilB,h.nilH⟩
theorem zai.unlift{r:Res}{own':Option N->Res}(h:zai (λx=>some (nm x)) (Proofs.YtoijpogadkogcaaGreat.lift own r) own'):zai nm own (λn=>own' (some n)):=λn hn=>h (some n) (λx e=>hn x (by injection e))
theorem zai.kept{r:Res}{own':Option N->Res}(h:zai (λx=>some (nm x)) (Proofs.YtoijpogadkogcaaGreat.lift own r) own'):own' none=r:=h none (λx e=>by cases e)
theorem zaf.unlift{r:Res}{w':World}{d':Ds}(h:zaf (λx=>some (nm x)) g wb (Proofs.YtoijpogadkogcaaGreat.lift own r) d v w' d'):zaf nm g wb own d v w' d':=by obtain⟨o2,v2,s2,h2,m2,r2,i2,p2⟩:=h;exact⟨_,v2,s2.unlift,h2.unlift,m2.unlift,r2,i2,p2⟩
def frV(kind flags id:Nat)(vb:Value):Value:=.agg #[.int .i64 (kind:Int),.int .i64 (flags:Int),.int .i64 (id:Int),vb]
def frO(kind flags id:Nat)(vb:Value):Obj:=.cells #[.int .i64 (kind:Int),.int .i64 (flags:Int),.int .i64 (id:Int),vb] 111 (0,0)
set_option maxHeartbeats 3200000 in
theorem zmo(h:zaa own nm g d v)(hs:Sep wb w own)(hf:d.Fits 3)(s:DS)(p:Nat)(kind flags id:Nat)(a:Option Addr)(n k:Nat)(hn:n<=1000)(hfl:flags<=255)
  (hs':(d.str s.id=some s/\p=v.ptr s.id)\/(∃ z n0,(z=0\/z=8)/\s = { state:=z }/\own n0 = .obj p (.cells (zcl z) 94 (0,0)) /\ ∀ x,n0≠nm x)) :
  Calls Tryz.prog 136 #[.pointer (some ⟨g,0,none⟩),.pointer (some ⟨p,0,none⟩),frV kind flags id (.slice a n k)] w λe w'=>e = .returned (.tuple #[])/\zaf nm g wb own d v w' (d.passOver s (flags%2 == 1) n):=by
 have S0:=hs.liftObj (frO kind flags id (.slice a n k));have H0:=h.lift (.obj w.heap.size (frO kind flags id (.slice a n k)));obtain⟨W0,hW0⟩:∃ W0,w.alloc (frO kind flags id (.slice a n k))=W0:=⟨_,rfl⟩;rw[hW0] at S0;have hW0':w.alloc (.cells #[.int .i64 (kind:Int),.int .i64 (flags:Int),.int .i64 (id:Int),.slice a n k] 111)=W0:=hW0;have b3:W0.cell? ⟨w.heap.size,3,none⟩=some (.slice a n k):=S0.cell (n:=none) rfl 3;have rest:∀ (w1:World) (d1:Ds),zaf (λx=>some (nm x)) g wb (lift own (.obj w.heap.size (frO kind flags id (.slice a n k)))) d v w1 d1->d1.Fits 1->d1.str=d.str->(d1.failed=d.failed) -> ∃ own1 v1,Sep wb w1 own1/\zaa own1 (λx=>some (nm x)) g d1 v1 /\
   own1 none = .obj w.heap.size (frO kind flags id (.slice a n k)) /\
   Calls Tryz.prog 175 #[.pointer (some ⟨p,0,none⟩)] w1 (λe w'=>e = .returned (.tuple #[])/\zaf nm g wb own d v w' (d1.endThere s))/\(∀ w',Ext w1 w'->Calls Tryz.prog 175 #[.pointer (some ⟨p,0,none⟩)] w' (λe w'=>e = .returned (.tuple #[])/\zaf nm g wb own d v w' (d1.endThere s))/\zaf nm g wb own d v w' d1):=by
  rintro w1 d1 ⟨own1,v1,S1,H1,E1,r1,i1,p1⟩ F1 hstr hfd;have main:∀ w',Ext w1 w'->Calls Tryz.prog 175 #[.pointer (some ⟨p,0,none⟩)] w' (λe w'=>e = .returned (.tuple #[])/\zaf nm g wb own d v w' (d1.endThere s))/\zaf nm g wb own d v w' d1:=by
   intro w' he;have S2:=S1.ext he;refine⟨?_,zaf.unlift ⟨own1,v1,S2,H1,E1,r1,i1,p1⟩⟩;rcases hs' with ⟨hst,rfl⟩ | ⟨z,n0,hz,rfl,hn0,hne⟩
   ·have hst1:d1.str s.id=some s:=by rw[hstr];exact hst
    have hp:=(p1 s.id (by rw[hst];rfl)).1;have ke:=zml H1 S2 F1 hst1;rw[hp] at ke;refine ke.mono ?_;rintro e w2 ⟨rfl,hL⟩;exact⟨rfl,zaf.unlift (hL.trans (own:=lift own (.obj w.heap.size (frO kind flags id (.slice a n k)))) (d:=d) (v:=v) E1 r1 (λhx=>i1 (by rw[<-zhz d1 s];exact hx)) p1)⟩
   ·have e1:own1 (some n0) = .obj p (.cells (zcl z) 94 (0,0)):=(E1 (some n0) (λx e=>hne x (by injection e))).trans hn0;have c2:w'.cell? ⟨p,2,none⟩=some (.int .i64 (z:Int)):=S2.cell e1 2;have he1:d1.endThere { state:=z }=d1:=by
     unfold Ds.endThere Ds.thereTo;rcases hz with rfl | rfl<;>rfl
    rw[he1];refine(zli w' p z c2 (by omega) (by omega) (by omega)).mono ?_;rintro e w2 ⟨rfl,hw⟩;subst hw;exact⟨rfl,zaf.unlift ⟨own1,v1,S2,H1,E1,r1,i1,p1⟩⟩
  exact⟨own1,v1,S1,H1,E1.kept,(main w1 (Ext.refl w1)).1,main⟩
 by_cases hn0:0<n
 ·have kg:=ziy H0 S0 (hf.mono (by omega)) n hn;have hn0':(0:Int)<(n:Int):=by omega
  have FG:(d.give0 n).Fits 1:=hf.give0 n hn;cases hfin:(flags%2 == 1) with
  | true =>
   have HR:Hid (d.passOver s true n=(d.give0 n).endThere s):=by show _=_;unfold Ds.passOver;rw[if_pos hn0];rfl
   rw[HR.out];unfold frV
   go_enter Tryz.func136,Tryz.ntmps136
   go_wp2_with fail
   refine kg.mono ?_;rintro e w1 ⟨rfl,hL⟩;obtain⟨own1,v1,S1,H1,e1,_,km⟩:=rest w1 _ hL FG rfl rfl;have c0:=S1.cell e1 0;have c1:=S1.cell e1 1;have c2:=S1.cell e1 2;have c3:=S1.cell e1 3;have kh:=zip w1 kind flags id a n k hfl;rw[hfin] at kh;clear S1 H1 hL
   go_wp2_with fail
   refine kh.mono ?_;rintro e w2 ⟨rfl,he2⟩;have ke:=(km w2 he2).1
   go_wp2_with fail
   refine ke.mono ?_;rintro e w3 ⟨rfl,hL⟩
   go_wp2
   go_end0
   exact⟨rfl,hL⟩
  | false =>
   have HR:Hid (d.passOver s false n=d.give0 n):=by show _=_;unfold Ds.passOver;rw[if_pos hn0];rfl
   rw[HR.out];unfold frV
   go_enter Tryz.func136,Tryz.ntmps136
   go_wp2_with fail
   refine kg.mono ?_;rintro e w1 ⟨rfl,hL⟩;obtain⟨own1,v1,S1,H1,e1,_,km⟩:=rest w1 _ hL FG rfl rfl;have c0:=S1.cell e1 0;have c1:=S1.cell e1 1;have c2:=S1.cell e1 2;have c3:=S1.cell e1 3;have kh:=zip w1 kind flags id a n k hfl;rw[hfin] at kh;clear S1 H1 hL
   go_wp2_with fail
   refine kh.mono ?_;rintro e w2 ⟨rfl,he2⟩;have HL:=hide (km w2 he2).2
   go_wp2
   go_end0
   exact⟨rfl,HL.out⟩
 ·have hnz:n=0:=by omega
  have hL0:=H0.left S0;obtain⟨own1,v1,S1,H1,e1,_,km⟩:=rest W0 d hL0 (hf.mono (by omega)) rfl rfl;have c0:=S1.cell e1 0;have c1:=S1.cell e1 1;have c2:=S1.cell e1 2;have c3:=S1.cell e1 3;have kh:=zip W0 kind flags id a n k hfl;subst hnz;cases hfin:(flags%2 == 1) with
  | true =>
   have HR:Hid (d.passOver s true 0=d.endThere s):=rfl;rw[HR.out];rw[hfin] at kh;unfold frV;clear S1 H1 hL0
   go_enter Tryz.func136,Tryz.ntmps136
   go_wp2_with fail
   refine kh.mono ?_;rintro e w2 ⟨rfl,he2⟩;have ke:=(km w2 he2).1
   go_wp2_with fail
   refine ke.mono ?_;rintro e w3 ⟨rfl,hL⟩
   go_wp2
   go_end0
   exact⟨rfl,hL⟩
  | false =>
   have HR:Hid (d.passOver s false 0=d):=rfl;rw[HR.out];rw[hfin] at kh;unfold frV;clear S1 H1 hL0
   go_enter Tryz.func136,Tryz.ntmps136
   go_wp2_with fail
   refine kh.mono ?_;rintro e w2 ⟨rfl,he2⟩;have HL:=hide (km w2 he2).2
   go_wp2
   go_end0
   exact⟨rfl,HL.out⟩
end
end Go.Proofs.YtoijpogadkogcaaGreat
