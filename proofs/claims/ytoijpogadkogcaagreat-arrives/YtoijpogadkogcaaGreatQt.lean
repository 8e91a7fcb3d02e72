import Derived.Test.YtoijpogadkogcaaGreatQn
namespace Go.Proofs.YtoijpogadkogcaaGreat
open Go.RowKit
set_option maxRecDepth 100000
set_option maxHeartbeats 3200000 in
theorem zxx(w:World)(g p:Nat)(d:Ds)(s:DS)(vB vD:Value)(c10:w.cell? ⟨g,10,none⟩=some (.int .i64 d.from_))(c3:w.cell? ⟨p,3,none⟩=some (.int .i64 s.from_))(c6:w.cell? ⟨p,6,none⟩=some vB)(c7:w.cell? ⟨p,7,none⟩=some vD)
  (hB:s.block=[]->vB = .slice none 0 0) (hB':s.block≠[] -> ∃ a n cap,vB = .slice (some a) n cap) (hD:∃ a cap,vD = .slice a s.data.length cap) :
  Calls Tryz.prog 48 #[.pointer (some ⟨g,0,none⟩),.pointer (some ⟨p,0,none⟩)] w λe w'=>e = .returned (.bool (d.canGo s))/\Ext w w':=by
 obtain⟨aD,cD,rfl⟩:=hD;by_cases hb:s.block=[]
 ·rw[hB hb] at c6;by_cases hd:s.data.length=0
  ·have HR:Hid (d.canGo s=true):=by show d.canGo s=true;simp[Ds.canGo,hd]
   rw[HR.out];rw[hd] at c7;clear hd hb hB hB'
   go_enter Tryz.func48,Tryz.ntmps48
   go_wp2_with fail
   go_region
   go_wp2
   go_ret
   exact⟨rfl,(Ext.refl w).drew⟩
  ·have HR:Hid (d.canGo s=decide (0<min s.from_ d.from_)):=by show d.canGo s=_;simp[Ds.canGo,hb,hd]
   rw[HR.out];have hd1:((s.data.length:Int) == 0)=false:=by rw[beq_eq_false_iff_ne];omega
   clear hd hb hB hB';generalize s.data.length=n at *;generalize s.from_=x at *;generalize d.from_=y at *
   go_enter Tryz.func48,Tryz.ntmps48
   go_wp2_with fail
   go_region
   have emin:(if y<x then y else x)=min x y:=by split<;>omega
   simp only[emin];generalize hz:min x y=z;have HZ:=hide hz;clear hz emin
   go_wp2
   go_ret
   exact⟨by rw[HZ.out];rfl,(Ext.refl w).drew⟩
 ·obtain⟨a,n,cap,rfl⟩:=hB' hb;have HR:Hid (d.canGo s=true):=by show d.canGo s=true;simp[Ds.canGo,hb]
  rw[HR.out];clear hb hB hB'
  go_enter Tryz.func48,Tryz.ntmps48
  go_wp2_with fail
  go_region
  go_wp2
  go_ret
  exact⟨rfl,(Ext.refl w).drew⟩
section
variable {N:Type} {own:N->Res} {nm:DN->N} {g:Nat} {d:Ds} {v:DV} {wb w:World}
theorem zzbbw(h:zaa own nm g d v)(hs:Sep wb w own){n:Nat}{s:DS}(hn:d.str n=some s) :
  Calls Tryz.prog 48 #[.pointer (some ⟨g,0,none⟩),.pointer (some ⟨v.ptr n,0,none⟩)] w λe w'=>e = .returned (.bool (d.canGo s))/\Ext w w' :=
 zxx w g (v.ptr n) d s _ _ (h.c10 hs) (h.s3 hs hn) (h.s6 hs hn) (h.s7 hs hn) (h.nilB n s hn)
  (λhb=>by obtain⟨a,o,cap,e,_⟩:=h.blockV hs hn hb;exact⟨_,_,_,e⟩) (by obtain⟨a,cap,e,_⟩:=(hs.get (h.data hn)).slice;exact⟨a,cap,e⟩)
set_option maxHeartbeats 3200000 in
theorem zpp(h:zaa own nm g d v)(hs:Sep wb w own) :
  Calls Tryz.prog 47 #[v.vR,.func (.func 48) #[.pointer (some ⟨g,0,none⟩)] #[]] w λe w'=>e = .returned (.int .i64 (zdm d.ring (λn=>d.canGo (d.stOf n))))/\Ext w w':=by
 have ho:=h.rowR hs;have KC:Hid (∀ k,k<d.ring.length -> ∀ u,Ext w u->Calls Tryz.prog 48 #[.pointer (some ⟨g,0,none⟩),.pointer (some ⟨v.ptr (d.ring.getD k 0),0,none⟩)] u λe w'=>e = .returned (.bool (d.canGo (d.stOf (d.ring.getD k 0))))/\Ext u w'):=λk hk u hu=>by
  obtain⟨s,hn⟩:=h.wf.rings (d.ring.getD k 0) (by rw[List.getD_eq_getElem?_getD,List.getElem?_eq_getElem hk];exact List.getElem_mem hk);have e:d.stOf (d.ring.getD k 0)=s:=by unfold Ds.stOf;rw[hn];rfl
  rw[e];exact zzbbw h (hs.ext hu) hn
 generalize hvR:v.vR=vR at *;clear hvR;obtain⟨p,hp⟩:∃ p:Nat->Bool,p=λn=>d.canGo (d.stOf n):=⟨_,rfl⟩;have hpa:∀ k,d.canGo (d.stOf (d.ring.getD k 0))=p (d.ring.getD k 0):=λk=>by rw[hp]
 simp only[hpa] at KC;rw[<-hp];clear hp hpa;generalize v.ptr=ptr at *;generalize d.ring=r at *;by_cases hn:0<r.length
 ·obtain⟨a,o,cap,rfl,hc1,hc2,hcell⟩:=ho.at hn;have hcell':∀ k,k<r.length->w.cell? ⟨a,o+k,none⟩=some (.pointer (some ⟨ptr (r.getD k 0),0,none⟩)):=λk hk=>(hcell k (by omega)).trans (zeq r ptr k hk)
  have HC:=hide hcell';clear hcell hcell' ho;generalize hL:r.length=n at *;have HL:=hide hL;clear hL;unfold maxLen at hc2
  go_enter Tryz.func47,Tryz.ntmps47
  go_wp2
  go_loopw [8] (λi wr => ∃ k:Nat,k<=n/\i = .int .i64 k/\Hid ((∀ j,j<k->p (r.getD j 0)=false)/\Ext w wr)) (λi _=>n-(intOf i).toNat)
  case atStart=>exact⟨0,Nat.zero_le _,rfl,λj hj=>by omega,Ext.refl w⟩
  case round =>
   obtain⟨k,hk,rfl,HA⟩:=hrel;by_cases hlt:k<n
   ·have hc:=HA.out.2.cell (HC.out k hlt);have kk:=KC.out k hlt wr HA.out.2;cases he:p (r.getD k 0) with
    | true =>
     have HR:Hid ((k:Int)=zdm r p):=by
      show (k:Int)=_
      unfold zdm;rw[zpb (p:=p) (by rw[HL.out];exact hlt) HA.out.1 he]
     rw[he] at kk;clear he;generalize ptr (r.getD k 0)=z at hc kk
     go_wp2_with (go_at_call 48;refine kk.mono ?_;rintro e w' ⟨rfl,hw⟩)
     go_ret
     exact⟨zdr HR.out,HA.out.2.trans hw⟩
    | false =>
     have HE:=hide he;rw[he] at kk;clear he;generalize ptr (r.getD k 0)=z at hc kk
     go_wp2_with (go_at_call 48;refine kk.mono ?_;rintro e w' ⟨rfl,hw⟩)
     go_roundw
     case rel =>
      refine⟨k+1,by omega,by go_num,λj hj => ?_,HA.out.2.trans hw⟩;by_cases e:j=k
      ·subst e;exact HE.out
      ·exact HA.out.1 j (by omega)
     case measure=>simp[intOf];omega
   ·have hkn:k=n:=by omega
    have HR:Hid ((-1:Int)=zdm r p):=by show (-1:Int)=_;rw[zhp (by rw[HL.out,<-hkn];exact HA.out.1)]
    go_wp2
    go_ret
    exact⟨zdr HR.out,HA.out.2⟩
 ·obtain⟨a,cap,rfl,hc1,hc2⟩:=ho.slice;have hz:r.length=0:=by omega
  have HR:Hid ((-1:Int)=zdm r p):=by show (-1:Int)=_;rw[zhp (λj hj=>by omega)]
  rw[hz];clear hz hn hc1 ho
  go_enter Tryz.func47,Tryz.ntmps47
  go_wp2
  refine wp_loop_rounds 1 ?_;rw[rounds_succ]
  go_wp2
  go_ret
  exact⟨zdr HR.out,Ext.refl w⟩
end
theorem zxy{P:Program}(w:World)(t tx ty e:TypeId)(i:TypeInfo)(size:Nat)(ht:P.underlying t=some (.slice e))(hi:P.info? e=some i)(hsize:i.size=size)
  {g o n cap m:Nat} {xs news:List Value} (hown:OwnAt w e size (.slice (some ⟨g,o,none⟩) n cap) n xs) (x:Value) (hs:Src P size tx x m news w) (hroom:n+m<=cap) :
  ∃ w',(Builtin.append_ #[t,tx] ty #[.slice (some ⟨g,o,none⟩) n cap,x]).run P w = .ok (.slice (some ⟨g,o,none⟩) (n+m) cap) w'/\OwnAt w' e size (.slice (some ⟨g,o,none⟩) (n+m) cap) (n+m) (xs++news)/\zau w (.slice (some ⟨g,o,none⟩) n cap) w' (.slice (some ⟨g,o,none⟩) (n+m) cap):=by
 subst hsize;have hl:=hs.newsLen;have hlen:(xs++news).length=(n+m)*i.size:=by rw[List.length_append,hown.1,hl,Nat.add_mul]
 rcases hown.2 with ⟨h1,_⟩|⟨g',o',cap',cur,h1,hg,hnc,hcm,hcs,htake⟩
 ·simp at h1
 ·simp only[Value.slice.injEq,Option.some.injEq,Addr.mk.injEq] at h1;obtain⟨⟨rfl,rfl,_⟩,_,rfl⟩:=h1;have hmul:(n+m)*i.size<=cap*i.size:=Nat.mul_le_mul_right _ hroom;have hadd:(n+m)*i.size=n*i.size+m*i.size:=Nat.add_mul _ _ _;have hfit:(o+n*i.size)+0+news.length<=cur.size:=by rw[hl];omega
  have hst:=run_storeCells_at P g (o+n*i.size) e news 0 cur w hg hfit hs.one;simp only[Nat.add_zero] at hst;have hr:(Builtin.append_ #[t,tx] ty #[.slice (some ⟨g,o,none⟩) n cap,x]).run P w =
    .ok (.slice (some ⟨g,o,none⟩) (n+m) cap) (w.setRow g (cur.toList.take (o+n*i.size)++news++cur.toList.drop (o+n*i.size+news.length)).toArray):=by
   rcases hs.kind with ⟨e',hk⟩ | hk<;>simp[Builtin.append_,run_underlying ht,run_underlying hk,sizeOf,typeInfo,hi,hs.len,hroom,hs.cells,zea,hst]
  refine⟨_,hr,⟨hlen,.inr ⟨g,o,cap,_,rfl,setRow_heap w g cur _ e _ hg,hroom,hcm,?_,?_⟩⟩,⟨⟨rfl,rfl,rfl,by simp,λk _ hk=>setRow_other w g k _ (λe=>hk (by simp[Value.ownBlock,e]))⟩,.inl rfl⟩⟩
  ·simp only[List.size_toArray,List.length_append,List.length_take,List.length_drop,Array.length_toList];omega
  ·have hlt:(cur.toList.take o).length=o:=by rw[List.length_take,Array.length_toList];omega
   have e1:cur.toList.take (o+n*i.size)=cur.toList.take o++xs:=by rw[List.take_add,htake]
   simp only[e1,List.append_assoc];rw[List.drop_append_of_le_length (by omega),List.drop_of_length_le (by omega),List.nil_append,<-List.append_assoc,<-hlen];exact List.take_left
theorem zvo{P:Program}{ops:Array Oper}{o:Oper}{a:Act}{w:World}{K:Act->World->Prop}{Q:Exit->Act->World->Prop}{E:Prop}
  (hg:o.guard=none) (s x:Operand) (t tx:TypeId) (hop:o.op=Op.call { callee:=Callee.builtin Builtin.append,args:=#[s,x],argTypes:=#[t,tx] })
  (e:TypeId) (i:TypeInfo) (size:Nat) (ht:P.underlying t=some (.slice e)) (hi:P.info? e=some i) (hsize:i.size=size)
  (b p n cap m:Nat) (xs news:List Value) (hs:a.eval s = .slice (some ⟨b,p,none⟩) n cap) (hown:OwnAt w e size (.slice (some ⟨b,p,none⟩) n cap) n xs)
  (y:Value) (hx:a.eval x=y) (hsrc:Src P size tx y m news w) (hroom:n+m<=cap)
  (hK:∀ w',OwnAt w' e size (.slice (some ⟨b,p,none⟩) (n+m) cap) (n+m) (xs++news)->zau w (.slice (some ⟨b,p,none⟩) n cap) w' (.slice (some ⟨b,p,none⟩) (n+m) cap)->K (a.put o.dst (.slice (some ⟨b,p,none⟩) (n+m) cap)) w') :
  if Region.wanted o (yielded ops a.tmps)=true then Oper.wp P o a w K Q else E:=by
 have hw:Region.wanted o (yielded ops a.tmps)=true:=by simp[Region.wanted,hg]
 rw[if_pos hw];obtain⟨w',hr,h2,h3⟩:=zxy (P:=P) w t tx o.type e i size ht hi hsize hown y hsrc hroom;unfold Oper.wp;simp[execOp,hop,resolve,invoke,builtin,hs,hx,hr,Result.andThen];exact hK w' h2 h3
theorem zzbha(r:List Nat)(ptr:Nat->Nat)(k:Nat):(zat r ptr).take k++(zat r ptr).drop (k+1)=zat (r.eraseIdx k) ptr:=by unfold zat;rw[List.eraseIdx_eq_take_drop_succ,List.map_append,List.map_take,List.map_drop]
theorem zlm:Tryz.prog.elem 100=87:=by kernel_rfl
theorem zzr(W:World):(sizeOf 87).run Tryz.prog W = .ok 1 W:=by kernel_rfl
theorem zzbhb(a o k n cap:Nat)(hk:k<=n)(W:World):(Instr.slice 100 (.slice (some ⟨a,o,none⟩) n cap) (some (.int .i64 (k:Int))) none none).run Tryz.prog W = .ok (.slice (some ⟨a,if cap=k then o else o+k,none⟩) (n-k) (cap-k)) W:=by
 rw[run_slice_l W 100 _ n cap (by rw[zlm];exact Tryz.underlying100) .i64 (k:Int) (by omega) (by omega),zlm,zzr];by_cases e:cap=k
 ·simp[Result.andThen,sliced,e]
 ·simp[Result.andThen,sliced,e,zea]
theorem zzble(a o k n cap:Nat)(hk:k<=cap)(W:World):(Instr.slice 100 (.slice (some ⟨a,o,none⟩) n cap) none (some (.int .i64 (k:Int))) none).run Tryz.prog W = .ok (.slice (some ⟨a,o,none⟩) k cap) W:=by
 rw[run_slice_h W 100 _ n cap (by rw[zlm];exact Tryz.underlying100) .i64 (k:Int) (by omega) (by omega),zlm,zzr];by_cases e:cap=0
 ·simp[Result.andThen,sliced,e]
 ·simp[Result.andThen,sliced,zea]
set_option maxHeartbeats 3200000 in
theorem zxz(r:List Nat)(ptr:Nat->Nat)(vR:Value)(w:World)(ho:OwnAt w 87 1 vR r.length (zat r ptr))(k:Nat)(hk:k<r.length) :
  Calls Tryz.prog 89 #[vR,.int .i64 (k:Int),.int .i64 ((k:Int)+1)] w λe w' => ∃ v' u,e = .returned v'/\OwnAt w' 87 1 v' (r.eraseIdx k).length (zat (r.eraseIdx k) ptr)/\Ext w u/\zau u vR w' v':=by
 obtain⟨i0,hi0,hz0,hz1,hz2⟩:=zbk Tryz.infoPS;obtain⟨a,o,cap,rfl,hc1,hc2,-⟩:=ho.at (by omega);have hone:∀ u∈(zat r ptr).drop ((k+1)*1),u.oneCell'=true:=λu hu=>by
  have:=List.mem_of_mem_drop hu
  unfold zat at this;obtain⟨b,_,rfl⟩:=List.mem_map.1 this;rfl
 have hod:=ho.ext (Ext.refl w).drew;have hF:=hod.first k (by omega);have hD:=hod.from (k+1) (by omega);have hsrc:=hD.src (tx:=100) Tryz.underlying100 hone;have HER:=hide (zzbha r ptr k);have HEL:Hid ((r.eraseIdx k).length=k+(r.length-(k+1))):=by show _=_;rw[List.length_eraseIdx];simp only[hk,if_true];omega
 rw[Nat.mul_one] at hsrc hD;generalize hx:r.length-(k+1)=m at *;have HX:=hide hx;have hn:r.length=k+m+1:=by omega
 clear hx hone hD;rw[hn] at hc1 ho hod ⊢;have hsl:sliced (some ⟨a,o,none⟩) (k+1) r.length cap 1 = .slice (some ⟨a,if cap=k+1 then o else o+(k+1),none⟩) m (cap-(k+1)):=by
  unfold sliced;by_cases e:cap=k+1
  ·simp[e];omega
  ·simp[e,zea];omega
 rw[hsl] at hsrc;unfold maxLen at hc2;have HG:=hide (λ(w1:World) (h1:OwnAt w1 87 1 (.slice (some ⟨a,o,none⟩) (k+m) cap) (k+m) (zat (r.eraseIdx k) ptr))=>zom (P:=Tryz.prog) (t:=100) Tryz.underlying100 Tryz.zeroPS rfl rfl h1 (k+m) 1 (cap-(k+m)) (by omega) (Nat.le_refl _) (by omega));have r1:=zzbhb a o (k+1) (k+m+1) cap (by omega);have r2:=zzble a o k (k+m+1) cap (by omega);rw[show ((k+1:Nat):Int)=(k:Int)+1 by omega,show k+m+1-(k+1)=m by omega] at r1;clear hsl hn hk ho;generalize (if cap=k+1 then o else o+(k+1))=o2 at *
 go_enter Tryz.func89,Tryz.ntmps89
 go_wp2_with fail
 go_region_law (
  refine zvo rfl (.tmp 22) (.tmp 25) 100 100 rfl 87 i0 1 Tryz.underlying100 hi0 hz1 a o k cap m _ _ ?_ hF (.slice (some ⟨a,o2,none⟩) m (cap-(k+1))) ?_ hsrc ?_ ?_
  ·simp[Act.eval,Act.put]
  ·simp[Act.eval,Act.put]
  ·omega
  intro w5 hO5 hG5;rw[HER.out] at hO5;obtain⟨w6,hcl,hO6,hG6⟩:=HG.out w5 hO5;have HX6:=hide (And.intro hO6 (hG5.trans hG6));clear hO5 hG5 hO6 hG6)
 go_wp2
 go_ret
 have hlen:(zat (r.eraseIdx k) ptr).length=k+m:=by rw[zto];exact HEL.out
 refine⟨_,w.drew,rfl,zbv HX6.out.1 HEL.out.symm (List.take_of_length_le (Nat.le_of_eq hlen)),(Ext.refl w).drew,⟨HX6.out.2.grown,HX6.out.2.place⟩⟩
section
variable {N:Type} {own:N->Res} {nm:DN->N} {g:Nat} {d:Ds} {v:DV} {wb w:World}
theorem zzbey(d:Ds)(k:Nat)(h:d.Wf):∀ n∈d.ring.eraseIdx k,∃ s,d.str n=some s:=λn hn=>h.rings n (List.mem_of_mem_eraseIdx hn)
set_option maxHeartbeats 3200000 in
theorem zzbbx(h:zaa own nm g d v)(hs:Sep wb w own)(hf:d.Fits 1)(k:Nat)(hk:k<d.ring.length){s:DS}(hn:d.str (d.ring.getD k 0)=some s) :
  Calls Tryz.prog 50 #[.pointer (some ⟨g,0,none⟩),.int .i64 (k:Int)] w λe w'=>e = .returned (.tuple #[])/\zaf nm g wb own d v w' (d.leave k s):=by
 have hid:=h.wf.ids _ _ hn;have hr:=hf.ring;have kd:=zxz d.ring v.ptr v.vR w (h.rowR hs) k hk;have f13:=h.c13 hs;obtain⟨aR,oR,cR,hR,hc1,hc2,hcell⟩:=(h.rowR hs).at (by omega);have fk:w.cell? ⟨aR,oR+k,none⟩=some (.pointer (some ⟨v.ptr (d.ring.getD k 0),0,none⟩)):=(hcell k (by omega)).trans (zeq d.ring v.ptr k hk);have HR:=hide hR;rw[hR] at f13 kd;have hmem:=zzbey d k h.wf;have hkl:(k:Int)<(d.ring.length:Int):=by omega
 have hki:(k:Int)+1<=9223372036854775807:=by omega
 have F1:Ds.Fits { d with ring:=d.ring.eraseIdx k } 1:=hf.ring' _ (by rw[List.length_eraseIdx];split<;>omega);clear hcell;generalize hxp:v.ptr (d.ring.getD k 0)=p at *;have HXP:=hide hxp;clear hxp
 go_enter Tryz.func50,Tryz.ntmps50
 go_wp2_with fail
 refine kd.mono ?_;rintro e w2 ⟨v2,u2,rfl,ho2,he2,hg2⟩;rw[<-HR.out] at hg2;have s2:=(hs.ext he2).grew (h.res .ring) hg2 ho2;have c2:=(zad h.inj own .ring .conn (.row 87 1 v2 (d.ring.eraseIdx k).length (zat (d.ring.eraseIdx k) v.ptr))).trans ((if_neg (by simp)).trans h.conn);have th:=s2.thaw c2 13;have f13':w2.cell? ⟨g,13,none⟩=some v.vR:=s2.cell c2 13;have s3:=s2.setObj c2 13 v2;have h3:=h.setRing (d.ring.eraseIdx k) v2 hmem;obtain⟨a2,k2,hv2,-,-⟩:=ho2.slice;clear ho2 hg2 s2 f13 kd hR he2;subst hv2;obtain⟨W3,hW3⟩:∃ W3,w2.setCell ⟨g,13,none⟩ (.slice a2 (d.ring.eraseIdx k).length k2)=W3:=⟨_,rfl⟩;rw[hW3] at s3;have kw:=zqz h3 s3 (n:=d.ring.getD k 0) hn (hf.st _ _ hn).state;have ke:=zfu h3 s3 F1 (n:=d.ring.getD k 0) hn;dsimp only at kw ke;rw[HXP.out] at kw ke;have HID:=hide hid;have HSD:=hide ((((zai.refl nm own).upd .ring (.row 87 1 (.slice a2 (d.ring.eraseIdx k).length k2) (d.ring.eraseIdx k).length (zat (d.ring.eraseIdx k) v.ptr))).upd .conn (.obj g (.cells ((zbc d v).setIfInBounds 13 (.slice a2 (d.ring.eraseIdx k).length k2)) 105 (0,0)))));clear hid hmem F1 hn;cases hw:s.waits with
 | true =>
  have HL:Hid (d.leave k s=({ d with ring:=d.ring.eraseIdx k }:Ds).enter s.id):=by show d.leave k s=_;unfold Ds.leave;rw[if_pos hw]
  rw[hw] at kw;clear hw
  go_wp2_with fail
  refine kw.mono ?_;rintro e w4 ⟨rfl,hw⟩;replace hw:=hw.symm;subst hw
  go_wp2_with fail
  refine ke.mono ?_;rintro e w5 ⟨rfl,hL⟩
  go_wp2
  go_end0
  rw[HL.out,HID.out];exact⟨rfl,hL.trans HSD.out rfl (λ_=>rfl) (λ_ hn=>⟨rfl,hn⟩)⟩
 | false =>
  have HL:Hid (d.leave k s=({ d with ring:=d.ring.eraseIdx k }:Ds)):=by show d.leave k s=_;unfold Ds.leave;rw[if_neg (by rw[hw];simp)]
  rw[hw] at kw;clear hw ke;have HS:=hide s3;have HH:=hide h3;clear s3 h3
  go_wp2_with fail
  refine kw.mono ?_;rintro e w4 ⟨rfl,hw⟩;replace hw:=hw.symm;subst hw
  go_wp2
  go_end0
  rw[HL.out];exact⟨rfl,_,_,HS.out,HH.out,HSD.out,rfl,λ_=>rfl,λ_ hn=>⟨rfl,hn⟩⟩
end
theorem zib{a:Option Addr}{l h m n:Nat}{b:Nat}(hb:(sliced a l h m 1).ownBlock=some b):(Value.slice a n m).ownBlock=some b:=by
 unfold sliced at hb;cases a with
 | none=>split at hb<;>simp[Value.ownBlock] at hb
 | some x =>
  obtain⟨g,o,i⟩:=x;split at hb
  ·simpa[Value.ownBlock] using hb
  ·by_cases e:l*1=0
   ·simpa[Value.ownBlock,Addr.add,e] using hb
   ·have e':¬ l=0:=by omega
    cases i<;>simpa[Value.ownBlock,Addr.add,e'] using hb
section
variable {N:Type} {own:N->Res} {nm:DN->N} {g:Nat} {d:Ds} {v:DV} {wb w:World}
theorem Sep.cutFrom(h:Sep wb w own){n:N}{T k cap:Nat}{a:Option Addr}{xs:List Value}(hn:own n = .row T 1 (.slice a k cap) k xs)(j:Nat)(hj:j<=k):Sep wb w (upd own n (.row T 1 (sliced a j k cap 1) (k-j) (xs.drop j))):=by have ho:OwnAt w T 1 (.slice a k cap) k xs:=h.get hn;have ho2:=ho.from j hj;rw[Nat.mul_one] at ho2;refine h.put n _ h.base (Nat.le_refl _) (λ_ _ _ _=>rfl) ho2 (λb hb=>⟨.inl ?_,ho2.lt b hb⟩);rw[hn];exact zib hb
theorem zaa.cutA(h:zaa own nm g d v)(hs:Sep wb w own){s:DS}(hn:d.str s.id=some s){a:Option Addr}{cap:Nat}(hv:(v.sv s.id).vD = .slice a s.data.length cap)(k:Nat)(hk:k<=s.data.length){y:Value}(hy:sliced a k s.data.length cap 1=y) :
  ∃ own',Sep wb (w.setCell ⟨v.ptr s.id,7,none⟩ y) own'/\zaa own' nm g (d.setS s.id { s with data:=s.data.drop k }) { v with sv:=λj=>if j=s.id then { v.sv s.id with vD:=y } else v.sv j }/\zai nm own own':=by
 subst hy;have ed:=h.data hn;rw[hv] at ed;have s1:=hs.cutFrom ed k hk;have c1:=(zad h.inj own (.data s.id) (.st s.id) (.row 5 1 (sliced a k s.data.length cap 1) (s.data.length-k) ((zab s.data).drop k))).trans ((if_neg (by simp)).trans (h.st hn));have s2:=s1.setObj c1 7 (sliced a k s.data.length cap 1);have ehdr:=h.hdr hn;have eblock:=h.block hn;have eunread:=h.unread hn;refine⟨_,s2,?_,((zai.refl nm own).upd _ _).upd _ _⟩;refine h.modS hn { s with data:=s.data.drop k } { v.sv s.id with vD:=sliced a k s.data.length cap 1 } _ ?_ ?_ ?_ ?_ ?_ ?_ rfl rfl rfl (λe=>h.nilB _ _ hn e) (λe=>h.nilH _ _ hn e)
 ·rw[zag];rfl
 ·rw[zad h.inj,if_neg (by simp),zad h.inj,if_neg (by simp)];exact ehdr
 ·rw[zad h.inj,if_neg (by simp),zad h.inj,if_neg (by simp)];exact eblock
 ·rw[zad h.inj,if_neg (by simp),zad h.inj,if_pos rfl]
  show Res.row _ _ _ _ _=Res.row _ _ _ _ _
  rw[List.length_drop];unfold zab;rw[List.map_drop]
 ·rw[zad h.inj,if_neg (by simp),zad h.inj,if_neg (by simp)];exact eunread
 ·intro z h0 _ _ h3 _;rw[zad h.inj,if_neg h0,zad h.inj,if_neg h3]
theorem zae.kept{w w':World}{y:Value}{l:Bytes}(h:zae w y l)(hy:∀ b,y.ownBlock=some b->w'.heap[b]? = w.heap[b]?):zae w' y l:=by
 obtain⟨a,cap,rfl,h1,h2,h3⟩:=h;refine⟨a,cap,rfl,h1,h2,?_⟩;rcases h3 with h3 | ⟨b,o,rfl,hc⟩
 ·exact .inl h3
 ·exact .inr ⟨b,o,rfl,λi hi=>by rw[<-hc i hi];exact World.cell?_of_block (hy b rfl)⟩
theorem zzblf(a b:Int):(if b<a then b else a)=min a b:=by split<;>omega
theorem zsk(P:Program)(W:World)(ts:Array TypeId)(ty:TypeId)(a b c d e:Int):(Builtin.min_ ts ty #[.int .i64 a,.int .i64 b,.int .i64 c,.int .i64 d,.int .i64 e]).run P W = .ok (.int .i64 (min (min (min (min a b) c) d) e)) W:=by simp only[<-zzblf];simp[Builtin.min_,Builtin.min2]
end
def zic(d:Ds)(s:DS)(n:Nat):Bytes×Ds×DS:=(frame 0 0 s.id (s.data.take n),({ d with from_:=d.from_-n }:Ds).setS s.id { s with data:=s.data.drop n,from_:=s.from_-n },{ s with data:=s.data.drop n,from_:=s.from_-n })
theorem zwk(d:Ds)(s:DS)(room:Int)(hb:s.block=[])(ht:zan s.state=false)(he:s.ends=false)(n:Nat)(hn:d.dataN s room=n):d.turn s room=if room<6+min s.data.length 1 then ([],d,s) else zic d s n:=by
 unfold Ds.turn;rw[if_neg (by simp[hb]),if_neg (by simp[ht])];by_cases h:room<6+min s.data.length 1
 ·rw[if_pos h,if_pos h]
 ·rw[if_neg h,if_neg h];dsimp only;rw[if_neg (by rw[he];simp),hn];rfl
section
variable {N:Type} {own:N->Res} {nm:DN->N} {g:Nat} {d:Ds} {v:DV} {wb w:World}
set_option maxHeartbeats 6400000 in
theorem zvp(h:zaa own nm g d v)(hs:Sep wb w own){m:Nat}(hf:d.Fits m){s:DS}(hn:d.str s.id=some s)(hb:s.block=[])(ht:zan s.state=false)(he:s.ends=false)(room:Int)(hr0:-9223372036854775808<=room)(hr1:room<=9223372036854775807) :
  Calls Tryz.prog 88 #[.pointer (some ⟨g,0,none⟩),.pointer (some ⟨v.ptr s.id,0,none⟩),.int .i64 room] w (Turned nm g wb own d v (d.turn s room)):=by
 have fs:=hf.st _ _ hn;have fi:=fs.id;have fd:=fs.data;have f0:=h.s0 hs hn;have f3:=h.s3 hs hn;have f7:=h.s7 hs hn;have f8:=h.s8 hs hn;have f10:=h.c10 hs;obtain⟨aD,cD,hvD,hcD,-⟩:=(hs.get (h.data hn)).slice;rw[hvD] at f7;by_cases hlt:room<6+min s.data.length 1
 ·have HT:Hid (d.turn s room=([],d,s)):=by
   show _=_
   unfold Ds.turn;rw[if_neg (by simp[hb]),if_neg (by simp[ht]),if_pos hlt]
  have HL:=hide (h.left hs);rw[HT.out];by_cases hz:s.data.length=0
  ·have hlt':room<6:=by rw[hz] at hlt;simpa using hlt
   rw[hz] at f7;clear hlt hz hcD hvD
   go_enter Tryz.func88,Tryz.ntmps88
   go_wp2
   go_ret
   exact⟨_,rfl,zae.nil _,HL.out⟩
  ·have hlt':room<7:=by rw[Nat.min_eq_right (by omega)] at hlt;simpa using hlt
   have hz':(1:Int)<=(s.data.length:Int):=by omega
   clear hlt hz hcD hvD;generalize s.data.length=n at *
   go_enter Tryz.func88,Tryz.ntmps88
   go_wp2
   all_goals
    go_ret
    exact⟨_,rfl,zae.nil _,HL.out⟩
 ·have hr6:6<=room:=by omega
  have hfr0:=fs.from0;have hfr1:=fs.from1;have hdf0:=hf.from0;have hdf1:=hf.from1;obtain⟨k,hk⟩:∃ k:Nat,d.dataN s room=(k:Int):=⟨(d.dataN s room).toNat,by
   have:0<=d.dataN s room:=by unfold Ds.dataN;omega
   omega⟩
  have hkA:k<=s.data.length/\(k:Int)<=s.from_/\(k:Int)<=d.from_/\k<=64:=by unfold Ds.dataN at hk;omega
  obtain⟨hkn,hks,hkd,hk64⟩:=hkA;have HT:Hid (d.turn s room=zic d s k):=by
   show _=_
   rw[zwk d s room hb ht he k hk,if_neg hlt]
  rw[HT.out];have HK:min (min (min (min (s.data.length:Int) 64) s.from_) d.from_) (room-6)=(k:Int):=hk;have hO:=hs.get (h.data hn);have hO':OwnAt w 5 1 (.slice aD s.data.length cD) s.data.length (zab s.data):=by rw[<-hvD];exact hO
  have hB0:=zae.take (OwnAt.isBytes hO') k hkn;have hrun1:∀ W:World,(Instr.slice 34 (.slice aD s.data.length cD) none (some (.int .i64 (k:Int))) none).run Tryz.prog W = .ok (sliced aD 0 k cD 1) W:=λW=>by rw[run_slice_h W 34 _ _ cD (by rw[zam];exact Tryz.underlying34) .i64 (k:Int) (by omega) (by omega),zam,zbl];simp[Result.andThen]
  have hrun2:∀ W:World,(Instr.slice 34 (.slice aD s.data.length cD) (some (.int .i64 (k:Int))) none none).run Tryz.prog W = .ok (sliced aD k s.data.length cD 1) W:=λW=>by rw[run_slice_l W 34 _ _ cD (by rw[zam];exact Tryz.underlying34) .i64 (k:Int) (by omega) (by omega),zam,zbl];simp[Result.andThen]
  have HBV:Hid (∀ b,(sliced aD 0 k cD 1).ownBlock=some b->b≠v.ptr s.id/\b≠g/\b<w.heap.size):=λb hbb=>by
   have hh:(Value.slice aD s.data.length cD).ownBlock=some b:=zib hbb;have hd:(own (nm (.data s.id))).has b:=by rw[h.data hn,hvD];exact hh
   refine⟨λe => ?_,λe => ?_,(hs.low _ b hd).2⟩
   ·have:=hs.apart (nm (.data s.id)) (nm (.st s.id)) b hd (by rw[h.st hn,e];rfl)
    exact absurd (h.inj _ _ this) (by simp)
   ·have:=hs.apart (nm (.data s.id)) (nm .conn) b hd (by rw[h.conn,e];rfl)
    exact absurd (h.inj _ _ this) (by simp)
  obtain⟨ab,kb,hvb,-,-,-⟩:=hB0;have hBw:=zae.take (OwnAt.isBytes hO') k hkn;rw[show (s.data.take k).length=k by rw[List.length_take];omega] at hvb;have hOr:=hO'.from k hkn;obtain⟨ay,ky,hvy,-,-⟩:=hOr.slice;have HVY:=hide hvy;have HVB:=hide hvb;rw[hvb] at hrun1 HBV hBw;rw[hvy] at hrun2;clear hOr hO hO' hvb hvy HT;have HBW:=hide hBw;have HVD:=hide hvD;have HKN:=hide hkn;have hlt2:(6:Int)+min (s.data.length:Int) 1<=room:=by omega
  clear hlt hk hBw hvD hcD hb ht;have hmin:∀ (W:World) (ts:Array TypeId) (ty:TypeId),(Builtin.min_ ts ty #[.int .i64 (s.data.length:Int),.int .i64 64,.int .i64 s.from_,.int .i64 d.from_,.int .i64 (room-6)]).run Tryz.prog W = .ok (.int .i64 (k:Int)) W:=λW ts ty=>by rw[zsk,HK]
  generalize hnl:s.data.length=n at *;have HNL:=hide hnl;clear hnl HK;have a0:∀ o1,(w.alloc o1).cell? ⟨v.ptr s.id,0,none⟩=some (.int .i64 (s.id:Int)):=λo1=>((Ext.refl w).alloc o1).cell f0;have a7:∀ o1,(w.alloc o1).cell? ⟨v.ptr s.id,7,none⟩=some (.slice aD n cD):=λo1=>((Ext.refl w).alloc o1).cell f7;have S1:=(((hs.liftObj (frO 0 0 s.id (.slice ab k kb))).ext (Ext.refl _).drew).ext (Ext.refl _).drew);have H1:=h.lift (.obj w.heap.size (frO 0 0 s.id (.slice ab k kb)));have XE:Ext w ((w.alloc (frO 0 0 s.id (.slice ab k kb))).drew.drew):=((Ext.refl w).alloc _).drew.drew;obtain⟨W1,hW1⟩:∃ W1,(w.alloc (frO 0 0 s.id (.slice ab k kb))).drew.drew=W1:=⟨_,rfl⟩;rw[hW1] at S1 XE;have hW1':(w.alloc (.cells #[.int .i64 0,.int .i64 0,.int .i64 (s.id:Int),.slice ab k kb] 111)).drew.drew=W1:=hW1;have g7:=H1.s7 S1 hn;have t7:=H1.sthaw S1 hn 7;rw[HVD.out] at g7;obtain⟨ownA,SA,HA,EA⟩:=H1.cutA (y:=.slice ay (n-k) ky) S1 hn (by rw[HNL.out];exact HVD.out) k (by rw[HNL.out];exact hkn) (by rw[HNL.out];exact HVY.out);obtain⟨WA,hWA⟩:∃ WA,W1.setCell ⟨v.ptr s.id,7,none⟩ (.slice ay (n-k) ky)=WA:=⟨_,rfl⟩;rw[hWA] at SA;have nA:(d.setS s.id { s with data:=s.data.drop k }).str s.id=some { s with data:=s.data.drop k }:=by rw[zaj];exact if_pos rfl
  have gA3:=HA.s3 SA nA;have tA3:=HA.sthaw SA nA 3;have SB:=SA.setObj (HA.st nA) 3 (.int .i64 (s.from_-k));rw[zia] at SB;have HB:=HA.scalS nA { s with data:=s.data.drop k,from_:=s.from_-k } rfl rfl rfl rfl rfl rfl rfl;rw[zjj] at HB;dsimp only at SB gA3 tA3;obtain⟨WB,hWB⟩:∃ WB,WA.setCell ⟨v.ptr s.id,3,none⟩ (.int .i64 (s.from_-k))=WB:=⟨_,rfl⟩;rw[hWB] at SB;have gB:WB.cell? ⟨g,10,none⟩=some (.int .i64 d.from_):=HB.c10 SB;have tB:=HB.thaw SB 10;have SC:=SB.setObj HB.conn 10 (.int .i64 (d.from_-k));rw[zjv] at SC;have HC:=zaa.scal (d':=({ d with from_:=d.from_-k }:Ds).setS s.id { s with data:=s.data.drop k,from_:=s.from_-k }) HB rfl rfl rfl rfl rfl;obtain⟨WC,hWC⟩:∃ WC,WB.setCell ⟨g,10,none⟩ (.int .i64 (d.from_-k))=WC:=⟨_,rfl⟩;rw[hWC] at SC;have nC:(({ d with from_:=d.from_-k }:Ds).setS s.id { s with data:=s.data.drop k,from_:=s.from_-k }).str s.id=some { s with data:=s.data.drop k,from_:=s.from_-k }:=by rw[zaj];exact if_pos rfl
  have gC7:=HC.s7 SC nC;have gC8:=HC.s8 SC nC;dsimp only at gC7 gC8;rw[if_pos rfl] at gC7;dsimp only at gC7;rw[he] at gC8;have hBC:zae WC (.slice ab k kb) (s.data.take k):=HBW.out.kept (λb hb=>by obtain⟨b1,b2,b3⟩:=HBV.out b hb;rw[<-hWC,Below.heap_setCell _ _ _ _ b2,<-hWB,Below.heap_setCell _ _ _ _ b1,<-hWA,Below.heap_setCell _ _ _ _ b1];exact XE.block b b3)
  have HCC:∃ ownC vC,Sep wb WC ownC/\zaa ownC (λx=>some (nm x)) g (({ d with from_:=d.from_-k }:Ds).setS s.id { s with data:=s.data.drop k,from_:=s.from_-k }) vC/\zai (λx=>some (nm x)) (lift own (.obj w.heap.size (frO 0 0 s.id (.slice ab k kb)))) ownC/\vC.rp=v.rp/\vC.vI=v.vI /\ ∀ n,vC.ptr n=v.ptr n :=
   ⟨_,_,SC,HC,(EA.upd (.st s.id) _).upd .conn _,rfl,rfl,λ_=>rfl⟩
  obtain⟨ownC,vC,sC,hC,eC,rC,iC,pC⟩:=HCC;have oC:ownC none = .obj w.heap.size (frO 0 0 s.id (.slice ab k kb)):=(eC none (λx e=>by cases e)).trans rfl;have b0:WC.cell? ⟨w.heap.size,0,none⟩=some (.int .i64 0):=sC.cell oC 0;have b1:WC.cell? ⟨w.heap.size,1,none⟩=some (.int .i64 0):=sC.cell oC 1;have b2:WC.cell? ⟨w.heap.size,2,none⟩=some (.int .i64 (s.id:Int)):=sC.cell oC 2;have b3:WC.cell? ⟨w.heap.size,3,none⟩=some (.slice ab k kb):=sC.cell oC 3;have ka:=zdp WC 0 0 s.id (.slice ab k kb) (s.data.take k) [] (.slice none 0 0) (OwnAt.nil _ _ _) (by simp) (by rw[List.length_take];omega) (by omega) (by omega) fi (λu v' hg=>hBC.ext (zes hg));unfold frV at ka;rw[List.nil_append] at ka;have HX:=hide (λw4 (he:Ext WC w4)=>(show zaf (λx=>some (nm x)) g wb (lift own (.obj w.heap.size (frO 0 0 s.id (.slice ab k kb)))) d v w4 (({ d with from_:=d.from_-k }:Ds).setS s.id { s with data:=s.data.drop k,from_:=s.from_-k }) from ⟨ownC,vC,sC.ext he,hC,eC,rC,λ_=>iC,λn hn=>⟨pC n,zbf _ _ _ n hn⟩⟩).unlift);have hkk:(k:Int)<=(n:Int):=by omega
  clear sC hC eC oC rC iC pC SC HC SB HB SA HA EA S1 H1 nA nC hBC XE hW1;generalize hfr:frame 0 0 s.id (s.data.take k)=fr at *;have HFR:=hide hfr;clear hfr
  go_enter Tryz.func88,Tryz.ntmps88
  go_wp2_with fail
  all_goals
   go_region
   go_wp2_with fail
   go_region
   go_wp2_with fail
   all_goals
    refine ka.mono ?_;rintro e w4 ⟨v4,rfl,hO4,hG4⟩;obtain⟨a4,k4,hv4,-,-⟩:=hO4.slice;subst hv4;have HY:=hide (And.intro hO4.isBytes (HX.out w4 (zes hG4)));clear hO4 hG4
    go_wp2
    go_ret
    refine⟨_,rfl,?_,HY.out.2⟩
    show zae _ _ (frame 0 0 s.id (s.data.take k))
    rw[HFR.out];exact HY.out.1
end
end Go.Proofs.YtoijpogadkogcaaGreat
