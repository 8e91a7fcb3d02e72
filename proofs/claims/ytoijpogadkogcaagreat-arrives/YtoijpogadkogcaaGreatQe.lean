import Derived.Test.YtoijpogadkogcaaGreatQd
import Derived.LaidEql
import Derived.Deep.RegionLaw
namespace Go.Proofs.YtoijpogadkogcaaGreat
open Go.RowKit
set_option maxRecDepth 100000
theorem zeq(r:List Nat)(ptr:Nat->Nat)(k:Nat)(h:k<r.length):(zat r ptr)[k]? = some (.pointer (some ⟨ptr (r.getD k 0),0,none⟩)):=by simp[zat,List.getD_eq_getElem?_getD,List.getElem?_eq_getElem h]
theorem zto(r:List Nat)(ptr:Nat->Nat):(zat r ptr).length=r.length:=by simp[zat]
def zdm(r:List Nat)(p:Nat->Bool):Int:=match r.findIdx? p with
 | none => -1
 | some i=>(i:Int)
theorem zhp{r:List Nat}{p:Nat->Bool}(h:∀ j,j<r.length->p (r.getD j 0)=false):zdm r p = -1:=by
 unfold zdm;rw[List.findIdx?_eq_none_iff.2];intro x hx;obtain⟨j,hj,rfl⟩:=List.getElem_of_mem hx
 have:=h j hj
 rw[List.getD_eq_getElem?_getD,List.getElem?_eq_getElem hj] at this;exact this
theorem zpb{r:List Nat}{p:Nat->Bool}{k:Nat}(hk:k<r.length)(h:∀ j,j<k->p (r.getD j 0)=false)(he:p (r.getD k 0)=true):r.findIdx? p=some k:=by
 rw[List.findIdx?_eq_some_iff_getElem];refine⟨hk,?_,λj hj => ?_⟩
 ·rw[List.getD_eq_getElem?_getD,List.getElem?_eq_getElem hk] at he;exact he
 ·have:=h j hj
  rw[List.getD_eq_getElem?_getD,List.getElem?_eq_getElem (Nat.lt_trans hj hk)] at this;simpa using this
def zex(w:World)(q:Nat):Prop:=∃ cs T,w.heap[q]? = some (.cells cs T (0,0))
theorem Tryz.sizeSt:(Tryz.prog.info? 94).map (λi=>i.size)=some 11:=by kernel_rfl
theorem zqy{w:World}{a b:Nat}(ha:zex w a)(hb:zex w b):(binOp .eql 87 (.pointer (some ⟨a,0,none⟩)) (.pointer (some ⟨b,0,none⟩))).run Tryz.prog w = .ok (.bool (b == a)) w:=by
 obtain⟨ca,ta,ha⟩:=ha;obtain⟨cb,tb,hb⟩:=hb;have hsz:∃ i,Tryz.prog.info? 94=some i/\i.size=11:=by
  have:=Tryz.sizeSt
  cases h:Tryz.prog.info? 94 with
  | none=>rw[h] at this;simp at this
  | some i=>rw[h] at this;simp at this;exact⟨i,rfl,this⟩
 obtain⟨i,hi,hi2⟩:=hsz;by_cases e:a=b
 ·subst e
  have:∀ n,(Op.equalIn (n+1) 87 (.pointer (some ⟨a,0,none⟩)) (.pointer (some ⟨a,0,none⟩))).run Tryz.prog w = .ok true w:=λn=>by simp[Op.equalIn,run_underlying Tryz.underlying87,typeInfo,hi,sizeOf,run_sameAddr_same]
  simp only[binOp];simp[Op.equal,Op.maxDepth,this 9999]
 ·have hne:(⟨a,0,none⟩:Addr)≠⟨b,0,none⟩:=λh=>e (by injection h)
  have:∀ n,(Op.equalIn (n+1) 87 (.pointer (some ⟨a,0,none⟩)) (.pointer (some ⟨b,0,none⟩))).run Tryz.prog w = .ok false w:=λn=>by simp[Op.equalIn,run_underlying Tryz.underlying87,typeInfo,hi,sizeOf,hi2,run_sameAddr_other w hne ha hb]
  simp only[binOp];simp[Op.equal,Op.maxDepth,this 9999,Ne.symm e]
set_option maxHeartbeats 1600000 in
theorem zym(r:List Nat)(ptr:Nat->Nat)(vR:Value)(q:Nat)(w:World)(ho:OwnAt w 87 1 vR r.length (zat r ptr))(hq:zex w q)(hr:∀ k,k<r.length->zex w (ptr (r.getD k 0))) :
  Calls Tryz.prog 172 #[vR,.pointer (some ⟨q,0,none⟩)] w λe w'=>e = .returned (.int .i64 (zdm r (λn=>ptr n == q)))/\w'=w:=by
 by_cases hn:0<r.length
 ·obtain⟨a,o,cap,rfl,hc1,hc2,hcell⟩:=ho.at hn;have hcell':∀ k,k<r.length->w.cell? ⟨a,o+k,none⟩=some (.pointer (some ⟨ptr (r.getD k 0),0,none⟩)):=λk hk=>(hcell k (by omega)).trans (zeq r ptr k hk)
  have HC:=hide hcell';have HB:=hide hr;clear hcell hcell' hr ho;generalize hL:r.length=n at *;have HL:=hide hL;clear hL;unfold maxLen at hc2
  go_enter Tryz.func172,Tryz.ntmps172
  go_wp2
  go_loop [8] (λi => ∃ k:Nat,k<=n/\i = .int .i64 k/\Hid (∀ j,j<k->(ptr (r.getD j 0) == q)=false)) (λi=>n-(intOf i).toNat)
  case atStart=>exact⟨0,Nat.zero_le _,rfl,λj hj=>by omega⟩
  case round =>
   obtain⟨k,hk,rfl,HA⟩:=hrel;by_cases hlt:k<n
   ·have hc:=HC.out k hlt;have hee:=zqy hq (HB.out k hlt);by_cases he:ptr (r.getD k 0)=q
    ·have HR:Hid ((k:Int)=zdm r (λn=>ptr n == q)):=by
      show (k:Int)=_
      unfold zdm;rw[zpb (p:=λn=>ptr n == q) (by rw[HL.out];exact hlt) HA.out (beq_iff_eq.2 he)]
     rw[he] at hc hee;rw[beq_self_eq_true] at hee;clear he
     go_wp2
     go_ret
     exact⟨zdr HR.out,rfl⟩
    ·have HE:=hide he;rw[beq_eq_false_iff_ne.2 he] at hee;clear he;generalize ptr (r.getD k 0)=z at hc hee
     go_wp2
     go_round
     case rel =>
      refine⟨k+1,by omega,by go_num,λj hj => ?_⟩;by_cases e:j=k
      ·subst e;exact beq_eq_false_iff_ne.2 HE.out
      ·exact HA.out j (by omega)
     case measure=>simp[intOf];omega
   ·have hkn:k=n:=by omega
    have HR:Hid ((-1:Int)=zdm r (λn=>ptr n == q)):=by show (-1:Int)=_;rw[zhp (by rw[HL.out,<-hkn];exact HA.out)]
    go_wp2
    go_ret
    exact⟨zdr HR.out,rfl⟩
 ·obtain⟨a,cap,rfl,hc1,hc2⟩:=ho.slice;have hz:r.length=0:=by omega
  have HR:Hid ((-1:Int)=zdm r (λn=>ptr n == q)):=by show (-1:Int)=_;rw[zhp (λj hj=>by omega)]
  rw[hz];clear hz hn hc1 ho
  go_enter Tryz.func172,Tryz.ntmps172
  go_wp2
  refine wp_loop_rounds 1 ?_;rw[rounds_succ]
  go_wp2
  go_ret
  exact⟨zdr HR.out,rfl⟩
theorem zzbjh(r:List Nat)(ptr:Nat->Nat)(q:Nat):decide (0<=zdm r (λn=>ptr n == q))=r.any (λn=>ptr n == q):=by
 unfold zdm;cases h:r.findIdx? (λn=>ptr n == q) with
 | none =>
  rw[List.findIdx?_eq_none_iff] at h;symm;rw[show decide ((0:Int) <= -1)=false from rfl,List.any_eq_false];intro x hx;simpa using h x hx
 | some i =>
  rw[List.findIdx?_eq_some_iff_getElem] at h;obtain⟨hi,h1,_⟩:=h;rw[decide_eq_true (by omega:(0:Int)<=(i:Int))];symm;rw[List.any_eq_true];exact⟨r[i],List.getElem_mem _,h1⟩
set_option maxHeartbeats 1600000 in
theorem ztp(r:List Nat)(ptr:Nat->Nat)(vR:Value)(q:Nat)(w:World)(ho:OwnAt w 87 1 vR r.length (zat r ptr))(hq:zex w q)(hr:∀ k,k<r.length->zex w (ptr (r.getD k 0))) :
  Calls Tryz.prog 130 #[vR,.pointer (some ⟨q,0,none⟩)] w λe w'=>e = .returned (.bool (r.any (λn=>ptr n == q)))/\w'=w:=by
 have k:=zym r ptr vR q w ho hq hr;have HR:=hide (zzbjh r ptr q);generalize zdm r (λn=>ptr n == q)=z at *;obtain⟨a,cap,rfl,hc1,hc2⟩:=ho.slice;clear ho
 go_enter Tryz.func130,Tryz.ntmps130
 go_wp2_with fail
 refine k.mono ?_;rintro e w1 ⟨rfl,hw⟩;replace hw:=hw.symm;subst hw
 go_wp2
 go_ret
 exact⟨zcj HR.out,rfl⟩
section
variable {N:Type} {own:N->Res} {nm:DN->N} {g:Nat} {d:Ds} {v:DV} {wb w:World}
theorem zaa.ptr_inj(h:zaa own nm g d v)(hs:Sep wb w own){n k:Nat}{s t:DS}(hn:d.str n=some s)(hk:d.str k=some t)(e:v.ptr n=v.ptr k):n=k:=by
 have:=hs.apart (nm (.st n)) (nm (.st k)) (v.ptr n) (by rw[h.st hn];rfl) (by rw[h.st hk];exact e)
 have:=h.inj _ _ this
 injection this
theorem zaa.any_ptr(h:zaa own nm g d v)(hs:Sep wb w own){n:Nat}{s:DS}(hn:d.str n=some s):d.ring.any (λk=>v.ptr k == v.ptr n)=d.ring.contains n:=by
 rw[Bool.eq_iff_iff,List.any_eq_true,List.contains_iff_mem];constructor
 ·rintro ⟨k,hk,he⟩;obtain⟨t,ht⟩:=h.wf.rings k hk;rw[h.ptr_inj hs hn ht (beq_iff_eq.1 he).symm];exact hk
 ·intro hk;exact⟨n,hk,by simp⟩
theorem zaa.isBlk(h:zaa own nm g d v)(hs:Sep wb w own){n:Nat}{s:DS}(hn:d.str n=some s):zex w (v.ptr n):=⟨_,_,hs.get (h.st hn)⟩
theorem zaa.ringBlk(h:zaa own nm g d v)(hs:Sep wb w own)(k:Nat)(hk:k<d.ring.length):zex w (v.ptr (d.ring.getD k 0)):=by obtain⟨t,ht⟩:=h.wf.rings (d.ring.getD k 0) (by rw[List.getD_eq_getElem?_getD,List.getElem?_eq_getElem hk];exact List.getElem_mem _);exact h.isBlk hs ht
set_option maxHeartbeats 1600000 in
theorem zfu(h:zaa own nm g d v)(hs:Sep wb w own)(hf:d.Fits 1){n:Nat}{s:DS}(hn:d.str n=some s) :
  Calls Tryz.prog 74 #[.pointer (some ⟨g,0,none⟩),.pointer (some ⟨v.ptr n,0,none⟩)] w λe w'=>e = .returned (.tuple #[])/\zaf nm g wb own d v w' (d.enter n):=by
 obtain⟨i0,hi,hz0,hz1,hz2⟩:=zbk Tryz.infoPS;have q:=hf.ring;have k:=ztp d.ring v.ptr v.vR (v.ptr n) w (h.rowR hs) (h.isBlk hs hn) (h.ringBlk hs);rw[h.any_ptr hs hn] at k;have f13:=h.c13 hs;cases hc:d.ring.contains n with
 | true =>
  have HE:Hid (d.enter n=d):=by show d.enter n=d;unfold Ds.enter;rw[if_pos hc]
  rw[HE.out];rw[hc] at k;obtain⟨aE,cE,hE,-,-⟩:=OwnAt.slice (h.rowR hs);have HL:=hide (h.left hs);rw[hE] at f13 k;clear hc
  go_enter Tryz.func74,Tryz.ntmps74
  go_wp2_with fail
  refine k.mono ?_;rintro e w1 ⟨rfl,hw⟩;replace hw:=hw.symm;subst hw
  go_wp2
  go_end0
  exact⟨rfl,HL.out⟩
 | false =>
  have HE:Hid (d.enter n = { d with ring:=d.ring++[n] }):=by show d.enter n=_;unfold Ds.enter;rw[if_neg (by rw[hc];simp)]
  rw[HE.out];rw[hc] at k;obtain⟨aE,cE,hE,-,-⟩:=OwnAt.slice (h.rowR hs);rw[hE] at f13 k;have s1:=hs.ext ((Ext.refl w).alloc (.cells #[.pointer (some ⟨v.ptr n,0,none⟩)] 87));have hA:OwnAt _ 87 1 v.vR d.ring.length (zat d.ring v.ptr):=h.rowR s1;rw[hE] at hA;have hsrc:Src Tryz.prog 1 100 (.slice (some ⟨w.heap.size,0,none⟩) 1 1) 1 [.pointer (some ⟨v.ptr n,0,none⟩)] (w.alloc (.cells #[.pointer (some ⟨v.ptr n,0,none⟩)] 87)) :=
   Src.ofSlice _ Tryz.underlying100 ⟨w.heap.size,0,none⟩ 1 1 _ rfl (λj x hj=>by
    match j,hj with
    | 0,hj=>simp at hj;subst hj;simp[Addr.add]) (λx hx=>by simp at hx;subst hx;rfl)
  clear hc
  go_enter Tryz.func74,Tryz.ntmps74
  go_wp2_with fail
  refine k.mono ?_;rintro e w1 ⟨rfl,hw⟩;replace hw:=hw.symm;subst hw
  go_wp2_with (at_builtin;refine zbh _ rfl (.tmp 15) (.tmp 17) 100 100 rfl 87 i0 (.pointer none) 1 8 Tryz.underlying100 hi hz0 hz1 hz2 rfl _ _ _ rfl hA _ 1 _ rfl hsrc ?_ ?_ ?_)
  ·unfold maxLen;omega
  ·omega
  ·intro v2 w2 hA2 hG2;rw[<-hE] at hG2;obtain⟨a2,k2,hv2,-,-⟩:=hA2.slice;have hA3:OwnAt w2 87 1 v2 (d.ring++[n]).length (zat (d.ring++[n]) v.ptr):=zbv hA2 (by simp) (by simp[zat]);have s2:=s1.grew (h.res .ring) hG2 hA3;have c2:=(zad h.inj own .ring .conn (.row 87 1 v2 (d.ring++[n]).length (zat (d.ring++[n]) v.ptr))).trans ((if_neg (by simp)).trans h.conn);have th:=s2.thaw c2 13;have f13':w2.cell? ⟨g,13,none⟩=some v.vR:=s2.cell c2 13;have s3:=s2.setObj c2 13 v2;have h3:=h.setRing (d.ring++[n]) v2 (λx hx=>by
    rw[List.mem_append,List.mem_singleton] at hx;rcases hx with hx | rfl
    ·exact h.wf.rings x hx
    ·exact⟨s,hn⟩)
   clear hA hA2 hA3 hG2 hsrc s1 s2 f13 hE k;rw[hv2]
   go_wp2
   go_end0
   rw[<-hv2];exact⟨rfl,_,{ v with vR:=v2 },s3,h3,((zai.refl nm own).upd _ _).upd _ _,rfl,λ_=>rfl,λ_ hn=>⟨rfl,hn⟩⟩
end
set_option maxHeartbeats 3200000 in
theorem zxt(w:World)(p:Nat)(s:DS)(vB vD:Value)(c2:w.cell? ⟨p,2,none⟩=some (.int .i64 (s.state:Int)))(c6:w.cell? ⟨p,6,none⟩=some vB)(c7:w.cell? ⟨p,7,none⟩=some vD)(c8:w.cell? ⟨p,8,none⟩=some (.bool s.ends))
  (hB:s.block=[]->vB = .slice none 0 0) (hB':s.block≠[] -> ∃ a n cap,vB = .slice (some a) n cap) (hD:∃ a cap,vD = .slice a s.data.length cap) (hst:s.state<=8) :
  Calls Tryz.prog 90 #[.pointer (some ⟨p,0,none⟩)] w λe w'=>e = .returned (.bool s.waits)/\w'=w:=by
 obtain⟨aD,cD,rfl⟩:=hD;by_cases hb:s.block=[]
 ·rw[hB hb] at c6;have k1:=zix s.state hst w;have k2:=ziw s.state hst w;cases ht:zan s.state with
  | true =>
   have HR:Hid (s.waits=true):=by show s.waits=true;simp[DS.waits,ht]
   rw[ht] at k1;clear k2;rw[HR.out]
   go_enter Tryz.func90,Tryz.ntmps90
   go_wp2_with (go_at_call 86;refine k1.mono ?_;rintro e w' ⟨rfl,hw⟩;replace hw:=hw.symm;subst hw)
   go_ret
   exact⟨rfl,rfl⟩
  | false =>
   rw[ht] at k1;by_cases hd:0<s.data.length
   ·have HR:Hid (s.waits=true):=by show s.waits=true;simp[DS.waits,hd]
    rw[HR.out];clear k2;have hd':(0:Int)<(s.data.length:Int):=by omega
    go_enter Tryz.func90,Tryz.ntmps90
    go_wp2_with (go_at_call 86;refine k1.mono ?_;rintro e w' ⟨rfl,hw⟩;replace hw:=hw.symm;subst hw)
    go_ret
    exact⟨rfl,rfl⟩
   ·have hz:s.data.length=0:=by omega
    have HR:Hid (s.waits=(s.ends && zaw s.state)):=by show s.waits=_;simp[DS.waits,hb,ht,hz]
    rw[HR.out];rw[hz] at c7;clear hd hz;cases he:s.ends with
    | true =>
     rw[he] at c8;clear he;generalize zaw s.state=z at *
     go_enter Tryz.func90,Tryz.ntmps90
     go_wp2_with (first | (go_at_call 86;refine k1.mono ?_;rintro e w' ⟨rfl,hw⟩;replace hw:=hw.symm;subst hw) | (go_at_call 134;refine k2.mono ?_;rintro e w' ⟨rfl,hw⟩;replace hw:=hw.symm;subst hw))
     go_ret
     exact⟨by simp,rfl⟩
    | false =>
     rw[he] at c8;clear he k2
     go_enter Tryz.func90,Tryz.ntmps90
     go_wp2_with (go_at_call 86;refine k1.mono ?_;rintro e w' ⟨rfl,hw⟩;replace hw:=hw.symm;subst hw)
     go_ret
     exact⟨by simp,rfl⟩
 ·obtain⟨a,n,cap,rfl⟩:=hB' hb;have HR:Hid (s.waits=true):=by show s.waits=true;simp[DS.waits,hb]
  rw[HR.out]
  go_enter Tryz.func90,Tryz.ntmps90
  go_wp2
  go_ret
  exact⟨rfl,rfl⟩
section
variable {N:Type} {own:N->Res} {nm:DN->N} {g:Nat} {d:Ds} {v:DV} {wb w:World}
theorem zaa.blockV(h:zaa own nm g d v)(hs:Sep wb w own){n:Nat}{s:DS}(hn:d.str n=some s)(hb:s.block≠[]):∃ a o cap,(v.sv n).vB = .slice (some ⟨a,o,none⟩) s.block.length cap/\s.block.length<=cap :=
 zgp (hs.get (h.block hn)) (List.length_pos_iff.2 hb)
theorem zqz(h:zaa own nm g d v)(hs:Sep wb w own){n:Nat}{s:DS}(hn:d.str n=some s)(hf:s.state<=8) :
  Calls Tryz.prog 90 #[.pointer (some ⟨v.ptr n,0,none⟩)] w λe w'=>e = .returned (.bool s.waits)/\w'=w :=
 zxt w (v.ptr n) s _ _ (h.s2 hs hn) (h.s6 hs hn) (h.s7 hs hn) (h.s8 hs hn) (h.nilB n s hn)
  (λhb=>by obtain⟨a,o,cap,e,_⟩:=h.blockV hs hn hb;exact⟨_,_,_,e⟩) (by obtain⟨a,cap,e,_⟩:=(hs.get (h.data hn)).slice;exact⟨a,cap,e⟩) hf
end
set_option maxHeartbeats 1600000 in
theorem zpc(w:World)(z q bx:Nat)(hb:w.cell? ⟨bx,0,none⟩=some (.pointer (some ⟨q,0,none⟩)))(hz:zex w z)(hq:zex w q) :
  Calls Tryz.prog 174 #[.pointer (some ⟨z,0,none⟩),.pointer (some ⟨bx,0,none⟩)] w λe w'=>e = .returned (.bool (q == z))/\w'=w:=by
 have hee:=zqy hz hq;generalize (q == z)=y at *
 go_enter Tryz.func174,Tryz.ntmps174
 go_wp2
 go_ret
 exact⟨rfl,rfl⟩
set_option maxHeartbeats 1600000 in
theorem zpd(r:List Nat)(ptr:Nat->Nat)(vR:Value)(q bx:Nat)(w:World)(ho:OwnAt w 87 1 vR r.length (zat r ptr))(hbx:w.cell? ⟨bx,0,none⟩=some (.pointer (some ⟨q,0,none⟩)))(hq:zex w q)(hr:∀ k,k<r.length->zex w (ptr (r.getD k 0))) :
  Calls Tryz.prog 47 #[vR,.func (.func 174) #[] #[.pointer (some ⟨bx,0,none⟩)]] w λe w'=>e = .returned (.int .i64 (zdm r (λn=>q == ptr n)))/\w'=w:=by
 by_cases hn:0<r.length
 ·obtain⟨a,o,cap,rfl,hc1,hc2,hcell⟩:=ho.at hn;have hcell':∀ k,k<r.length->w.cell? ⟨a,o+k,none⟩=some (.pointer (some ⟨ptr (r.getD k 0),0,none⟩)):=λk hk=>(hcell k (by omega)).trans (zeq r ptr k hk)
  have HC:=hide hcell';have HB:=hide hr;clear hcell hcell' hr ho;generalize hL:r.length=n at *;have HL:=hide hL;clear hL;unfold maxLen at hc2
  go_enter Tryz.func47,Tryz.ntmps47
  go_wp2
  go_loop [8] (λi => ∃ k:Nat,k<=n/\i = .int .i64 k/\Hid (∀ j,j<k->(q == ptr (r.getD j 0))=false)) (λi=>n-(intOf i).toNat)
  case atStart=>exact⟨0,Nat.zero_le _,rfl,λj hj=>by omega⟩
  case round =>
   obtain⟨k,hk,rfl,HA⟩:=hrel;by_cases hlt:k<n
   ·have hc:=HC.out k hlt;have kk:=zpc w _ q bx hbx (HB.out k hlt) hq;cases he:(q == ptr (r.getD k 0)) with
    | true =>
     have HR:Hid ((k:Int)=zdm r (λn=>q == ptr n)):=by
      show (k:Int)=_
      unfold zdm;rw[zpb (p:=λn=>q == ptr n) (by rw[HL.out];exact hlt) HA.out he]
     rw[he] at kk;clear he;generalize ptr (r.getD k 0)=z at hc kk
     go_wp2_with (go_at_call 174;refine kk.mono ?_;rintro e w' ⟨rfl,hw⟩;replace hw:=hw.symm;subst hw)
     go_ret
     exact⟨zdr HR.out,rfl⟩
    | false =>
     have HE:=hide he;rw[he] at kk;clear he;generalize ptr (r.getD k 0)=z at hc kk
     go_wp2_with (go_at_call 174;refine kk.mono ?_;rintro e w' ⟨rfl,hw⟩;replace hw:=hw.symm;subst hw)
     go_round
     case rel =>
      refine⟨k+1,by omega,by go_num,λj hj => ?_⟩;by_cases e:j=k
      ·subst e;exact HE.out
      ·exact HA.out j (by omega)
     case measure=>simp[intOf];omega
   ·have hkn:k=n:=by omega
    have HR:Hid ((-1:Int)=zdm r (λn=>q == ptr n)):=by show (-1:Int)=_;rw[zhp (by rw[HL.out,<-hkn];exact HA.out)]
    go_wp2
    go_ret
    exact⟨zdr HR.out,rfl⟩
 ·obtain⟨a,cap,rfl,hc1,hc2⟩:=ho.slice;have hz:r.length=0:=by omega
  have HR:Hid ((-1:Int)=zdm r (λn=>q == ptr n)):=by show (-1:Int)=_;rw[zhp (λj hj=>by omega)]
  rw[hz];clear hz hn hc1 ho
  go_enter Tryz.func47,Tryz.ntmps47
  go_wp2
  refine wp_loop_rounds 1 ?_;rw[rounds_succ]
  go_wp2
  go_ret
  exact⟨zdr HR.out,rfl⟩
theorem OwnAt.first{w:World}{T n cap g o:Nat}{xs:List Value}(h:OwnAt w T 1 (.slice (some ⟨g,o,none⟩) n cap) n xs)(k:Nat)(hk:k<=n):OwnAt w T 1 (.slice (some ⟨g,o,none⟩) k cap) k (xs.take k):=by
 have hl:=h.1;refine⟨by rw[List.length_take];omega,?_⟩;rcases h.2 with ⟨h1,_⟩ | ⟨g',o',cap',cur,h1,hg,h3,h4,h5,h6⟩
 ·simp at h1
 ·simp only[Value.slice.injEq,Option.some.injEq,Addr.mk.injEq] at h1;obtain⟨⟨rfl,rfl,_⟩,_,rfl⟩:=h1;refine .inr ⟨g,o,cap,cur,rfl,hg,by omega,h4,h5,?_⟩;rw[<-h6,List.take_take,Nat.min_eq_left (by omega),Nat.mul_one]
theorem zau.setOwn{w w':World}{v:Value}{g:Nat}(h:zau w v w' v)(hv:v.ownBlock=some g)(x:Nat)(u:Value):zau w v (w'.setCell ⟨g,x,none⟩ u) v :=
 ⟨⟨h.grown.os,h.grown.tape,h.grown.output,by simpa using h.grown.size,λk hk hne=>by rw[Below.heap_setCell _ _ _ _ (λe=>hne (by rw[hv,e]))];exact h.grown.block k hk hne⟩,.inl rfl⟩
theorem zau.isBlk{w w':World}{v v':Value}(h:zau w v w' v'){q:Nat}(hq:zex w q)(hne:v.ownBlock≠some q):zex w' q:=by obtain⟨cs,T,e⟩:=hq;exact⟨cs,T,(h.grown.block q (Array.getElem?_eq_some_iff.1 e).1 (Ne.symm hne)).trans e⟩
theorem zxu(z:Value)(n:Nat):(Builtin.zeroCells #[z] n).toList=List.replicate n z:=by
 simp[Builtin.zeroCells];apply List.ext_getElem
 ·simp
 ·intro i h1 h2;simp[Nat.mod_one]
theorem zom{P:Program}{w:World}{t e:TypeId}{z:Value}(ht:P.underlying t=some (.slice e))(hz:∀ w,(zeroValue e).run P w = .ok z w)(hzc:z.cells = #[z])(h1:z.oneCell'=true)
  {g o n cap T:Nat} {xs:List Value} (ho:OwnAt w T 1 (.slice (some ⟨g,o,none⟩) n cap) n xs) (k m c:Nat) (hk:k+m<=cap) (hkn:k<=n) (hm:0<m) :
  ∃ w',(∀ ty,(Builtin.clear_ #[t] ty #[.slice (some ⟨g,o+k,none⟩) m c]).run P w = .ok (.tuple #[]) w')/\OwnAt w' T 1 (.slice (some ⟨g,o,none⟩) k cap) k (xs.take k)/\zau w (.slice (some ⟨g,o,none⟩) n cap) w' (.slice (some ⟨g,o,none⟩) k cap):=by
 have hl:=ho.1;rcases ho.2 with ⟨h1,_⟩ | ⟨g',o',cap',cur,h1',hg,h3,h4,h5,h6⟩
 ·simp at h1
 ·simp only[Value.slice.injEq,Option.some.injEq,Addr.mk.injEq] at h1';obtain⟨⟨rfl,rfl,_⟩,_,rfl⟩:=h1';have hst:=run_storeCells_at P g (o+k) T (List.replicate m z) 0 cur w hg (by rw[List.length_replicate];omega) (λv hv=>by rw[List.eq_of_mem_replicate hv];exact h1);simp only[Nat.add_zero] at hst;refine⟨w.setRow g (cur.toList.take (o+k)++List.replicate m z++cur.toList.drop (o+k+(List.replicate m z).length)).toArray,λty => ?_,⟨?_,.inr ⟨g,o,cap,_,rfl,setRow_heap w g cur _ T _ hg,by omega,h4,?_,?_⟩⟩,⟨⟨rfl,rfl,rfl,by simp,λj _ hj=>setRow_other w g j _ (λe=>hj (by simp[Value.ownBlock,e]))⟩,.inl rfl⟩⟩
  ·obtain⟨m',rfl⟩:∃ m',m=m'+1:=⟨m-1,by omega⟩;simp[Builtin.clear_,run_underlying ht,hz,hzc,zxu,hst]
  ·rw[List.length_take];omega
  ·simp only[List.size_toArray,List.length_append,List.length_take,List.length_drop,List.length_replicate,Array.length_toList];omega
  ·have e1:cur.toList.take (o+k)=cur.toList.take o++xs.take k:=by rw[List.take_add,<-h6,List.take_take,Nat.mul_one,Nat.min_eq_left (by omega)]
   have hlo:(cur.toList.take o).length=o:=by rw[List.length_take,Array.length_toList];omega
   simp only[e1,List.append_assoc,Nat.mul_one];rw[List.drop_append_of_le_length (by omega),List.drop_of_length_le (by omega),List.nil_append]
   have:(xs.take k).length=k:=by rw[List.length_take];omega
   exact(List.take_append_of_le_length (Nat.le_of_eq this.symm)).trans (List.take_of_length_le (Nat.le_of_eq this))
theorem zkm(r:List Nat)(p:Nat->Bool)(k:Nat)(h:k<r.length):(r.take (k+1)).filter p=(r.take k).filter p++(if p (r.getD k 0) then [r.getD k 0] else []):=by rw[List.take_add_one,List.filter_append,List.getElem?_eq_getElem h,List.getD_eq_getElem?_getD,List.getElem?_eq_getElem h];simp only[Option.toList_some,Option.getD_some,List.filter_cons,List.filter_nil]
theorem zqr(r:List Nat)(p:Nat->Bool)(k:Nat)(h:r.findIdx? (λn=>p n)=some k):(r.take (k+1)).filter (λn => !p n)=r.take k/\k<r.length:=by
 rw[List.findIdx?_eq_some_iff_getElem] at h;obtain⟨hk,h1,h2⟩:=h;refine⟨?_,hk⟩;rw[zkm _ _ _ hk,List.getD_eq_getElem?_getD,List.getElem?_eq_getElem hk];simp only[Option.getD_some,h1,Bool.not_true,Bool.false_eq_true,if_false,List.append_nil];rw[List.filter_eq_self];intro a ha;obtain⟨j,hj,rfl⟩:=List.getElem_of_mem ha;rw[List.length_take] at hj
 have:=h2 j (by omega)
 rw[List.getElem_take];simpa using this
theorem zvj(r:List Nat)(p:Nat->Bool)(h:r.findIdx? (λn=>p n)=none):r.filter (λn => !p n)=r:=by rw[List.findIdx?_eq_none_iff] at h;rw[List.filter_eq_self];intro a ha;simpa using h a ha
set_option maxHeartbeats 3200000 in
theorem zoq(r:List Nat)(ptr:Nat->Nat)(vR:Value)(q bx:Nat)(w:World)(ho:OwnAt w 87 1 vR r.length (zat r ptr))(hbx:w.cell? ⟨bx,0,none⟩=some (.pointer (some ⟨q,0,none⟩)))(hq:zex w q)(hr:∀ k,k<r.length->zex w (ptr (r.getD k 0)))
  (n1:vR.ownBlock≠some bx) (n2:vR.ownBlock≠some q) (n3:∀ k,k<r.length->vR.ownBlock≠some (ptr (r.getD k 0))) :
  Calls Tryz.prog 173 #[vR,.func (.func 174) #[] #[.pointer (some ⟨bx,0,none⟩)]] w λe w' => ∃ v',e = .returned v'/\OwnAt w' 87 1 v' (r.filter (λn => !(q == ptr n))).length (zat (r.filter (λn => !(q == ptr n))) ptr)/\zau w vR w' v':=by
 have k0:=zpd r ptr vR q bx w ho hbx hq hr;cases hx:r.findIdx? (λn=>q == ptr n) with
 | none =>
  have hR:r.filter (λn => !(q == ptr n))=r:=zvj r (λn=>q == ptr n) hx;have e0:zdm r (λn=>q == ptr n) = -1:=by unfold zdm;rw[hx]
  rw[e0] at k0;rw[hR];obtain⟨a,cap,rfl,_,_⟩:=ho.slice;have HO:=hide ho;clear hx hR e0 ho hr n3
  go_enter Tryz.func173,Tryz.ntmps173
  go_wp2_with fail
  refine k0.mono ?_;rintro e w1 ⟨rfl,hw⟩;replace hw:=hw.symm;subst hw
  go_wp2
  go_ret
  exact⟨_,rfl,HO.out,zau.refl _ _⟩
 | some i0 =>
  obtain⟨hfi,hi0⟩:=zqr r (λn=>q == ptr n) i0 hx;have e0:zdm r (λn=>q == ptr n)=(i0:Int):=by unfold zdm;rw[hx]
  rw[e0] at k0;obtain⟨a,o,cap,rfl,hc1,hc2,-⟩:=ho.at (by omega);have HFI:=hide hfi;have HB:=hide hr;have HN:=hide n3;have HO:=hide ho;clear hx e0 hfi hr n3 ho;generalize hL:r.length=n at *;have HL:=hide hL;clear hL;unfold maxLen at hc2
  go_enter Tryz.func173,Tryz.ntmps173
  go_wp2_with fail
  refine k0.mono ?_;rintro e w1 ⟨rfl,hw⟩;replace hw:=hw.symm;subst hw
  go_wp2
  go_loopw [5,6] (λs5 s6 wr => ∃ ii jj:Nat,∃ xs:List Value,jj<=n/\ii<jj/\s5 = .int .i64 ii/\s6 = .int .i64 jj/\Hid (((r.take jj).filter (λn => !(q == ptr n))).length=ii/\OwnAt wr 87 1 (.slice (some ⟨a,o,none⟩) n cap) n xs/\xs.take ii=zat ((r.take jj).filter (λn => !(q == ptr n))) ptr/\xs.drop jj=(zat r ptr).drop jj/\zau w (.slice (some ⟨a,o,none⟩) n cap) wr (.slice (some ⟨a,o,none⟩) n cap))) (λ_ s6 _=>n-(intOf s6).toNat)
  case atStart=>exact⟨i0,i0+1,zat r ptr,by omega,by omega,rfl,by go_num,by rw[HFI.out,List.length_take,HL.out];omega,HO.out,by rw[HFI.out];simp[zat],rfl,zau.refl _ _⟩
  case round =>
   obtain⟨ii,jj,xs,hj,hij,rfl,rfl,HI⟩:=hrel;obtain⟨hlen,hown,htake,hdrop,hgrew⟩:=HI.out;by_cases hlt:jj<n
   ·have hc:wr.cell? ⟨a,o+jj,none⟩=some (.pointer (some ⟨ptr (r.getD jj 0),0,none⟩)):=by
     obtain⟨a',o',cap',e1,_,_,hcell⟩:=hown.at (by omega);simp only[Value.slice.injEq,Option.some.injEq,Addr.mk.injEq] at e1;obtain⟨⟨rfl,rfl,_⟩,_,rfl⟩:=e1;rw[hcell jj (by omega),<-zeq r ptr jj (by rw[HL.out];exact hlt)]
     have:=congrArg (λl=>l[0]?) hdrop
     simpa[List.getElem?_drop] using this
    have hth:wr.frozen? ⟨a,o+ii,none⟩=false:=by
     rcases hown.2 with ⟨h1,_⟩|⟨g',o',cap',cur,h1',hg,_⟩
     ·simp at h1
     ·simp only[Value.slice.injEq,Option.some.injEq,Addr.mk.injEq] at h1';obtain⟨⟨rfl,rfl,_⟩,_,rfl⟩:=h1';simp[World.frozen?,hg]
    have hci:∃ u,wr.cell? ⟨a,o+ii,none⟩=some u:=by obtain⟨a',o',cap',e1,_,_,hcell⟩:=hown.at (by omega);simp only[Value.slice.injEq,Option.some.injEq,Addr.mk.injEq] at e1;obtain⟨⟨rfl,rfl,_⟩,_,rfl⟩:=e1;have hxl:=hown.1;exact⟨xs[ii]'(by omega),by rw[hcell ii (by omega),List.getElem?_eq_getElem (by omega)]⟩
    obtain⟨ui,hci⟩:=hci;have kk:=zpc wr _ q bx (hgrew.cell hbx n1) (hgrew.isBlk (HB.out jj hlt) (HN.out jj hlt)) (hgrew.isBlk hq n2);have HS:=hide (zkm r (λn => !(q == ptr n)) jj (by rw[HL.out];exact hlt));have HD:Hid (xs.drop (jj+1)=(zat r ptr).drop (jj+1)):=by
     show _=_
     rw[<-List.drop_drop,hdrop,List.drop_drop]
    cases he:(q == ptr (r.getD jj 0)) with
    | true =>
     have HT:Hid ((r.take (jj+1)).filter (λn => !(q == ptr n))=(r.take jj).filter (λn => !(q == ptr n))):=by show _=_;rw[HS.out,he];simp
     rw[he] at kk;clear he HS;generalize ptr (r.getD jj 0)=z at hc kk;clear hlen hown htake hdrop hgrew
     go_wp2_with (go_at_call 174;refine kk.mono ?_;rintro e w' ⟨rfl,hw⟩;replace hw:=hw.symm;subst hw)
     go_roundw
     case rel =>
      obtain⟨hlen,hown,htake,hdrop,hgrew⟩:=HI.out;exact⟨_,_,_,_,_,_,_,_,_,_,_,_,_,_,_,_,_,_,_,_,_,_,_,⟨ii,jj+1,xs,by omega,by omega,rfl,rfl,by rw[HT.out];exact hlen,hown,by rw[HT.out];exact htake,HD.out,hgrew⟩,rfl⟩
     case measure=>simp[intOf];omega
    | false =>
     have HT:Hid ((r.take (jj+1)).filter (λn => !(q == ptr n))=(r.take jj).filter (λn => !(q == ptr n))++[r.getD jj 0]):=by show _=_;rw[HS.out,he];simp
     rw[he] at kk;clear he HS;generalize hz:ptr (r.getD jj 0)=z at hc kk;have HZ:=hide hz;clear hz hlen hown htake hdrop hgrew
     go_wp2_with (go_at_call 174;refine kk.mono ?_;rintro e w' ⟨rfl,hw⟩;replace hw:=hw.symm;subst hw)
     go_roundw
     case rel =>
      obtain⟨hlen,hown,htake,hdrop,hgrew⟩:=HI.out;have hxl:=hown.1;refine⟨_,_,_,_,_,_,_,_,_,_,_,_,_,_,_,_,_,_,_,_,_,_,_,⟨ii+1,jj+1,xs.set ii (.pointer (some ⟨z,0,none⟩)),by omega,by omega,rfl,rfl,by rw[HT.out,List.length_append,hlen];rfl,hown.set ii _,?_,?_,hgrew.setOwn rfl _ _⟩,rfl⟩
      ·rw[HT.out,List.take_add_one,List.getElem?_set,if_pos rfl,if_pos (by omega),List.take_set_of_le (Nat.le_refl _),htake];simp only[zat,List.map_append,List.map_cons,List.map_nil,HZ.out,Option.toList_some]
      ·rw[List.drop_set,if_pos (by omega),HD.out]
     case measure=>simp[intOf];omega
   ·have hjn:jj=n:=by omega
    subst hjn;obtain⟨w2,hcl,ho2,hg2⟩:=zom (P:=Tryz.prog) (t:=100) Tryz.underlying100 Tryz.zeroPS rfl rfl hown ii (jj-ii) (cap-ii) (by omega) (by omega) (by omega);have HF:Hid ((r.filter (λn => !(q == ptr n))).length=ii/\zat (r.filter (λn => !(q == ptr n))) ptr=xs.take ii):=by
     show _/\_
     rw[<-HL.out,List.take_length] at hlen htake;exact⟨hlen,htake.symm⟩
    have HO2:=hide ho2;have HG2:=hide (hgrew.trans hg2);clear hlen hown htake hdrop hgrew ho2 hg2
    go_wp2
    go_ret
    exact⟨_,rfl,zbv HO2.out HF.out.1.symm HF.out.2.symm,HG2.out⟩
end Go.Proofs.YtoijpogadkogcaaGreat
