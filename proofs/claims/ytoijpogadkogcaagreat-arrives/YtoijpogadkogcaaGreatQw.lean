import Derived.Test.YtoijpogadkogcaaGreatQb
import Derived.Deep.RegionLaw
namespace Go.Proofs.YtoijpogadkogcaaGreat
open Go.RowKit
set_option maxRecDepth 100000
theorem zzbbz(m:List (List UInt8×List UInt8))(h:zbi m=true):unpacks (zah m)=some m:=by simp only[zbi,ziv,Bool.and_eq_true,decide_eq_true_eq,List.all_eq_true] at h;obtain⟨⟨h1,h8⟩,hok⟩:=h;have hl:=zlf m hok;unfold unpacks;rw[if_neg (by omega)];exact zyk 8 m h8 hok
set_option maxHeartbeats 1600000 in
theorem zzv(va vb:Value)(m:List (List UInt8×List UInt8))(w:World)(ha:zbq w va m)(hb:zbq w vb m)(hm:m.length<=1000) :
  Calls Tryz.prog 32 #[va,vb] w λe w'=>e = .returned (.bool true)/\Ext w w':=by
 obtain⟨a,capa,rfl,ha1,ha2,ha3⟩:=ha;obtain⟨b,capb,rfl,hb1,hb2,hb3⟩:=hb;have HA:=hide ha3;have HB:=hide hb3;clear ha3 hb3
 go_enter Tryz.func32,Tryz.ntmps32
 go_wp2
 go_loopw [5] (λi wr => ∃ k:Nat,k<=m.length/\i = .int .i64 k/\Ext w wr) (λi _=>m.length-(intOf i).toNat)
 case atStart=>exact⟨0,Nat.zero_le _,rfl,Ext.refl _⟩
 case round =>
  obtain⟨k,hk,rfl,hE⟩:=hrel;by_cases hlt:k<m.length
  ·obtain⟨a1,o1,rfl,hca⟩:∃ b o,a=some ⟨b,o,none⟩ /\ ∀ i,i<m.length->w.cell? ⟨b,o+i*2,none⟩=some (.string ⟨(m.getD i ([],[])).1.toArray⟩)/\w.cell? ⟨b,o+i*2+1,none⟩=some (.string ⟨(m.getD i ([],[])).2.toArray⟩):=by
    rcases HA.out with h|h
    ·rw[h] at hlt;simp at hlt
    ·exact h
   obtain⟨b1,o2,rfl,hcb⟩:∃ b' o,b=some ⟨b',o,none⟩ /\ ∀ i,i<m.length->w.cell? ⟨b',o+i*2,none⟩=some (.string ⟨(m.getD i ([],[])).1.toArray⟩)/\w.cell? ⟨b',o+i*2+1,none⟩=some (.string ⟨(m.getD i ([],[])).2.toArray⟩):=by
    rcases HB.out with h|h
    ·rw[h] at hlt;simp at hlt
    ·exact h
   have h1:=hE.cell (hca k hlt).1;have h2:=hE.cell (hca k hlt).2;have h3:=hE.cell (hcb k hlt).1;have h4:=hE.cell (hcb k hlt).2;generalize m.getD k ([],[])=p at h1 h2 h3 h4;have hlt':(k:Int)<(m.length:Int):=by omega
   clear hca hcb
   go_wp2_with fail
   go_quiet (fail)
   have hE2:=hE.trans (zay wr nq)
   go_wp2
   go_roundw
   case rel=>exact⟨k+1,by omega,by go_num,hE2⟩
   case measure=>simp[intOf];omega
  ·go_wp2
   go_ret
   exact⟨rfl,hE⟩
theorem zue{P:Program}{ops:Array Oper}{o:Oper}{a:Act}{w:World}{K:Act->World->Prop}{Q:Exit->Act->World->Prop}{E:Prop}
  (hg:o.guard=none) (s x:Operand) (t tx:TypeId) (hop:o.op=Op.call { callee:=Callee.builtin Builtin.append,args:=#[s,x],argTypes:=#[t,tx] })
  (base:Nat) (e:TypeId) (i:TypeInfo) (z:Value) (size bytes:Nat) (ht:P.underlying t=some (.slice e)) (hi:P.info? e=some i) (hz:i.zero=some z)
  (hsize:i.size=size) (hby:i.bytes=bytes) (hzs:z.cells.size=size) (hsz:0<size)
  (v:Value) (n:Nat) (xs:List Value) (hs:a.eval s=v) (hown:w.ownsRow base e size v n xs)
  (y:Value) (m:Nat) (news:List Value) (hx:a.eval x=y) (hsrc:Src P size tx y m news w)
  (h63:n+m<=maxLen) (hbytes:(n+m)*bytes<=140737488355328) (hbase:base<=w.heap.size)
  (hK:∀ v' w',w'.ownsRow base e size v' (n+m) (xs++news)->zau w v w' v'->K (a.put o.dst v') w') :
  if Region.wanted o (yielded ops a.tmps)=true then Oper.wp P o a w K Q else E:=by
 have hw:Region.wanted o (yielded ops a.tmps)=true:=by simp[Region.wanted,hg]
 rw[if_pos hw];obtain⟨v',w',hr,h2,h3⟩:=zmh (P:=P) w base t tx o.type e i z size bytes ht hi hz hsize hby hzs hsz v n xs hown y m news hsrc h63 hbytes hbase;unfold Oper.wp;simp[execOp,hop,resolve,invoke,builtin,hs,hx,hr,Result.andThen];exact hK v' w' h2 h3
theorem zmc(c m:Int)(h:c<0)(hm:0<m):0 <= -((c+1).tmod m) /\ -((c+1).tmod m)<m:=by
 have e:-((c+1).tmod m)=(-(c+1)).tmod m:=by rw[Int.neg_tmod]
 rw[e,Int.tmod_eq_emod_of_nonneg (by omega)];exact⟨Int.emod_nonneg _ (by omega),Int.emod_lt_of_pos _ hm⟩
set_option maxHeartbeats 800000 in
theorem zzbjv(c m:Int)(w:World)(hc1:-9223372036854775808<=c)(hc2:c<=9223372036854775807)(hm1:0<m)(hm2:m<=9223372036854775807) :
  Calls Tryz.prog 19 #[.int .i64 c,.int .i64 m] w λe w' => ∃ n:Int,0<=n/\n<m/\e = .returned (.int .i64 n)/\w'=w:=by
 by_cases h:c<0
 ·go_enter Tryz.func19,Tryz.ntmps19
  go_wp2
  go_ret
  exact⟨_,(zmc c m h hm1).1,(zmc c m h hm1).2,rfl,rfl⟩
 ·go_enter Tryz.func19,Tryz.ntmps19
  go_wp2
  go_ret
  exact⟨_,Int.emod_nonneg _ (by omega),Int.emod_lt_of_pos _ hm1,rfl,rfl⟩
theorem zzbhh(w:World)(A B:Array Value)(q:List UInt8->Bool)(h:∀ i,i<8 -> ∃ x:ByteArray,A[i]? = some (.string x)/\q x.data.toList=true) :
  ∀ i,i<8 -> ∃ x:ByteArray,((w.alloc (.cells A 9)).alloc (.cells B 9)).cell? ⟨w.heap.size,i,none⟩=some (.string x)/\q x.data.toList=true:=by
 intro i hi;obtain⟨x,hx,hq⟩:=h i hi;refine⟨x,?_,hq⟩;have e:((w.alloc (.cells A 9)).alloc (.cells B 9)).heap[w.heap.size]? = some (.cells A 9 (0,0)):=by rw[Below.heap_alloc _ _ _ (by simp)];exact heap_alloc_new w _
 unfold World.cell?;simp only[e];simpa using hx
theorem zzbfb(w:World)(A B:Array Value)(q:List UInt8->Bool)(h:∀ i,i<8 -> ∃ x:ByteArray,B[i]? = some (.string x)/\q x.data.toList=true) :
  ∀ i,i<8 -> ∃ x:ByteArray,((w.alloc (.cells A 9)).alloc (.cells B 9)).cell? ⟨w.heap.size+1,i,none⟩=some (.string x)/\q x.data.toList=true:=by
 intro i hi;obtain⟨x,hx,hq⟩:=h i hi;refine⟨x,?_,hq⟩;have e0:(w.alloc (.cells A 9)).heap.size=w.heap.size+1:=by simp
 have e:((w.alloc (.cells A 9)).alloc (.cells B 9)).heap[w.heap.size+1]? = some (.cells B 9 (0,0)):=by rw[<-e0];exact heap_alloc_new _ _
 unfold World.cell?;simp only[e];simpa using hx
theorem zzbmr{P:Program}(w:World){t e':TypeId}(ht:P.underlying t=some (.slice e'))(g:Nat){x y:ByteArray}(hx:w.cell? ⟨g,0,none⟩=some (.string x))(hy:w.cell? ⟨g,1,none⟩=some (.string y)):Src P 2 t (.slice (some ⟨g,0,none⟩) 1 1) 1 [.string x,.string y] w :=
 Src.ofSlice w ht ⟨g,0,none⟩ 1 1 [.string x,.string y] rfl (λj u hj=>by
  match j,hj with
  | 0,hj=>simp at hj;subst hj;simpa[Addr.add] using hx
  | 1,hj=>simp at hj;subst hj;simpa[Addr.add] using hy) (λu hu=>by simp at hu;rcases hu with rfl | rfl<;>rfl)
theorem zjx(q:Nat)(h:q<1099511627776):IntKind.i64.wrap (q:Int)=(q:Int):=by
 have h1:(q:Int)%18446744073709551616=(q:Int):=by omega
 simp only[IntKind.wrap,IntKind.bits,IntKind.signed];simp only[show (2:Int) ^ 64=18446744073709551616 from rfl,show (2:Int) ^ (64-1)=9223372036854775808 from rfl,h1];simp;omega
set_option maxHeartbeats 1600000 in
theorem zmd(c:Int)(w:World)(hc1:-9223372036854775808<=c)(hc2:c<=9223372036854775807) :
  Calls Tryz.prog 28 #[.int .i64 c] w λe w' => ∃ m v,e = .returned v/\zbi m=true/\w'.ownsRow w.heap.size 122 2 v m.length (zap m)/\Ext w w':=by
 obtain⟨i0,hi,hz0,hz1,hz2⟩:=info_parts Tryz.infoPair
 go_enter Tryz.func28,Tryz.ntmps28
 go_wp2_with fail
 refine(zzbjv c 1099511627776 _ hc1 hc2 (by omega) (by omega)).mono ?_;rintro e w1 ⟨n0,hn0,hn1,rfl,hw⟩;have HN:Hid (∀ i,i<8 -> ∃ x:ByteArray,w1.cell? ⟨w.heap.size,i,none⟩=some (.string x)/\zfo x.data.toList=true):=by
  show ∀ i,i<8->_
  rw[hw];refine zzbhh w _ _ zfo (λi hi => ?_)
  match i,hi with
  | 0,_=>exact⟨_,rfl,by decide +kernel⟩
  | 1,_=>exact⟨_,rfl,by decide +kernel⟩
  | 2,_=>exact⟨_,rfl,by decide +kernel⟩
  | 3,_=>exact⟨_,rfl,by decide +kernel⟩
  | 4,_=>exact⟨_,rfl,by decide +kernel⟩
  | 5,_=>exact⟨_,rfl,by decide +kernel⟩
  | 6,_=>exact⟨_,rfl,by decide +kernel⟩
  | 7,_=>exact⟨_,rfl,by decide +kernel⟩
 have HV:Hid (∀ i,i<8 -> ∃ x:ByteArray,w1.cell? ⟨w.heap.size+1,i,none⟩=some (.string x)/\zft x.data.toList=true):=by
  show ∀ i,i<8->_
  rw[hw];refine zzbfb w _ _ zft (λi hi => ?_)
  match i,hi with
  | 0,_=>exact⟨_,rfl,by decide +kernel⟩
  | 1,_=>exact⟨_,rfl,by decide +kernel⟩
  | 2,_=>exact⟨_,rfl,by decide +kernel⟩
  | 3,_=>exact⟨_,rfl,by decide +kernel⟩
  | 4,_=>exact⟨_,rfl,by decide +kernel⟩
  | 5,_=>exact⟨_,rfl,by decide +kernel⟩
  | 6,_=>exact⟨_,rfl,by decide +kernel⟩
  | 7,_=>exact⟨_,rfl,by decide +kernel⟩
 have HE:Ext w w1:=by rw[hw];exact((Ext.refl _).alloc _).alloc _
 clear hw;obtain⟨n,rfl⟩:=Int.eq_ofNat_of_zero_le hn0;clear hc1 hc2
 go_wp2_with fail
 go_loopw [5,6,7] (λl v i wr => ∃ (m:List (List UInt8×List UInt8)) (n:Nat),m.length<=4/\i = .int .i64 m.length/\v = .int .i64 n/\n<1099511627776/\wr.ownsRow w1.heap.size 122 2 l m.length (zap m)/\Ext w1 wr/\Hid (∀ p∈m,zbs p=true)) (λ_ _ i _=>4-(intOf i).toNat)
 case atStart=>exact⟨[],n,by simp,rfl,rfl,by omega,World.ownsRow_nil _ _ _ _,Ext.refl _,λp hp=>by cases hp⟩
 case round =>
  clear hn0 hn1;obtain⟨m,n,hm,rfl,rfl,hn,hown,hE,HM⟩:=hrel;by_cases hlt:m.length<=n%4
  ·obtain⟨n1,hn1⟩:∃ n1,n1=n/8:=⟨_,rfl⟩;obtain⟨q,hq⟩:∃ q,q=n1/8:=⟨_,rfl⟩;obtain⟨i1,hi1⟩:∃ i,i=n1%8:=⟨_,rfl⟩;obtain⟨i2,hi2⟩:∃ i,i=q%8:=⟨_,rfl⟩;have e1:((n:Int)/8)=(n1:Int):=by omega
   have e2:((n1:Int)/8)=(q:Int):=by omega
   have e3:((n1:Int)%8)=(i1:Int):=by omega
   have e4:((q:Int)%8)=(i2:Int):=by omega
   have f3:((n1:Int)).tmod 8=(i1:Int):=by rw[Int.tmod_eq_emod_of_nonneg (by omega)];exact e3
   have f4:((q:Int)).tmod 8=(i2:Int):=by rw[Int.tmod_eq_emod_of_nonneg (by omega)];exact e4
   have f5:IntKind.i64.wrap (q:Int)=(q:Int):=zjx q (by omega);have hcond:((m.length:Nat):Int)<=(n:Int)%4:=by omega
   have b1:(i1:Int)<8:=by omega
   have b2:(i2:Int)<8:=by omega
   have hn1':n1<1099511627776:=by omega
   obtain⟨x,hcx,hx⟩:=HN.out i1 (by omega);obtain⟨y,hcy,hy⟩:=HV.out i2 (by omega);have hcx:=hE.cell hcx;have hcy:=hE.cell hcy;have HO:Hid (zbs (zch x y)=true):=by show zbs (zch x y)=true;simp[zbs,zch,hx,hy]
   clear hx hy hn1 hq hi1 hi2 hlt;have hsz:w1.heap.size<=wr.heap.size:=hE.size;have HEX:=hide (hE.alloc (.cells #[.string x,.string y] 122));have HOX:=hide (hown.alloc (.cells #[.string x,.string y] 122));clear hE hown
   go_wp2_with fail
   go_region_law (
    refine zue rfl (.tmp 21) (.tmp 34) 43 43 rfl w1.heap.size 122 i0 (.agg #[.string ⟨#[]⟩,.string ⟨#[]⟩]) 2 32 Tryz.underlying43 hi hz0 hz1 hz2 rfl (by decide) u5 m.length (zap m) ?_ ?_ (.slice (some ⟨wr.heap.size,0,none⟩) 1 1) 1 [.string x,.string y] ?_ ?_ ?_ ?_ ?_ ?_
    ·simp[Act.eval]
    ·exact HOX.out.drew
    ·simp[Act.eval]
    ·refine zzbmr _ Tryz.underlying43 _ ?_ ?_<;>simp
    ·unfold maxLen;omega
    ·omega
    ·simp;omega
    intro v3 w3 hown3 hgrew3;have hE3:Ext w1 w3:=Ext.trans' HEX.out.drew hgrew3 HOX.out.drew (Nat.le_refl _);clear hgrew3)
   all_goals
    have hown4:w3.ownsRow w1.heap.size 122 2 v3 (m++[zch x y]).length (zap (m++[zch x y])):=zfi hown3 (by simp) (by rw[zoj];rfl);clear hown3
    go_wp2
    go_roundw
    case rel =>
     refine⟨m++[zch x y],n1,by simp;omega,by simp,rfl,hn1',hown4,hE3,λp hp => ?_⟩;rcases List.mem_append.1 hp with hp | hp
     ·exact HM.out p hp
     ·rw[List.mem_singleton.1 hp];exact HO.out
    case measure=>simp[intOf];omega
  ·have hcond:¬ ((m.length:Nat):Int)<=(n:Int)%4:=by omega
   have HP:Hid (zbi m=true):=by
    show zbi m=true
    simp only[zbi,ziv,Bool.and_eq_true,decide_eq_true_eq,List.all_eq_true];exact⟨⟨by omega,by omega⟩,HM.out⟩
   clear hlt
   go_wp2
   go_ret
   exact⟨m,_,rfl,HP.out,zoy hown HE.size,HE.trans hE⟩
end Go.Proofs.YtoijpogadkogcaaGreat
