import Derived.Test.YtoijpogadkogcaaGreatRr
import Derived.Deep.RegionHeld3
namespace Go.Proofs.YtoijpogadkogcaaGreat
open Go.RowKit
set_option maxRecDepth 100000
def In64 (x:Int):Prop:=-9223372036854775808≤x∧x≤9223372036854775807
def StepsIs (w:World) (v:Value):Prop :=
 ∃ a n cap,v = .slice a n cap∧n≤cap∧cap≤maxLen∧(n=0 ∨ ∃ b o,a=some ⟨b,o,none⟩ ∧ ∀ i,i<n → ∃ x0 x1 x2 x3:Int,In64 x0∧In64 x1∧In64 x2∧In64 x3 ∧
  w.cell? ⟨b,o+i*4,none⟩=some (.int .i64 x0)∧w.cell? ⟨b,o+i*4+1,none⟩=some (.int .i64 x1)∧w.cell? ⟨b,o+i*4+2,none⟩=some (.int .i64 x2)∧w.cell? ⟨b,o+i*4+3,none⟩=some (.int .i64 x3))
theorem Hold.base {wb w:World} {gl:Nat} {lv:Bool} {p m L S:Nat} {Q:Ds→Ds→List Line→Res→Prop} (h:Hold wb gl lv p m L S Q w):Ext wb w:=by
 obtain⟨own,gx,gy,dx,dy,vu,vd,vl,up,down,ls,xs,h1,-⟩:=h;exact h1.base
def HeldE (gO:Nat) (d e:Ds) (ls:List Line) (R:Res):Prop:=∃ g,HeldQ gO g d e ls R
def HI (M:Nat) (wb:World) (gl gO:Nat) (i j:Nat) (w:World):Prop:=Hold wb gl false 2 (M+5000*j) 0 (4+300*i) (HeldE gO) w
theorem zvr (streams:Int) (w:World) (h1:-9223372036854775808≤streams) (h2:streams≤9223372036854775807) :
  Calls Tryz.prog 11 #[.int .i64 streams] w fun e w' => ∃ gl,e = .returned (.pointer (some ⟨gl,0,none⟩))∧Hold w gl false 2 50000000 0 4 JQ w':=zxe streams w h1 h2
theorem zero54:Tryz.zeroCells54=outArr fun _=>0:=by rfl
theorem zzbai {wb w:World} {gl:Nat} {lv:Bool} {m S:Nat} (h:Hold wb gl lv 2 m 0 S JQ w) :
  (w.alloc (Obj.cells Tryz.zeroCells54 54)).cell? ⟨w.heap.size,1,none⟩=some (.int .i64 0)∧(w.alloc (Obj.cells Tryz.zeroCells54 54)).frozen? ⟨w.heap.size,1,none⟩=false ∧
  Hold wb gl lv 2 m 0 S (HeldE w.heap.size) ((w.alloc (Obj.cells Tryz.zeroCells54 54)).setCell ⟨w.heap.size,1,none⟩ (.int .i64 4)):=by
 obtain⟨own,gx,gy,dx,dy,vu,vd,vl,up,down,ls,xs,h1,h2,h3,h4,h5,h6,h7,h8,h9⟩:=h;rw[zero54];have S1:=h1.addObj (.e 1000) (.cells (outArr fun _=>0) 54 (0,0));have n1:=zac own (.e 1000) (.obj w.heap.size (.cells (outArr fun _=>0) 54 (0,0)));refine⟨(S1.cell n1 1).trans (zpy _ 1 (by omega)),S1.thaw n1 1,?_⟩;have S2:=S1.setObj n1 1 (.int .i64 ((4:Nat):Int));rw[zpz] at S2;have ee:∀ n:LN,n ≠ .e 1000→upd (upd own (.e 1000) (.obj w.heap.size (.cells (outArr fun _=>0) 54 (0,0)))) (.e 1000) (.obj w.heap.size (.cells (outArr fun k=>if k=1 then 4 else 0) 54 (0,0))) n=own n:=fun n hn=>(zaa _ _ hn).trans (zaa _ _ hn);have hl:=h6.newStr.2;refine⟨_,gx,gy,dx,dy,vu,vd,vl,up,down,ls,xs,S2,h2.alike (fun n hn _=>ee n (hn 1000)),⟨h3.len,fun k t hk=>(h3.at_ k t hk).alike (fun j hj => ?_) (fun _ _=>rfl),fun k hk h0 => ?_⟩,h4,h5,h6,_,zac _ _ _,h7,fun s hs=>by rw[show sideI true+s=s from Nat.zero_add s];exact h8 s hs,h9⟩
 ·have:k<ls.length:=(List.getElem?_eq_some_iff.1 hk).1
  exact ee _ (fun e=>by injection e with e;omega)
 ·rw[ee _ (fun e=>by injection e with e;omega)];exact h3.free k hk h0
theorem HeldE.stable (gO:Nat):Stable (HeldE gO):=fun dx dy ls R dx' dy' ls' ⟨g,h⟩ k=>⟨g,HeldQ.stable gO g dx dy ls R dx' dy' ls' h k⟩
theorem pk_id (x:Int) (h0:0≤x) (h1:x<17):pk x 17=x:=by
 unfold pk;rw[if_neg (by omega)];omega
theorem zzbdc {M:Nat} {wb w:World} {gl gO i j:Nat} (h:HI M wb gl gO i (j+1) w) (hM:100≤M) (hij:i+(j+1)=150) (k:Nat) (hk:k<11) (x1 x2 x3:Int) (h1:In64 x1) (h2:In64 x2) (h3:In64 x3) :
  Calls Tryz.prog 12 #[.pointer (some ⟨gl,0,none⟩),.agg #[.int .i64 (k:Int),.int .i64 x1,.int .i64 x2,.int .i64 x3],.bool false] w fun e w'=>e = .returned (.bool true)∧Hold wb gl false 2 (M+5000*j+3000) 0 (4+300*(i+1)) (HeldE gO) w':=by
 refine(zxd (m:=M+5000*j+3000) (h.less (by omega)) (HeldE.stable gO) (fun _ _ _ _ _ => .inr (by omega)) (by omega) (by omega) (by omega) (k:Int) x1 x2 x3 (by omega) (by omega) h1.1 h1.2 h2.1 h2.2 h3.1 h3.2 (L':=0) (Nat.le_refl _) (.inl (by rw[pk_id _ (by omega) (by omega)];omega))).mono ?_;rintro e w' ⟨q1,q2⟩;exact⟨q1,q2.fitQ (Nat.le_refl _) (Nat.le_refl _) (by omega)⟩
theorem zyk {dx dy:Ds} {ls:List Line} {m:Nat} (c:Bool) (h:TD true dx dy [] [] ls 2 m 0):TD c (pickD c dx dy) (pickD c dy dx) [] [] ls 2 m 0:=by
 cases c
 ·exact h.swap
 ·exact h
def gUp (c:Bool) (Q:List Fr) (g:Nat→Nat) (l:List Line) (x:Nat):Nat:=if sideI c≤x∧x-sideI c∈l.map Line.id then g x+(dat (x-sideI c) Q).length else g x
theorem zzbgg (c:Bool) (Q:List Fr) (g:Nat→Nat):gUp c Q g []=g:=by
 funext x
 unfold gUp;rw[if_neg (by simp)]
theorem zzbdd (c:Bool) (Q:List Fr) (g:Nat→Nat) (l:List Line) (s:Nat) (h:s ∉ l.map Line.id):gUp c Q g l (sideI c+s)=g (sideI c+s):=by
 unfold gUp;rw[if_neg (by rw[Nat.add_sub_cancel_left];exact fun q=>h q.2)]
theorem zyl (c:Bool) (Q:List Fr) (g:Nat→Nat) (l:List Line) (t:Line):(fun x=>if x=sideI c+t.id then g (sideI c+t.id)+(dat t.id Q).length else gUp c Q g l x)=gUp c Q g (l++[t]):=by
 funext x
 by_cases e:x=sideI c+t.id
 ·rw[if_pos e,e];unfold gUp;rw[if_pos ⟨by omega,by rw[Nat.add_sub_cancel_left];simp⟩,Nat.add_sub_cancel_left]
 ·rw[if_neg e];unfold gUp
  have:(sideI c≤x∧x-sideI c∈(l++[t]).map Line.id)↔(sideI c≤x∧x-sideI c∈l.map Line.id):=by
   rw[List.map_append,List.mem_append];constructor
   ·rintro ⟨q1,q2 | q2⟩
    ·exact⟨q1,q2⟩
    ·exfalso
     have:x-sideI c=t.id:=by simpa using q2
     omega
   ·rintro ⟨q1,q2⟩;exact⟨q1,.inl q2⟩
  by_cases q:sideI c≤x∧x-sideI c∈l.map Line.id
  ·rw[if_pos q,if_pos (this.2 q)]
  ·rw[if_neg q,if_neg fun z=>q (this.1 z)]
theorem zln {α:Type} {l:List α} {k:Nat} {t:α} (h:l[k]? = some t):l.take (k+1)=l.take k++[t]:=by
 rw[List.take_add_one,h];rfl
theorem zzbaj {ls:List Line} {k:Nat} {t:Line} (hn:(ls.map Line.id).Nodup) (h:ls[k]? = some t):t.id ∉ (ls.take k).map Line.id:=by
 intro hx;obtain⟨u,hu,e⟩:=List.mem_map.1 hx;obtain⟨j,hj⟩:=List.mem_iff_getElem?.1 hu;have hjk:j<k:=by
  have:=(List.getElem?_eq_some_iff.1 hj).1
  rw[List.length_take] at this;omega
 rw[List.getElem?_take,if_pos hjk] at hj;have a1:(ls.map Line.id)[j]? = some t.id:=by rw[List.getElem?_map,hj,←e];rfl
 have a2:(ls.map Line.id)[k]? = some t.id:=by rw[List.getElem?_map,h];rfl
 obtain⟨b1,b2⟩:=List.getElem?_eq_some_iff.1 a1;obtain⟨c1,c2⟩:=List.getElem?_eq_some_iff.1 a2
 have:=(List.pairwise_iff_getElem.1 hn) j k b1 c1 hjk
 rw[b2,c2] at this;exact this rfl
theorem zzbgh (P:Program) (W:World) (ts:Array TypeId) (ty:TypeId) (a b c:Int) (h:max a b=c):(Builtin.max_ ts ty #[.int .i64 a,.int .i64 b]).run P W = .ok (.int .i64 c) W:=by
 simp[Builtin.max_,Builtin.max2];omega
set_option maxHeartbeats 6400000 in
theorem zzbex (streams:Int) (v:Value) (w:World) (h1:-9223372036854775808≤streams) (h2:streams≤9223372036854775807) (hv:StepsIs w v) :
  Calls Tryz.prog 7 #[.int .i64 streams,v] w fun e w'=>e = .returned (.bool true)∧Ext w w':=by
 obtain⟨a,n,cap,rfl,hn1,hn2,hs⟩:=hv;have kj:=zvr streams w h1 h2;have HS:=hide hs;have hn3:n≤9223372036854775807:=by unfold maxLen at hn2;omega
 clear hs h1 h2 hn1 hn2
 go_enter Tryz.func7,Tryz.ntmps7
 go_wp2_with fail
 refine kj.mono ?_;rintro e w1 ⟨gl,rfl,hC⟩;have HC:=hide hC;clear kj hC
 go_upto_region 5 with fail
 obtain⟨c1,f1,hH⟩:=zzbai HC.out;have HH:Hid (HI 40000000 w gl w1.heap.size 0 150 ((w1.alloc (Obj.cells Tryz.zeroCells54 54)).setCell ⟨w1.heap.size,1,none⟩ (.int .i64 4))):=hH.less (by omega);clear hH HC;generalize hW:w1.alloc (Obj.cells Tryz.zeroCells54 54)=W at *;generalize w1.heap.size=gO at *;clear hW
 go_wp2
 go_loopw [7] (fun s7 wr => ∃ i j:Nat,i+j=150∧i≤n∧s7 = .int .i64 (i:Int)∧Hid (HI 40000000 w gl gO i j wr)) (fun s7 _=>150-(intOf s7).toNat)
 case atStart=>exact⟨0,150,rfl,Nat.zero_le _,rfl,HH⟩
 case round =>
  obtain⟨i,j,hij,hin,rfl,H1⟩:=hrel;clear HH c1 f1;by_cases hlt:i<n∧i<150
  ·obtain⟨hl1,hl2⟩:=hlt;obtain⟨j,rfl⟩:∃ j',j=j'+1:=⟨j-1,by omega⟩;obtain⟨b,o,ha,x0,x1,x2,x3,b0,b1,b2,b3,y0,y1,y2,y3⟩:∃ b o,a=some ⟨b,o,none⟩ ∧ ∃ x0 x1 x2 x3:Int,In64 x0∧In64 x1∧In64 x2∧In64 x3∧w.cell? ⟨b,o+i*4,none⟩=some (.int .i64 x0)∧w.cell? ⟨b,o+i*4+1,none⟩=some (.int .i64 x1)∧w.cell? ⟨b,o+i*4+2,none⟩=some (.int .i64 x2)∧w.cell? ⟨b,o+i*4+3,none⟩=some (.int .i64 x3):=by
    rcases HS.out with h0 | ⟨b,o,e,h⟩
    ·omega
    ·exact⟨b,o,e,h i hl1⟩
   subst ha;have hl1':(i:Int)<(n:Int):=by omega
   have hl2':(i:Int)<150:=by omega
   have hE:Ext w wr:=Hold.base H1.out;have z0:wr.drew.cell? ⟨b,o+i*4,none⟩=some (.int .i64 x0):=hE.cell y0;have z1:wr.drew.cell? ⟨b,o+i*4+1,none⟩=some (.int .i64 x1):=hE.cell y1;have z2:wr.drew.cell? ⟨b,o+i*4+2,none⟩=some (.int .i64 x2):=hE.cell y2;have z3:wr.drew.cell? ⟨b,o+i*4+3,none⟩=some (.int .i64 x3):=hE.cell y3;obtain⟨k,hk,kk⟩:∃ k:Nat,k<11 ∧ ∀ W,Calls Tryz.prog 19 #[.int .i64 x0,.int .i64 11] W fun e w'=>e = .returned (.int .i64 (k:Int))∧w'=W:=by
    obtain⟨p1,p2⟩:=zcs x0 11 (by omega);refine⟨(pk x0 11).toNat,by omega,fun W => ?_⟩
    have:=zgk x0 11 W b0.1 b0.2 (by omega) (by omega)
    rwa [show (((pk x0 11).toNat:Nat):Int)=pk x0 11 by omega]
   have kD:=zzbdc (w:=wr.drew) (Hold.ext H1.out (Ext.refl wr).drew) (by omega) hij k hk x1 x2 x3 b1 b2 b3;have kK:=kk;have hi0:(0:Int)≤(i:Int):=by omega
   clear kk hk;have HY:=hide (And.intro y0 (And.intro y1 (And.intro y2 y3)));have HB:=hide (And.intro b0 (And.intro b1 (And.intro b2 b3)));clear y0 y1 y2 y3 b0 b1 b2 b3 H1 hE
   go_upto_region 9 with fail
   go_cut [8] from 34 to 58 (fun s8 wx=>s8 = .bool true∧Hid (Hold w gl false 2 (40000000+5000*j+3000) 0 (4+300*(i+1)) (HeldE gO) wx))
   case first =>
    go_region_held3 (fun wx=>wx.cell? ⟨b,o+i*4,none⟩=some (.int .i64 x0)∧wx.cell? ⟨b,o+i*4+1,none⟩=some (.int .i64 x1)∧wx.cell? ⟨b,o+i*4+2,none⟩=some (.int .i64 x2)∧wx.cell? ⟨b,o+i*4+3,none⟩=some (.int .i64 x3)) (go_keep)
     (first
     | (go_at_call 19;with_reducible refine(kK _).mono ?_;rintro e w0 ⟨rfl,hw⟩;replace hw:=hw.symm;subst hw)
     | (go_at_call 12;refine kD.mono ?_;rintro e w2 ⟨rfl,hh⟩;have HH2:=hide hh;have hE2:=Hold.base hh;have t0:=hE2.cell HY.out.1;have t1:=hE2.cell HY.out.2.1;have t2:=hE2.cell HY.out.2.2.1;have t3:=hE2.cell HY.out.2.2.2;clear hh hE2))
    all_goals
     go_wp2_with fail
     go_meet
     exact⟨rfl,HH2⟩
   case rest =>
    obtain⟨rfl,HH2⟩:=hcut;have hE:Ext w wc:=Hold.base HH2.out;have z1:=hE.cell HY.out.2.1;have z3:=hE.cell HY.out.2.2.2;obtain⟨sd,hsd,ks⟩:∃ k:Nat,k<2 ∧ ∀ W,Calls Tryz.prog 19 #[.int .i64 x1,.int .i64 2] W fun e w'=>e = .returned (.int .i64 (k:Int))∧w'=W:=by
     obtain⟨p1,p2⟩:=zcs x1 2 (by omega);refine⟨(pk x1 2).toNat,by omega,fun W => ?_⟩
     have:=zgk x1 2 W HB.out.2.1.1 HB.out.2.1.2 (by omega) (by omega)
     rwa [show (((pk x1 2).toNat:Nat):Int)=pk x1 2 by omega]
    obtain⟨rr,hrr,kr⟩:∃ k:Nat,k<400 ∧ ∀ W,Calls Tryz.prog 19 #[.int .i64 x3,.int .i64 400] W fun e w'=>e = .returned (.int .i64 (k:Int))∧w'=W:=by
     obtain⟨p1,p2⟩:=zcs x3 400 (by omega);refine⟨(pk x3 400).toNat,by omega,fun W => ?_⟩
     have:=zgk x3 400 W HB.out.2.2.2.1 HB.out.2.2.2.2 (by omega) (by omega)
     rwa [show (((pk x3 400).toNat:Nat):Int)=pk x3 400 by omega]
    obtain⟨own,gx,gy,dx,dy,vu,vd,vl,up,down,ls,xs,h1,h2,h3,h4,h5,h6,g,h7,h8,h9,h10⟩:=HH2.out;have eu:up=[]:=List.eq_nil_of_length_eq_zero (Nat.le_zero.1 h6.ul);have ed:down=[]:=List.eq_nil_of_length_eq_zero (Nat.le_zero.1 h6.vl);subst eu ed;obtain⟨al,ol,cl,hvl,-⟩:=h2.linesV h1 (by omega);subst hvl;obtain⟨c,hc⟩:∃ c:Bool,((sd:Int) == 0)=c:=⟨_,rfl⟩;have p0:wc.cell? ⟨gl,0,none⟩=some (.pointer (some ⟨gx,0,none⟩)):=h2.cc h1 0;have p1:wc.cell? ⟨gl,1,none⟩=some (.pointer (some ⟨gy,0,none⟩)):=h2.cc h1 1;have ke:=zbj c wc p0 p1;have kO:=m_out (m:=40000000+5000*j+1000) c h1 h2 h3 (h6.mono (by omega)) h7 ((rr:Int)-10) (by omega) (by omega);have hw10:IntKind.i64.wrap ((rr:Int)-10)=(rr:Int)-10:=zbn _ (by omega) (by omega);have kS:=ks wc;have kR:=kr wc;have H6:=hide h6;have H4:=hide h4;have H5:=hide h5;have HQ:=hide (And.intro h8 (And.intro h9 h10));clear ks kr h1 h2 h3 h4 h5 h6 h7 h8 h9 h10 p0 p1 HH2 kD kK
    go_wp2_with fail
    refine kS.mono ?_;rintro e w0 ⟨rfl,hw⟩;replace hw:=hw.symm;subst hw
    go_wp2_with fail
    refine kR.mono ?_;rintro e w0 ⟨rfl,hw⟩;replace hw:=hw.symm;subst hw;clear kS kR
    go_wp2_with fail
    refine ke.mono ?_;rintro e w0 ⟨rfl,hw⟩;replace hw:=hw.symm;subst hw;clear ke;generalize hge:(if c then gx else gy)=ge at *
    go_wp2_with fail
    refine kO.mono ?_;rintro e w3 ⟨vo,rfl,hM⟩;obtain⟨Q,r1,r2,r3,r4,r5,r6,r7,r8,r9,r10,r11⟩:=zzbdb (m:=40000000+5000*j) (zyk c (H6.out.mono (m':=40000000+5000*j+1000) (by omega))) (by cases c;exact HQ.out.1.2;exact HQ.out.1.1) (by cases c;exact HQ.out.1.1;exact HQ.out.1.2) ((rr:Int)-10) (by omega);rw[r1] at hM;obtain⟨av,kv,hvo,-⟩:=hM.bytes;subst hvo;have HM:=hide hM;generalize hN:(encs Q).length=N at *;obtain⟨mx,hmx⟩:∃ mx:Int,max ((rr:Int)-10) 0=mx:=⟨_,rfl⟩;have kmx:=fun W=>zzbgh Tryz.prog W #[3,3] 3 ((rr:Int)-10) 0 mx hmx;have hle:¬ mx<(N:Int):=by omega
    have HN:=hide hN;clear hM kO hmx
    go_wp2
    have hnl:ls.length≤99:=H6.out.newStr.2;have HG:Hid (Mid w gl gx gy (outX c dx ((rr:Int)-10)) (outY c dy ((rr:Int)-10)) vu vd (.slice (some ⟨al,ol,none⟩) ls.length cl) false ls xs gO (gUp c Q g (ls.take 0)) (.slice av N kv) (encs Q) w3):=by
     rw[List.take_zero,zzbgg];exact HM.out
    obtain⟨un,hun⟩:∃ un:Nat→Nat,un=fun s=>((pickD c dy dx).stOf s).unread.length:=⟨_,rfl⟩;obtain⟨dn,hdn⟩:∃ dn:Nat→Nat,dn=fun s=>(dat s Q).length:=⟨_,rfl⟩;have HL:Hid (∀ (k:Nat) (t:Line),ls[k]? = some t→1≤t.id∧t.id≤99∧g (sideI c+t.id)=(t.out c).read+un t.id∧un t.id+dn t.id≤100∧(t.out c).read+un t.id+dn t.id≤(t.out c).sent.length):=fun k t ht=>by
     obtain⟨q1,q2,-⟩:=H6.out.line ht;have a1:=r5 t.id;have a2:=r6 t.id (by omega);have a3:=r4 t.id;rw[zei c ht H6.out.nodup] at a1;have a4:g (sideI c+t.id)+((pickD c dx dy).stOf t.id).data.length=(t.out c).sent.length:=by
      rw[←zei c ht H6.out.nodup];cases c
      ·exact HQ.out.2.2 t.id (by omega)
      ·exact HQ.out.2.1 t.id (by omega)
     subst hun hdn;dsimp only;exact⟨q1,q2,by omega,a2,by omega⟩
    have HSUM:Hid (∀ k,((ls.take k).map fun (t:Line)=>un t.id+dn t.id).sum≤150):=fun k=>by
     have:=r7 ((ls.take k).map Line.id) (by rw[List.map_take];exact H6.out.nodup.sublist (List.take_sublist _ _))
     rw[List.map_map] at this;subst hun hdn;exact this
    have HDN:=hide hdn;have HSD:Hid (sd*100=sideI c):=by
     have q:sd=0∨sd=1:=by omega
     rcases q with rfl | rfl
     ·rw[←hc];rfl
     ·rw[←hc];rfl
    have HNB:Hid (N≤1000000000):=(by omega:N≤1000000000);have HNC:Hid (N≤400):=(by omega:N≤400);have HR8:=hide (And.intro r3 (And.intro r4 (And.intro r8 (And.intro r9 (And.intro r10 r11)))));clear r1 r2 r3 r4 r5 r6 r7 r8 r9 r10 r11 HM kmx hle hun hdn
    go_loopw [12,13] (fun s12 s13 wq => ∃ k A:Nat,k≤ls.length∧s13 = .int .i64 (k:Int)∧s12 = .int .i64 (A:Int)∧Hid (A=((ls.take k).map fun (t:Line)=>un t.id+dn t.id).sum∧Mid w gl gx gy (outX c dx ((rr:Int)-10)) (outY c dy ((rr:Int)-10)) vu vd (.slice (some ⟨al,ol,none⟩) ls.length cl) false ls xs gO (gUp c Q g (ls.take k)) (.slice av N kv) (encs Q) wq)) (fun _ s13 _=>ls.length-(intOf s13).toNat)
    case atStart=>exact⟨0,0,Nat.zero_le _,rfl,rfl,rfl,HG.out⟩
    case round =>
     obtain⟨k,A,hkl,rfl,rfl,HA⟩:=hrel;clear HG;have p4:=HA.out.2.ptrs.2.2;by_cases hk:k<ls.length
     ·obtain⟨t,ht⟩:∃ t,ls[k]? = some t:=⟨_,List.getElem?_eq_getElem hk⟩;obtain⟨i1,i2,v1,v2,v3⟩:=HL.out k t ht;obtain⟨c0,-,-⟩:=HA.out.2.line ht c;have hk':(k:Int)<(ls.length:Int):=by omega
      have kl:=zwp (.slice av N kv) (tup Q) t.id wr (by rw[zoc];exact HA.out.2.bytes) (zzbgq Q HR8.out.1) (by rw[zoc,HN.out];exact HNB.out);rw[zvq] at kl;have HT:=hide ht;have HV:=hide (And.intro v1 (And.intro v2 v3));obtain⟨id,hid⟩:∃ id,t.id=id:=⟨_,rfl⟩;obtain⟨dv,hdv⟩:∃ dv,(dat t.id Q).length=dv:=⟨_,rfl⟩;rw[hdv,hid] at kl;rw[hid] at c0 i1 i2;have HID:=hide hid;have HDV:=hide hdv;have j1:¬ (id:Int)<1:=by omega
      have j2:¬ 99<(id:Int):=by omega
      clear v1 v2 v3 ht hid hdv
      go_wp2_with fail
      refine kl.mono ?_;rintro e w4 ⟨rfl,hE4⟩;have hM4:=HA.out.2.ext hE4;obtain⟨v0,hv0⟩:∃ v0,g (sideI c+id)=v0:=⟨_,rfl⟩;have hsi:sd*100=sideI c:=HSD.out;have nb:id ∉ (ls.take k).map Line.id:=by rw[←HID.out];exact zzbaj H6.out.nodup HT.out
      have cO:w4.cell? ⟨gO,sd*100+id,none⟩=some (.int .i64 (v0:Int)):=by
       have:=(hM4.cell (sideI c+id) (by rw[←hsi];omega)).1
       rw[zzbdd c Q g _ id nb,hv0] at this;rw[hsi];exact this
      have fO:w4.frozen? ⟨gO,sd*100+id,none⟩=false:=by rw[hsi];exact(hM4.cell (sideI c+id) (by rw[←hsi];omega)).2
      have hvv:v0=(t.out c).read+un id∧un id+dv≤100∧v0+dv≤(t.out c).sent.length∧dn id=dv:=by
       obtain⟨q1,q2,q3⟩:=HV.out;have e1:=HID.out;have e2:=HDV.out;have e3:=HDN.out;rw[e1,hv0] at q1;rw[e1] at q2 q3 e2;have e4:dn id=dv:=by rw[e3];exact e2
       rw[e4] at q2 q3;exact⟨q1,q2,by omega,e4⟩
      have hsl:(t.out c).sent.length≤100000:=by
       have:=H4.out t (List.mem_of_getElem? HT.out)
       cases c
       ·have:=this.2;show t.server.sent.length≤_;omega
       ·have:=this.1;show t.client.sent.length≤_;omega
      have hwv:IntKind.i64.wrap ((v0:Int)+(dv:Int))=(v0:Int)+(dv:Int):=zbn _ (by omega) (by omega);have HM5:Hid (Mid w gl gx gy (outX c dx ((rr:Int)-10)) (outY c dy ((rr:Int)-10)) vu vd (.slice (some ⟨al,ol,none⟩) ls.length cl) false ls xs gO (gUp c Q g (ls.take (k+1))) (.slice av N kv) (encs Q) (w4.setCell ⟨gO,sd*100+id,none⟩ (.int .i64 ((v0:Int)+(dv:Int))))):=by
       have q:=hM4.set hnl (sd*100+id) (v0+dv);have e1:((v0+dv:Nat):Int)=(v0:Int)+(dv:Int):=by omega
       rw[e1] at q;rw[zln HT.out,←zyl c Q g _ t,HID.out,←hsi];have e2:=HDV.out;rw[HID.out] at e2;rw[e2,hsi,hv0,←hsi];exact q
      have c0':=HM5.out.ptrs.2.2;obtain⟨rd,hrd⟩:∃ rd,(t.out c).read=rd:=⟨_,rfl⟩;obtain⟨sl,hslE⟩:∃ sl,(t.out c).sent.length=sl:=⟨_,rfl⟩;have HRD:=hide (And.intro hrd hslE);rw[hrd,hslE] at hvv;rw[hslE] at hsl;have kw:=fun W=>zcu al (ol+k*10) c W;have HVV:=hide hvv;have HV0:=hide hv0;clear hM4 hv0 nb hrd hslE hE4 kl hvv hsi
      go_wp2_with fail
      refine(kw _).mono ?_;rintro e w6 ⟨rfl,hE6⟩;have hM6:=HM5.out.ext hE6;have HM6:=hide hM6;obtain⟨-,d1,a5,cap5,d2⟩:=hM6.line HT.out c;rw[HRD.out.1] at d1;rw[HRD.out.2] at d2;have d3:w6.cell? ⟨gO,sd*100+id,none⟩=some (.int .i64 ((v0:Int)+(dv:Int))):=by
       have e2:=(hM6.cell (sideI c+id) (by rw[←HSD.out];omega)).1;rw[zln HT.out,←zyl c Q g _ t,HID.out] at e2;dsimp only at e2;rw[if_pos rfl] at e2;have e3:=HDV.out;rw[HID.out] at e3;rw[e3,HV0.out] at e2;have e1:((v0+dv:Nat):Int)=(v0:Int)+(dv:Int):=by omega
       rw[e1] at e2;rw[HSD.out];exact e2
      generalize hfo:ol+k*10+wo c=fo at *;generalize hfi:ol+k*10+wi c=fi at *;have q1:∀ q,(w6.drewN q).cell? ⟨al,fo+1,none⟩=some (.int .i64 (rd:Int)):=fun q=>d1;have q2:∀ q,(w6.drewN q).cell? ⟨al,fo,none⟩=some (.slice a5 sl cap5):=fun q=>d2;have q3:∀ q,(w6.drewN q).cell? ⟨gO,sd*100+id,none⟩=some (.int .i64 ((v0:Int)+(dv:Int))):=fun q=>d3;have hAb:A≤150:=by rw[HA.out.1];exact HSUM.out k
      obtain⟨V,hV⟩:∃ V:Int,(v0:Int)+(dv:Int)=V:=⟨_,rfl⟩;obtain⟨A2,hA2⟩:∃ A2:Int,(A:Int)+V-(rd:Int)=A2:=⟨_,rfl⟩;obtain⟨o1,o2,o3,o4⟩:=HVV.out;have w1':IntKind.i64.wrap ((A:Int)+V)=(A:Int)+V:=zbn _ (by omega) (by omega);have w2':IntKind.i64.wrap ((A:Int)+V-(rd:Int))=(A:Int)+V-(rd:Int):=zbn _ (by omega) (by omega);have w3':IntKind.i64.wrap (V-(rd:Int))=V-(rd:Int):=zbn _ (by omega) (by omega);have g1:¬ 100<V-(rd:Int):=by omega
      have g2:¬ (sl:Int)<V:=by omega
      have HA2:Hid ((A:Int)+V-(rd:Int)=((A+(un id+dv):Nat):Int)):=(by omega:(A:Int)+V-(rd:Int)=((A+(un id+dv):Nat):Int));rw[hV] at d3 q3;have HV3:=hide o4;clear hM6 hE6 hV hA2 o1 o2 o3 o4 hfo hfi kw HVV HV0 HRD hwv hsl HDV HM5 cO fO c0'
      go_wp2_with fail
      go_quiet (fail)
      all_goals
       go_wp2_with fail
       go_quiet (fail)
       all_goals
        go_wp2
        go_roundw
        case rel =>
         refine⟨k+1,A+(un id+dv),by omega,by go_num,by rw[HA2.out],?_,HM6.out.ext (zag w6 _)⟩;rw[zln HT.out,List.map_append,List.sum_append,←HA.out.1]
         show _=A+((un t.id+dn t.id)+0)
         rw[HID.out,HV3.out];rfl
        case measure=>simp[intOf];omega
     ·have hke:k=ls.length:=by omega
      have hk':¬ (k:Int)<(ls.length:Int):=by omega
      have hA:¬ 150<(A:Int):=by
       have:=HSUM.out k
       rw[←HA.out.1] at this;omega
      obtain⟨s3,s4,s8,s9,s10,s11⟩:=HR8.out;have hids:∀ s,s ∉ ls.map Line.id→(wOut c ls s).sent=[]:=fun s hs=>by
       have hn:=zhw ls s hs;cases c
       ·show (lwB ls s).sent=[];unfold lwB;rw[hn];rfl
       ·show (lwA ls s).sent=[];unfold lwA;rw[hn];rfl
      have hMM:Mid w gl gx gy (outX c dx ((rr:Int)-10)) (outY c dy ((rr:Int)-10)) vu vd (.slice (some ⟨al,ol,none⟩) ls.length cl) false ls xs gO (gUp c Q g ls) (.slice av N kv) (encs Q) wr:=by
       have:=HA.out.2
       rw[hke,List.take_of_length_le (Nat.le_refl _)] at this;exact this
      have kI:=m_in (m:=40000000+5000*j) (S:=4+300*(i+1)) c hMM (by rw[HN.out];exact HNC.out) H4.out H5.out (zyk c (H6.out.mono (m':=40000000+5000*j+1000) (by omega))) s8 s9 s10
       (fun s hs=>by
        have a1:=s4 s;have a2:g (sideI c+s)+((pickD c dx dy).stOf s).data.length=(wOut c ls s).sent.length:=by
         cases c
         ·exact HQ.out.2.2 s hs
         ·exact HQ.out.2.1 s hs
        by_cases hin:s∈ls.map Line.id
        ·have e1:gUp c Q g ls (sideI c+s)=g (sideI c+s)+(dat s Q).length:=by
          unfold gUp;rw[if_pos ⟨by omega,by rw[Nat.add_sub_cancel_left];exact hin⟩,Nat.add_sub_cancel_left]
         rw[e1];omega
        ·rw[zzbdd c Q g ls s hin];rw[hids s hin] at a2 ⊢
         have:([]:Bytes).length=0:=rfl
         omega)
       (fun s hs=>by
        have e1:gUp c Q g ls (sideI (!c)+s)=g (sideI (!c)+s):=by
         unfold gUp;rw[if_neg];rintro ⟨q1,q2⟩;obtain⟨u,hu,e⟩:=List.mem_map.1 q2
         have:=(H6.out.has u hu).2.1
         cases c
         ·have:(100:Nat)≤0+s:=q1
          omega
         ·have:u.id=100+s-0:=e
          omega
        rw[e1,s11 s];cases c
        ·exact HQ.out.2.1 s hs
        ·exact HQ.out.2.2 s hs)
      obtain⟨p0,p1,-⟩:=hMM.ptrs;have HKI:=hide kI;clear s3 s4 s8 s9 s10 s11 hids hMM kI HR8 HL HSUM HA HQ H6 H4 H5 hke HN HNB HNC;cases c
      ·have kI:=HKI.out;rw[if_neg Bool.false_ne_true] at kI;clear HKI
       go_wp2_with fail
       refine kI.mono ?_;rintro e w5 ⟨rfl,hh⟩;have HH5:=hide hh;clear hh kI
       go_wp2
       go_roundw
       case rel=>exact⟨i+1,j,by omega,by omega,by go_num,HH5.out.any (fun _ _ _ _ q=>⟨_,q⟩)⟩
       case measure=>simp[intOf];omega
      ·have kI:=HKI.out;rw[if_pos rfl] at kI;clear HKI
       go_wp2_with fail
       refine kI.mono ?_;rintro e w5 ⟨rfl,hh⟩;have HH5:=hide hh;clear hh kI
       go_wp2
       go_roundw
       case rel=>exact⟨i+1,j,by omega,by omega,by go_num,HH5.out.any (fun _ _ _ _ q=>⟨_,q⟩)⟩
       case measure=>simp[intOf];omega
  ·have k1:=zzbgf (Hold.any H1.out (Q':=AnyEv) (fun _ _ _ _ _=>trivial));clear H1;by_cases hl1:i<n
   ·have hl2:¬ (i:Int)<150:=by omega
    have hl1':(i:Int)<(n:Int):=by omega
    go_wp2_with fail
    refine k1.mono ?_;rintro e w3 ⟨rfl,hC3⟩;have HE:Hid (Ext w w3):=Hold.base hC3;clear hC3 k1
    go_wp2
    go_ret
    exact⟨rfl,HE.out⟩
   ·have hl1':¬ (i:Int)<(n:Int):=by omega
    go_wp2_with fail
    refine k1.mono ?_;rintro e w3 ⟨rfl,hC3⟩;have HE:Hid (Ext w w3):=Hold.base hC3;clear hC3 k1
    go_wp2
    go_ret
    exact⟨rfl,HE.out⟩
end Go.Proofs.YtoijpogadkogcaaGreat
