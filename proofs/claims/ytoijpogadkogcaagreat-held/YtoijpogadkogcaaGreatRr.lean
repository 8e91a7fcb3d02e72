import Derived.Test.YtoijpogadkogcaaGreatRq
import Derived.Test.YtoijpogadkogcaaGreatRl
import Derived.Test.YtoijpogadkogcaaGreatRc
import Derived.Test.YtoijpogadkogcaaGreatRp
namespace Go.Proofs.YtoijpogadkogcaaGreat
open Go.RowKit
set_option maxRecDepth 100000
def QS (side:Nat) (d e:Ds) (_:List Line) (_:Res):Prop:=(1≤side→d.ev=[])∧(2≤side→e.ev=[])
section
variable {wb w:World} {gl:Nat} {lv:Bool} {p m L S:Nat}
set_option maxHeartbeats 25600000 in
theorem zzbgf (h:Hold wb gl lv p m L S AnyEv w) :
  Calls Tryz.prog 18 #[.pointer (some ⟨gl,0,none⟩)] w fun e w'=>e = .returned (.bool true)∧Hold wb gl lv p m L S (NoEv p) w':=by
 have HH:Hid (Hold wb gl lv p m L S (QS 0) w):=by
  obtain⟨own,gx,gy,dx,dy,vu,vd,vl,up,down,ls,xs,h1,h2,h3,h4,h5,h6,h7⟩:=h;exact⟨own,gx,gy,dx,dy,vu,vd,vl,up,down,ls,xs,h1,h2,h3,h4,h5,h6,fun q=>absurd q (by omega),fun q=>absurd q (by omega)⟩
 clear h
 go_enter Tryz.func18,Tryz.ntmps18
 go_wp2
 go_loopw [3,4] (fun s3 s4 wr=>s3 = .bool true ∧ ∃ side:Nat,side≤2∧s4 = .int .i64 (side:Int)∧Hid (Hold wb gl lv p m L S (QS side) wr)) (fun _ s4 _=>2-(intOf s4).toNat)
 case atStart=>exact⟨rfl,0,by omega,rfl,HH⟩
 case round =>
  obtain⟨rfl,side,hs2,rfl,H1⟩:=hrel;clear HH;by_cases hlt:side<2
  ·obtain⟨own,gx,gy,dx,dy,vu,vd,vl,up,down,ls,xs,h1,h2,h3,h4,h5,h6,h7⟩:=H1.out;obtain⟨c,hc⟩:∃ c:Bool,((side:Int) == 0)=c:=⟨_,rfl⟩;have hcs:(c=true→side=0)∧(c=false→side=1):=by
    rw[←hc];constructor
    ·intro q;have:=eq_of_beq q;omega
    ·intro q;have:¬ (side:Int)=0:=by simpa using q
     omega
   have kE:=zbj (gl:=gl) (gx:=gx) (gy:=gy) c wr (h2.cc h1 0) (h2.cc h1 1);have kV:=zzbew c h1 h2 h3 h5 h6.newStr.2;obtain⟨T1,T2,T3⟩:=h6.heard c;have HQ:Hid (QS (side+1) (askX c dx) (askY c dy) [] .none):=by
    cases c
    ·have:=hcs.2 rfl
     subst this;exact⟨fun _=>h7.1 (by omega),fun _=>rfl⟩
    ·have:=hcs.1 rfl
     subst this;exact⟨fun _=>rfl,fun q=>absurd q (by omega)⟩
   obtain⟨n,hn⟩:∃ n,n=ls.length:=⟨_,rfl⟩;have KH:Hid (∀ (al ol cl:Nat) (ve:Value) (ls':List Line) (w':World) (id:Nat),HS wb gl gx gy (askX c dx) (askY c dy) vu vd al ol cl up down lv ve (pickD c dx dy).ev n ls' none w'→id≤65535→Calls Tryz.prog 31 #[.pointer (some ⟨if c then gx else gy,0,none⟩),.int .i64 (id:Int)] w' fun e w'' => ∃ (a:Option Addr) (k:Nat) (er:Int) (hm:Hdrs),e = .returned (.tuple #[.slice a hm.length k,.int .i64 er])∧HS wb gl gx gy (askX c dx) (askY c dy) vu vd al ol cl up down lv ve (pickD c dx dy).ev n ls' (some (.slice a hm.length k,hm)) w''∧(((pickD c dx dy).asked.headers? (id:Int)=none∧hm=[])∨((pickD c dx dy).asked.headers? (id:Int)=some hm∧er=0))):=fun al ol cl ve ls' w' id h hid=>by
    have q:=zzbda c h (by rw[zvm];exact T3) id hid;rw[zvm] at q;exact q
   obtain⟨ge,hge⟩:∃ g,(if c then gx else gy)=g:=⟨_,rfl⟩;obtain⟨dX,hdX⟩:∃ d,askX c dx=d:=⟨_,rfl⟩;obtain⟨dY,hdY⟩:∃ d,askY c dy=d:=⟨_,rfl⟩;obtain⟨D,hD⟩:∃ d,(pickD c dx dy).asked=d:=⟨_,rfl⟩;obtain⟨ev,hev⟩:∃ l,(pickD c dx dy).ev=l:=⟨_,rfl⟩;obtain⟨ne,hne⟩:∃ k,ev.length=k:=⟨_,rfl⟩;rw[hge,←hn,hdX,hdY,hev,hne] at kV;rw[hge] at kE;rw[hge,hdX,hdY,hev,hD] at KH;rw[hdX,hdY] at HQ;rw[hdX,hdY,hev] at T1;rw[hD,hev] at T2;have HT1:=hide T1;have HT2:=hide T2;have HSB:=hide h4;have HND:=hide h6.nodup;have HN:=hide hn;have HNE:=hide hne;have hn1:1≤n:=by omega
   have hn99:n≤99:=by have:=h6.newStr.2;omega
   have hneb:ne≤68719476736:=by have:=T2.1;omega
   have hlt':(side:Int)<2:=by omega
   clear h1 h2 h3 h4 h5 h6 h7 hcs T1 T2 T3 hge hdX hdY hD hev hne hn H1
   go_wp2_with fail
   refine kE.mono ?_;rintro e w0 ⟨rfl,hw⟩;replace hw:=hw.symm;subst hw;clear kE
   go_wp2_with fail
   refine kV.mono ?_;rintro e w2 ⟨a,kc,al,ol,cl,rfl,hnn,hS2⟩;have H2:=hide hS2;have HNN:=hide hnn;clear kV hS2 hnn
   go_wp2
   go_loopw [3,7] (fun s3 s7 wz=>s3 = .bool true ∧ ∃ i:Nat,i≤ne∧s7 = .int .i64 (i:Int)∧Hid (HS wb gl gx gy dX dY vu vd al ol cl up down lv (.slice a ne kc) ev n (ls.map (marks (ev.take i))) none wz)) (fun _ s7 _=>ne-(intOf s7).toNat)
   case atStart=>exact⟨rfl,0,Nat.zero_le _,rfl,by rw[List.take_zero,zzbah];exact H2⟩
   case round =>
    clear H2;obtain⟨rfl,i,hi,rfl,H3⟩:=hrel;by_cases hin:i<ne
    ·obtain⟨b,o,ha⟩:=HNN.out (by omega);subst ha;obtain⟨⟨kd,id,cd⟩,hx⟩:∃ x,ev[i]? = some x:=⟨_,List.getElem?_eq_getElem (by have:=HNE.out;omega)⟩;obtain⟨x1,x2,x3⟩:=HT2.out.2.1 (kd,id,cd) (List.mem_of_getElem? hx);obtain⟨v0,v1⟩:=H3.out.evAt HNE.out hx;have kH:=KH.out al ol cl _ _ _ id H3.out x2;have HX:=hide hx;have HX3:=hide x3;have hin':(i:Int)<(ne:Int):=by omega
     have hk6:((kd:Int) != 6)=true:=by
      have h0:kd≠6:=x1
      have:¬ (kd:Int)=6:=by omega
      simpa using this
     clear hx x3 x1 H3
     go_wp2_with fail
     refine kH.mono ?_;rintro e w4 ⟨ah,kh,er,hm,rfl,H4,hcase⟩;obtain⟨nh,hnh⟩:∃ k,hm.length=k:=⟨_,rfl⟩;rw[hnh] at H4 ⊢;have HS4:=hide H4;have HC:=hide hcase;have HNH:=hide hnh;clear kH H4 hcase hnh v0 v1
     go_wp2
     go_loopw [3,10] (fun s3 s10 wy=>s3 = .bool true ∧ ∃ k:Nat,k≤n∧s10 = .int .i64 (k:Int)∧Hid (HS wb gl gx gy dX dY vu vd al ol cl up down lv (.slice (some ⟨b,o,none⟩) ne kc) ev n (cur (ls.map (marks (ev.take i))) (kd,id,cd) k) (some (.slice ah nh kh,hm)) wy)) (fun _ s10 _=>n-(intOf s10).toNat)
     case atStart=>exact⟨rfl,0,Nat.zero_le _,rfl,by rw[zzbeu];exact HS4⟩
     case round =>
      clear HS4;obtain⟨rfl,k,hk,rfl,H5⟩:=hrel;have c4:=H5.out.c4;by_cases hkn:k<n
      ·have hkl:k<(ls.map (marks (ev.take i))).length:=by rw[List.length_map];have:=HN.out;omega
       obtain⟨t,ht⟩:∃ t,(ls.map (marks (ev.take i)))[k]? = some t:=⟨_,List.getElem?_eq_getElem hkl⟩;have ht':=(zzbcy (ls.map (marks (ev.take i))) (kd,id,cd) hkl).trans ht;obtain⟨l0,⟨ap,cp,l9,lP⟩,lf,rb,l8⟩:=H5.out.lineAt ht';obtain⟨y0,y1⟩:=H5.out.evAt HNE.out HX.out;obtain⟨s,hs,sid,sh⟩:=zzbev _ ht;have hkn':(k:Int)<(n:Int):=by omega
       by_cases hid:t.id=id
       ·have hmm:hm=t.h∨hm.length≠t.h.length:=by
         rcases HC.out with ⟨-,q⟩ | ⟨q,-⟩
         ·rw[q];by_cases e:t.h=[]
          ·exact .inl e.symm
          ·exact .inr (fun x=>e (List.eq_nil_of_length_eq_zero x.symm))
         ·left;rw[(HT2.out.2.2 id hm q).1,←hid,sid,sh];exact lh_at hs HND.out
        have hml:hm.length≤1000:=by
         rcases HC.out with ⟨-,q⟩ | ⟨q,-⟩
         ·rw[q];exact Nat.zero_le _
         ·exact(HT2.out.2.2 id hm q).2
        have KS:Hid (∀ W,Ext wr W→Calls Tryz.prog 32 #[.slice ah nh kh,.slice ap t.h.length cp] W fun e w' => ∃ b,e = .returned (.bool b)∧(hm=t.h→b=true)∧Ext W w'):=fun W hE=>zzbet _ _ hm t.h W (H5.out.ext hE).answer (lP.ext hE) hml hmm;have HOP:Hid (kd=1→er=0∧hm=t.h):=fun h1=>by
         have q1:=HX3.out h1;rcases HC.out with ⟨q,-⟩ | ⟨q,q2⟩
         ·rw[q1] at q;cases q
         ·refine⟨q2,?_⟩;rw[(HT2.out.2.2 id hm q).1,←hid,sid,sh];exact lh_at hs HND.out
        have HRS:Hid (∀ W,Ext wr W→W.cell? ⟨al,ol+k*10+8,none⟩=some (.bool rb)∧W.frozen? ⟨al,ol+k*10+8,none⟩=false∧(kd=3→HS wb gl gx gy dX dY vu vd al ol cl up down lv (.slice (some ⟨b,o,none⟩) ne kc) ev n (cur (ls.map (marks (ev.take i))) (kd,id,cd) (k+1)) (some (.slice ah nh kh,hm)) (W.setCell ⟨al,ol+k*10+8,none⟩ (.bool true)))∧(kd≠3→HS wb gl gx gy dX dY vu vd al ol cl up down lv (.slice (some ⟨b,o,none⟩) ne kc) ev n (cur (ls.map (marks (ev.take i))) (kd,id,cd) (k+1)) (some (.slice ah nh kh,hm)) W)):=fun W hE=>by
         refine⟨hE.cell l8,((H5.out.ext hE).lineAt ht').2.2.1,fun h3 => ?_,fun h3 => ?_⟩
         ·rw[zzbcz _ _ ht h3 hid.symm];exact(H5.out.ext hE).reset ht'
         ·rw[zvo _ _ ht (fun q=>h3 q.1)];exact H5.out.ext hE
        rw[hid] at l0;generalize t.h.length=lt at *;clear lP lf l8 hs sid sh ht ht' hid H5 hmm hml HC HX3
        go_wp2_with fail
        go_quiet (fail)
        have hE1:=zag wr nq;have kS:=KS.out _ hE1;have c4q:=hE1.cell c4;have l9q:=hE1.cell l9;have HE1:=hide hE1;clear hE1
        go_wp2_with fail
        refine kS.mono ?_;rintro e w6 ⟨bb,rfl,hbb,hE6⟩;have hE7:=HE1.out.trans hE6;obtain⟨r8,rf,r3,rn⟩:=HRS.out w6 hE7;have y0q:=hE7.cell y0;have c4r:=hE7.cell c4;clear kS c4q l9q hE6 hE7 y0 y1 l0 l9 c4 HE1;by_cases h3:kd=3
        ·have HR:=hide (r3 h3);clear r3 rn;have hd3:((kd:Int) == 3)=true:=by simp[h3]
         clear h3
         go_wp2
         go_roundw
         case rel=>exact⟨rfl,k+1,by omega,by go_num,HR⟩
         case measure=>simp[intOf];omega
        ·have HR:=hide (rn h3);clear r3 rn;by_cases h1:kd=1
         ·obtain⟨q1,q2⟩:=HOP.out h1;have q3:=hbb q2;subst q1 q3;have hd3:((kd:Int) == 3)=false:=by simp[h1]
          have hd1:((kd:Int) == 1)=true:=by simp[h1]
          clear hbb q2 HOP h1 h3
          go_wp2
          go_roundw
          case rel=>exact⟨rfl,k+1,by omega,by go_num,HR⟩
          case measure=>simp[intOf];omega
         ·have h3':¬ (kd:Int)=3:=by omega
          have h1':¬ (kd:Int)=1:=by omega
          clear hbb HOP
          go_wp2
          go_roundw
          case rel=>exact⟨rfl,k+1,by omega,by go_num,HR⟩
          case measure=>simp[intOf];omega
       ·have hid':¬ (t.id:Int)=(id:Int):=by omega
        have HR:Hid (HS wb gl gx gy dX dY vu vd al ol cl up down lv (.slice (some ⟨b,o,none⟩) ne kc) ev n (cur (ls.map (marks (ev.take i))) (kd,id,cd) (k+1)) (some (.slice ah nh kh,hm)) wr):=by
         show HS _ _ _ _ _ _ _ _ _ _ _ _ _ _ _ _ _ _ _ _
         rw[zvo _ _ ht (fun q=>hid q.2.symm)];exact H5.out
        clear l9 lP lf l8 hs sid sh ht ht' hid H5;generalize t.id=tid at *
        go_wp2_with fail
        go_quiet (fail)
        have HR2:=hide (HR.out.ext (zag wr nq))
        go_wp2
        go_roundw
        case rel=>exact⟨rfl,k+1,by omega,by go_num,HR2⟩
        case measure=>simp[intOf];omega
      ·have HR:Hid (HS wb gl gx gy dX dY vu vd al ol cl up down lv (.slice (some ⟨b,o,none⟩) ne kc) ev n (ls.map (marks (ev.take (i+1)))) none wr):=by
        have q:=H5.out;rw[zzbge _ _ (k:=k) (by rw[List.length_map];have:=HN.out;omega),zzbag ev HX.out] at q;exact q.drop
       clear H5
       go_wp2
       go_roundw
       case rel=>exact⟨rfl,i+1,by omega,by go_num,HR⟩
       case measure=>simp[intOf];omega
    ·have HR:Hid (Hold wb gl lv p m L S (QS (side+1)) wr):=by
      have q:=H3.out;have hl:=HNE.out;rw[List.take_of_length_le (by omega)] at q;exact q.hold (HSB.out.marks ev) hn1 HT1.out (fun _=>HQ.out)
     clear H3
     go_wp2
     go_roundw
     case rel=>exact⟨rfl,side+1,by omega,by go_num,HR⟩
     case measure=>simp[intOf];omega
  ·have h2:side=2:=by omega
   subst h2
   go_wp2
   go_ret
   obtain⟨own,gx,gy,dx,dy,vu,vd,vl,up,down,ls,xs,h1,h2,h3,h4,h5,h6,h7⟩:=H1.out;exact⟨rfl,own,gx,gy,dx,dy,vu,vd,vl,up,down,ls,xs,h1,h2,h3,h4,h5,h6,.inl ⟨h7.1 (by omega),h7.2 (by omega)⟩⟩
end
open Go.RowKit
set_option maxRecDepth 100000
theorem zvp (f:Nat):∀ d:Ds,d.inn.length<f→(Ds.looks f d).failed=true∨(Ds.looks f d).inn.length<6∨(Ds.looks f d).inn.length<6+Cs.num (Ds.looks f d).inn 0:=by
 induction f with
 | zero=>intro d h;omega
 | succ f ih =>
  intro d h;rw[Ds.looks];by_cases h1:d.failed=true∨d.inn.length<6
  ·rw[if_pos h1];rcases h1 with h1 | h1
   ·exact .inl h1
   ·exact .inr (.inl h1)
  ·rw[if_neg h1];dsimp only;by_cases h2:64<Cs.num d.inn 0
   ·rw[if_pos h2];exact .inl rfl
   ·rw[if_neg h2];by_cases h3:d.inn.length<6+Cs.num d.inn 0
    ·rw[if_pos h3];exact .inr (.inr h3)
    ·rw[if_neg h3];rcases zcr { d with inn:=d.inn.drop (6+Cs.num d.inn 0) } ((d.inn.take (6+Cs.num d.inn 0)).getD 2 0).toNat ((d.inn.take (6+Cs.num d.inn 0)).getD 3 0).toNat (Cs.num (d.inn.take (6+Cs.num d.inn 0)) 4) ((d.inn.take (6+Cs.num d.inn 0)).drop 6) with k | k
     ·left;rw[zak _ _ (.inl k)];exact k
     ·refine ih _ ?_;rw[k]
      show (d.inn.drop (6+Cs.num d.inn 0)).length<f
      rw[List.length_drop];omega
theorem zxg (d:Ds) (b:Bytes):(d.takes b).failed=true∨(d.takes b).inn.length<6∨(d.takes b).inn.length<6+Cs.num (d.takes b).inn 0:=by
 unfold Ds.takes;split
 ·rename_i hf;exact .inl hf
 ·exact zvp _ _ (Nat.lt_succ_self _)
theorem zqw (U:List Fr) (h:encs U=[]):U=[]:=by
 cases U with
 | nil=>rfl
 | cons f U =>
  rw[zby] at h
  have:=congrArg List.length h
  rw[List.length_append,zgl] at this;simp at this
theorem Fit.allOk {client:Bool} {h:Nat→Hdrs}:∀ {P:List Fr} {k:Nat→Prop} {p n:Nat} {b:Bytes},Fit client h k p n b P → ∀ f∈P,f.Ok
 | [],_,_,_,_,_,f,hf=>by cases hf
 | g::P,k,p,n,b,hF,f,hf=>by
  rcases List.mem_cons.1 hf with rfl | hf
  ·exact hF.ok
  ·unfold Fit at hF;have hF:=hF.2;split at hF
   ·obtain⟨-,-,-,-,-,hF⟩:=hF;split at hF
    ·exact hF.2.allOk f hf
    ·exact hF.allOk f hf
   ·split at hF
    ·obtain⟨-,-,-,hF⟩:=hF;split at hF
     ·exact hF.2.allOk f hf
     ·exact hF.allOk f hf
    ·exact hF.2.2.allOk f hf
theorem zhf (x v:Nat):∀ ids:List Nat,ids.Nodup→(ids.map fun s=>if s=x then v else 0).sum≤v
 | [],_=>Nat.zero_le _
 | a::ids,h=>by
  rw[List.nodup_cons] at h;rw[List.map_cons,List.sum_cons];by_cases e:a=x
  ·subst e;have hz:∀ l:List Nat,a ∉ l→(l.map fun s=>if s=a then v else 0).sum=0:=fun l hl=>by
    induction l with
    | nil=>rfl
    | cons b l ih =>
     rw[List.map_cons,List.sum_cons,ih fun q=>hl (List.mem_cons_of_mem _ q),if_neg fun q=>hl (by rw[q];exact List.mem_cons_self)]
   rw[if_pos rfl,hz ids h.1];exact Nat.le_refl _
  ·rw[if_neg e,Nat.zero_add];exact zhf x v ids h.2
theorem zjb {f g:Nat→Nat} (h:∀ s,f s≤g s):∀ ids:List Nat,(ids.map f).sum≤(ids.map g).sum
 | []=>Nat.le_refl _
 | a::ids=>by rw[List.map_cons,List.map_cons,List.sum_cons,List.sum_cons];exact Nat.add_le_add (h a) (zjb h ids)
theorem zjt (f g:Nat→Nat):∀ ids:List Nat,(ids.map fun s=>f s+g s).sum=(ids.map f).sum+(ids.map g).sum
 | []=>rfl
 | a::ids=>by rw[List.map_cons,List.map_cons,List.map_cons,List.sum_cons,List.sum_cons,List.sum_cons,zjt f g ids];omega
theorem zpx (ids:List Nat) (h:ids.Nodup):∀ l:List St,(ids.map fun s=>(vl l s).unread.length).sum≤tot l
 | []=>by
  have:(ids.map fun s=>(vl [] s).unread.length).sum≤(ids.map fun s=>if s=0 then 0 else 0).sum:=zjb (fun s=>by show 0≤_;omega) ids
  have:=zhf 0 0 ids h
  omega
 | t::l=>by
  have e:tot (t::l)=t.unread.length+tot l:=by unfold tot;rw[List.map_cons,List.sum_cons]
  have k:∀ s,(vl (t::l) s).unread.length≤(if s=t.id then t.unread.length else 0)+(vl l s).unread.length:=fun s=>by
   by_cases q:s=t.id
   ·rw[if_pos q]
    have:vl (t::l) s=t:=by unfold vl gl;rw[List.find?_cons_of_pos (by rw[q];simp)];rfl
    rw[this];omega
   ·rw[if_neg q]
    have:vl (t::l) s=vl l s:=by unfold vl gl;rw[List.find?_cons_of_neg (by simpa using fun e=>q e.symm)]
    rw[this];omega
  have a1:=zjb k ids;rw[zjt] at a1;have a2:=zhf t.id t.unread.length ids h;have a3:=zpx ids h l;omega
theorem zyj (ids:List Nat) (h:ids.Nodup):∀ Q:List Fr,(ids.map fun s=>(dat s Q).length).sum≤datAll Q
 | []=>by
  have:(ids.map fun s=>(dat s []).length).sum≤(ids.map fun s=>if s=0 then 0 else 0).sum:=zjb (fun s=>by show 0≤_;omega) ids
  have:=zhf 0 0 ids h
  omega
 | f::Q=>by
  have k:∀ s,(dat s (f::Q)).length≤(if s=f.id then (if f.kind=0 then f.body.length else 0) else 0)+(dat s Q).length:=fun s=>by
   rw[dat,List.length_append];by_cases q:isD s f
   ·rw[if_pos q,if_pos q.2.symm,if_pos q.1];exact Nat.le_refl _
   ·rw[if_neg q];show 0+_≤_;omega
  have a1:=zjb k ids;rw[zjt] at a1;have a2:=zhf f.id (if f.kind=0 then f.body.length else 0) ids h;have a3:=zyj ids h Q;rw[datAll];omega
section
variable {p:Nat} {cl:Bool} {nA nB:Nat} {d e:Ds} {up down:Bytes} {wA wB:Nat→Way} {r:Nat→Bool} {h:Nat→Hdrs}
theorem Sim.stOf {A:Cs} (M:Sim d A) (hc:∀ s,(vl A.l s).coming=true→vl A.l s = { id:=s,coming:=true }) (s:Nat):(d.stOf s).unread=(vl A.l s).unread∧(d.stOf s).data=(vl A.l s).bytes:=by
 cases hs:d.str s with
 | some x =>
  obtain⟨-,-,a3⟩:=M.strInv hs
  have:d.stOf s=x:=by unfold Ds.stOf;rw[hs];rfl
  rw[this];exact⟨a3.un.symm,a3.da.symm⟩
 | none =>
  have e0:d.stOf s = {}:=by unfold Ds.stOf;rw[hs];rfl
  rw[e0];have q:=M.str s;cases hg:gl A.l s with
  | none =>
   have:vl A.l s = { id:=s }:=by unfold vl;rw[hg];rfl
   rw[this];exact⟨rfl,rfl⟩
  | some t =>
   rw[hg] at q;dsimp only at q;cases hct:t.coming with
   | true =>
    have hv:vl A.l s=t:=by unfold vl;rw[hg];rfl
    rw[hc s (by rw[hv];exact hct)];exact⟨rfl,rfl⟩
   | false =>
    rw[hct,if_neg Bool.false_ne_true] at q;obtain⟨x,a1,-⟩:=q;rw[hs] at a1;cases a1
theorem LK.noPart (H:LK p cl nA nB d e [] down wA wB r h) (hs:e.inn.length<6∨e.inn.length<6+Cs.num e.inn 0):e.inn=[]:=by
 obtain⟨A,B,U,D,CA,CB,h1,h2,S,h3,-⟩:=H;rw[List.append_nil] at h3;cases U with
 | nil=>exact h3
 | cons f P =>
  exfalso;have ho:=S.ab.fit.ok;have hl:=congrArg List.length h3;rw[zby,List.length_append,zgl] at hl;rw[h3,zby,zye f ho,List.length_append,zgl] at hs;omega
theorem LK.flowQ (H:LK p cl nA nB d e up down wA wB r h) (hp:p≤2):∃ Q:List Fr,e.inn++up=encs Q∧(∀ f∈Q,f.Ok)∧(∀ s,(wA s).sent.length=(wA s).read+(e.stOf s).unread.length+(dat s Q).length+(d.stOf s).data.length) ∧
  (∀ s,s≠0→(e.stOf s).unread.length+(dat s Q).length≤100) ∧ ∀ ids:List Nat,ids.Nodup→(ids.map fun s=>(e.stOf s).unread.length+(dat s Q).length).sum≤150:=by
 obtain⟨A,B,U,D,CA,CB,h1,h2,S,h3,-⟩:=H;obtain⟨C1,C2,-,-⟩:=S.calm hp;have eA:=h1.stOf fun s q=>(S.ba.coming s q).1;have eB:=h2.stOf fun s q=>(S.ab.coming s q).1;refine⟨U,h3,S.ab.fit.allOk,fun s => ?_,fun s h0 => ?_,fun ids hn => ?_⟩
 ·obtain⟨rest,a1,a2,-⟩:=S.ab.q s (C2.nr s);have a3:=a2 (C1.nr s);have a4:=S.ab.q0 s;have hl:=congrArg List.length a1;rw[List.length_drop,List.length_append,List.length_append,a3] at hl;rw[(eA s).2,(eB s).1];omega
 ·have:=S.ab.j s h0
  rw[(eB s).1];omega
 ·have a1:=S.ab.i1;have a2:=S.ab.i2;have a3:=zpx ids hn B.l;have a4:=zyj ids hn U;have a5:(ids.map fun s=>(e.stOf s).unread.length+(dat s U).length)=ids.map fun s=>(vl B.l s).unread.length+(dat s U).length:=List.map_congr_left fun s _=>by rw[(eB s).1]
  rw[a5,zjt];omega
theorem LK.outData (H:LK p cl nA nB d e [] down wA wB r h) (hp:p≤2) (hi:e.inn=[]) (room:Int):∃ Q:List Fr,(d.out room).2=encs Q∧(∀ f∈Q,f.Ok)∧(∀ s,(d.stOf s).data.length=(dat s Q).length+((d.out room).1.stOf s).data.length) ∧
  (∀ s,(wA s).sent.length=(wA s).read+(e.stOf s).unread.length+(dat s Q).length+((d.out room).1.stOf s).data.length)∧(∀ s,s≠0→(e.stOf s).unread.length+(dat s Q).length≤100) ∧ ∀ ids:List Nat,ids.Nodup→(ids.map fun s=>(e.stOf s).unread.length+(dat s Q).length).sum≤150:=by
 obtain⟨Q0,a1,-,a3,-,-⟩:=H.flowQ hp;obtain⟨Q,b1,b2,b3,b4,b5⟩:=(H.out room).flowQ hp;rw[hi] at a1 b1;have e0:=zqw Q0 a1.symm;subst e0;refine⟨Q,by simpa using b1,b2,fun s => ?_,b3,b4,b5⟩;have k1:=a3 s;have k2:=b3 s
 have:(dat s []).length=0:=rfl
 omega
end
def tup (Q:List Fr):List (Nat×Nat×Nat×Bytes):=Q.map fun f=>(f.kind,f.flags,f.id,f.body)
theorem zoc:∀ Q:List Fr,flat (tup Q)=encs Q
 | []=>rfl
 | f::Q=>by
  show frame f.kind f.flags f.id f.body++flat (tup Q)=_
  rw[zoc Q,zby];rfl
theorem zvq (s:Nat):∀ Q:List Fr,dlen s (tup Q)=(dat s Q).length
 | []=>rfl
 | f::Q=>by
  show (if f.kind=0∧f.id=s then f.body.length else 0)+dlen s (tup Q)=_
  rw[zvq s Q,dat,List.length_append];by_cases q:isD s f
  ·rw[if_pos q,if_pos ⟨q.1,q.2⟩]
  ·rw[if_neg q,if_neg fun z=>q ⟨z.1,z.2⟩];rfl
theorem zzbgq (Q:List Fr) (h:∀ f∈Q,f.Ok):∀ f∈tup Q,f.1≤255∧f.2.2.1≤65535∧f.2.2.2.length≤64:=fun f hf=>by
 obtain⟨g,hg,rfl⟩:=List.mem_map.1 hf;obtain⟨a,b,c,d⟩:=h g hg;exact⟨by show g.kind≤255;omega,by show g.id≤65535;omega,d⟩
open Go.RowKit
set_option maxRecDepth 100000
def outArr (g:Nat→Nat):Array Value:=((List.range 200).map fun i=>Value.int .i64 (g i:Int)).toArray
theorem zpy (g:Nat→Nat) (i:Nat) (hi:i<200):(outArr g)[i]? = some (.int .i64 (g i:Int)):=by
 unfold outArr;rw[List.getElem?_toArray,List.getElem?_map,List.getElem?_range hi];rfl
theorem zpz (g:Nat→Nat) (i v:Nat):(outArr g).setIfInBounds i (.int .i64 (v:Int))=outArr fun k=>if k=i then v else g k:=by
 unfold outArr;apply Array.ext_getElem?;intro j;rw[Array.getElem?_setIfInBounds,List.getElem?_toArray,List.getElem?_toArray,List.getElem?_map,List.getElem?_map];by_cases hj:j<200
 ·rw[List.getElem?_range hj];by_cases e:i=j
  ·subst e;simp[hj]
  ·have e':¬ j=i:=fun q=>e q.symm;simp[e,e']
 ·have hn:(List.range 200)[j]? = none:=List.getElem?_eq_none (by simp;omega);rw[hn];by_cases e:i=j
  ·subst e;simp[hj]
  ·simp[e]
def sideI (c:Bool):Nat:=if c then 0 else 100
def HeldQ (gO:Nat) (g:Nat→Nat) (dx dy:Ds) (ls:List Line) (R:Res):Prop :=
 R = .obj gO (.cells (outArr g) 54 (0,0))∧(dx.inn=[]∧dy.inn=[])∧(∀ s,s<100→g (sideI true+s)+(dx.stOf s).data.length=(lwA ls s).sent.length) ∧ ∀ s,s<100→g (sideI false+s)+(dy.stOf s).data.length=(lwB ls s).sent.length
theorem HeldQ.stable (gO:Nat) (g:Nat→Nat):Stable (HeldQ gO g):=by
 rintro dx dy ls R dx' dy' ls' ⟨h1,h2,h3,h4⟩ (⟨⟨⟨-,k1⟩,k2,k3⟩,rfl⟩ | ⟨⟨⟨-,k1⟩,k2,k3⟩,rfl⟩)
 ·refine⟨h1,⟨k1.trans h2.1,h2.2⟩,fun s hs => ?_,fun s hs => ?_⟩
  ·have a:=h3 s hs;have b:(lwA ls' s).sent.length+(dx.stOf s).data.length=(lwA ls s).sent.length+(dx'.stOf s).data.length:=k2 s;omega
  ·have b:(lwB ls' s).sent=(lwB ls s).sent:=k3 s;rw[b];exact h4 s hs
 ·refine⟨h1,⟨h2.1,k1.trans h2.2⟩,fun s hs => ?_,fun s hs => ?_⟩
  ·have b:(lwA ls' s).sent=(lwA ls s).sent:=k3 s;rw[b];exact h3 s hs
  ·have a:=h4 s hs;have b:(lwB ls' s).sent.length+(dy.stOf s).data.length=(lwB ls s).sent.length+(dy'.stOf s).data.length:=k2 s;omega
theorem zzbdb {c:Bool} {d e:Ds} {ls:List Line} {m:Nat} (H:TD c d e [] [] ls 2 (m+1000) 0) (hd:d.inn=[]) (he:e.inn=[]) (room:Int) (hr:room≤400) :
  ∃ Q:List Fr,(d.out room).2=encs Q∧(encs Q).length≤room.toNat∧(∀ f∈Q,f.Ok)∧(∀ s,(d.stOf s).data.length=(dat s Q).length+((d.out room).1.stOf s).data.length) ∧
  (∀ s,(wOut c ls s).sent.length=(wOut c ls s).read+(e.stOf s).unread.length+(dat s Q).length+((d.out room).1.stOf s).data.length)∧(∀ s,s≠0→(e.stOf s).unread.length+(dat s Q).length≤100) ∧
  (∀ ids:List Nat,ids.Nodup→(ids.map fun s=>(e.stOf s).unread.length+(dat s Q).length).sum≤150) ∧
  TD c (d.out room).1 (e.takes (encs Q)) [] [] ls 2 m 0∧(d.out room).1.inn=[]∧(e.takes (encs Q)).inn=[] ∧ ∀ s,((e.takes (encs Q)).stOf s).data.length=(e.stOf s).data.length:=by
 have hR:(d.out room).2.length≤400:=by have:=H.outRoom room;omega
 have hroom:=H.outRoom room;obtain⟨Q,q1,q2,q3,q4,q5,q6⟩:=H.lk.outData (Nat.le_refl _) he room;have T:=TD.carry (m:=m) (R:=400) (H.mono (by omega)) room hR (((d.out room).2.length:Int)+1);rw[List.nil_append] at T;have e1:min (((d.out room).2.length:Int)+1).toNat (d.out room).2.length=(d.out room).2.length:=by omega
 have e2:fed e (d.out room).2 (((d.out room).2.length:Int)+1)=e.takes (d.out room).2:=by
  unfold fed;rw[if_neg (by omega),e1,List.take_of_length_le (Nat.le_refl _)]
 rw[e2,e1,List.drop_of_length_le (Nat.le_refl _),q1] at T;have hin:(d.out room).1.inn=[]:=(zno d room).2.trans hd;have T2:TD c (d.out room).1 (e.takes (encs Q)) [] [] ls 2 m 0:=⟨T.lk,T.nodup,T.has,T.od,T.oe,T.di,T.ei,Nat.le_refl _,Nat.le_refl _,T.db,T.eb⟩;have hp2:(e.takes (encs Q)).inn=[]:=by
  refine T2.lk.noPart ?_;rcases zxg e (encs Q) with k | k
  ·rw[T2.lk.swap.failed] at k;cases k
  ·exact k
 refine⟨Q,q1,by rw[←q1];exact hroom,q2,q3,q4,q5,q6,T2,hin,hp2,fun s => ?_⟩;obtain⟨Q1,a1,-,a3,-⟩:=H.lk.swap.flowQ (Nat.le_refl _);obtain⟨Q2,b1,-,b3,-⟩:=(H.lk.out room).swap.flowQ (Nat.le_refl _);obtain⟨Q3,c1,-,c3,-⟩:=T2.lk.swap.flowQ (Nat.le_refl _);rw[hin,List.nil_append] at b1 c1;have z2:=zqw Q2 b1.symm;have z3:=zqw Q3 c1.symm;subst z2 z3;have k2:=b3 s;have k3:=c3 s;omega
def Mid (wb:World) (gl gx gy:Nat) (dx dy:Ds) (vu vd vl:Value) (lv:Bool) (ls:List Line) (xs:List Value) (gO:Nat) (g:Nat→Nat) (vo:Value) (b:Bytes) (w:World):Prop :=
 ∃ own,Sep wb w own∧LinkAt own gl gx gy dx dy vu vd vl [] [] ls.length xs lv∧LS own ls xs∧own .o = .row 5 1 vo b.length (bcells b)∧own (.e 1000) = .obj gO (.cells (outArr g) 54 (0,0))
def outX (c:Bool) (d:Ds) (room:Int):Ds:=if c then (d.out room).1 else d
def outY (c:Bool) (d:Ds) (room:Int):Ds:=if c then d else (d.out room).1
section
variable {wb w:World} {gl gx gy:Nat} {dx dy:Ds} {vu vd vl:Value} {lv:Bool} {ls:List Line} {xs:List Value} {gO:Nat} {g:Nat→Nat} {vo:Value} {b:Bytes}
theorem m_out {own:LN→Res} {m:Nat} (c:Bool) (h1:Sep wb w own) (h2:LinkAt own gl gx gy dx dy vu vd vl [] [] ls.length xs lv) (h3:LS own ls xs) (h6:TD true dx dy [] [] ls 2 (m+1000) 0) (hz:own (.e 1000) = .obj gO (.cells (outArr g) 54 (0,0))) (room:Int) (hr0:-9223372036854775808≤room) (hr1:room≤17592186044416) :
  Calls Tryz.prog 20 #[.pointer (some ⟨if c then gx else gy,0,none⟩),.int .i64 room] w fun e w' => ∃ vo,e = .returned vo∧Mid wb gl gx gy (outX c dx room) (outY c dy room) vu vd vl lv ls xs gO g vo ((pickD c dx dy).out room).2 w':=by
 cases c
 ·have H:=h6.swap;obtain⟨o1,-⟩:=H.lk.outE (c:=0) H.od (by omega);refine(zhq h2.ey h1 o1.out H.od.ck room hr0 hr1 .o (fun _ e=>by cases e)).mono ?_;rintro e w' ⟨vo,own',rfl,S',E',n',e'⟩;have ee:∀ i,own' (.e i)=own (.e i):=fun i=>e' _ (fun e=>by cases e) (fun _ e=>by cases e)
  exact⟨vo,rfl,own',S',h2.withY E' (fun n _ a2 a3=>e' n a2 a3),h3.alike ee,n',(ee 1000).trans hz⟩
 ·have H:=h6;obtain⟨o1,-⟩:=H.lk.outE (c:=0) H.od (by omega);refine(zhq h2.ex h1 o1.out H.od.ck room hr0 hr1 .o (fun _ e=>by cases e)).mono ?_;rintro e w' ⟨vo,own',rfl,S',E',n',e'⟩;have ee:∀ i,own' (.e i)=own (.e i):=fun i=>e' _ (fun e=>by cases e) (fun _ e=>by cases e)
  exact⟨vo,rfl,own',S',h2.withX E' (fun n _ a2 a3=>e' n a2 a3),h3.alike ee,n',(ee 1000).trans hz⟩
theorem Mid.ext {w':World} (h:Mid wb gl gx gy dx dy vu vd vl lv ls xs gO g vo b w) (e:Ext w w'):Mid wb gl gx gy dx dy vu vd vl lv ls xs gO g vo b w':=by
 obtain⟨own,h1,h2⟩:=h;exact⟨own,h1.ext e,h2⟩
theorem Mid.bytes (h:Mid wb gl gx gy dx dy vu vd vl lv ls xs gO g vo b w):IsBytes w vo b:=by
 obtain⟨own,h1,h2,h3,h4,h5⟩:=h;exact OwnAt.isBytes (h1.get h4)
theorem Mid.ptrs (h:Mid wb gl gx gy dx dy vu vd vl lv ls xs gO g vo b w):w.cell? ⟨gl,0,none⟩=some (.pointer (some ⟨gx,0,none⟩))∧w.cell? ⟨gl,1,none⟩=some (.pointer (some ⟨gy,0,none⟩))∧w.cell? ⟨gl,4,none⟩=some vl:=by
 obtain⟨own,h1,h2,h3,h4,h5⟩:=h;exact⟨h2.cc h1 0,h2.cc h1 1,h2.cc h1 4⟩
theorem Mid.cell (h:Mid wb gl gx gy dx dy vu vd vl lv ls xs gO g vo b w) (i:Nat) (hi:i<200):w.cell? ⟨gO,i,none⟩=some (.int .i64 (g i:Int))∧w.frozen? ⟨gO,i,none⟩=false:=by
 obtain⟨own,h1,h2,h3,h4,h5⟩:=h;exact⟨(h1.cell h5 i).trans (zpy g i hi),h1.thaw h5 i⟩
theorem Mid.set (h:Mid wb gl gx gy dx dy vu vd vl lv ls xs gO g vo b w) (h99:ls.length≤99) (i v:Nat):Mid wb gl gx gy dx dy vu vd vl lv ls xs gO (fun k=>if k=i then v else g k) vo b (w.setCell ⟨gO,i,none⟩ (.int .i64 (v:Int))):=by
 obtain⟨own,h1,h2,h3,h4,h5⟩:=h;have S:=h1.setObj h5 i (.int .i64 (v:Int));rw[zpz] at S;refine⟨_,S,h2.alike (fun n hn _=>zaa _ _ (hn 1000)),?_,?_,zac _ _ _⟩
 ·refine⟨h3.len,fun k t hk=>(h3.at_ k t hk).alike (fun j hj => ?_) (fun _ _=>rfl),fun k hk h0 => ?_⟩
  ·have:k<ls.length:=(List.getElem?_eq_some_iff.1 hk).1
   exact zaa _ _ (fun e=>by injection e with e;omega)
  ·rw[zaa _ _ (fun e=>by injection e with e;omega)];exact h3.free k hk h0
 ·rw[zaa _ _ (fun e=>by cases e)];exact h4
theorem Mid.line {al ol cl:Nat} (h:Mid wb gl gx gy dx dy vu vd (.slice (some ⟨al,ol,none⟩) ls.length cl) lv ls xs gO g vo b w) {k:Nat} {t:Line} (hk:ls[k]? = some t) (c:Bool) :
  w.cell? ⟨al,ol+k*10,none⟩=some (.int .i64 (t.id:Int))∧w.cell? ⟨al,ol+k*10+wo c+1,none⟩=some (.int .i64 ((t.out c).read:Int)) ∧ ∃ a cap,w.cell? ⟨al,ol+k*10+wo c,none⟩=some (.slice a (t.out c).sent.length cap):=by
 obtain⟨own,h1,h2,h3,h4,h5⟩:=h;have hlt:k<ls.length:=(List.getElem?_eq_some_iff.1 hk).1;obtain⟨vc,vs,vh,hx,s1,s2,-⟩:=h3.at_ k t hk;have cell:∀ j u,j<10→xs[10*k+j]? = some u→w.cell? ⟨al,ol+k*10+j,none⟩=some u:=fun j u hj hxj=>by
  obtain⟨r1,r2⟩:=h2.line h1 (10*k+j) (by omega);rw[hxj] at r1;have e3:ol+k*10+j=ol+(10*k+j):=by omega
  rw[e3];exact r1
 refine⟨cell 0 _ (by omega) (hx 0 (by omega)),?_,?_⟩
 ·cases c
  ·exact cell 6 _ (by omega) (hx 6 (by omega))
  ·exact cell 3 _ (by omega) (hx 3 (by omega))
 ·cases c
  ·obtain⟨a,cap,e,-⟩:=s2.isBytes h1;refine⟨a,cap,?_⟩
   show _=some (Value.slice a t.server.sent.length cap)
   rw[←e];exact cell 5 _ (by omega) (hx 5 (by omega))
  ·obtain⟨a,cap,e,-⟩:=s1.isBytes h1;refine⟨a,cap,?_⟩
   show _=some (Value.slice a t.client.sent.length cap)
   rw[←e];exact cell 2 _ (by omega) (hx 2 (by omega))
theorem m_in {m S:Nat} (c:Bool) {room:Int} {Q:List Fr} {g':Nat→Nat} (h:Mid wb gl gx gy (outX c dx room) (outY c dy room) vu vd vl lv ls xs gO g' vo (encs Q) w) (hlen:(encs Q).length≤400) (hsb:SB ls S) (h1l:1≤ls.length)
  (H:TD c (pickD c dx dy) (pickD c dy dx) [] [] ls 2 (m+1000) 0) (T:TD c ((pickD c dx dy).out room).1 ((pickD c dy dx).takes (encs Q)) [] [] ls 2 m 0) (hi1:((pickD c dx dy).out room).1.inn=[]) (hi2:((pickD c dy dx).takes (encs Q)).inn=[])
  (hg1:∀ s,s<100→g' (sideI c+s)+(((pickD c dx dy).out room).1.stOf s).data.length=(wOut c ls s).sent.length) (hg2:∀ s,s<100→g' (sideI (!c)+s)+(((pickD c dy dx).takes (encs Q)).stOf s).data.length=(wIn c ls s).sent.length) :
  Calls Tryz.prog 22 #[.pointer (some ⟨if c then gy else gx,0,none⟩),vo] w fun e w'=>e = .returned (.tuple #[])∧Hold wb gl lv 2 m 0 S (HeldQ gO g') w':=by
 have hb:=h.bytes;obtain⟨own,h1,h2,h3,h4,h5⟩:=h;have good:∀ e:Ds,e=pickD c dy dx→e.failed=false→e.inn.length+(encs Q).length≤68719476736∧GoodB 0 50000010 { e with inn:=e.inn++encs Q }:=fun e he _=>by
  subst he;have hei:=H.ei;refine⟨by omega,?_⟩;unfold GoodB;refine(H.oe.inn _ (by rw[List.length_append];omega)).mono ?_
  show 6+((pickD c dy dx).inn++encs Q).length≤_
  rw[List.length_append];omega
 cases c
 ·refine(zlt (GoodB 0 50000010) (zis 0 50000010) h2.ex h1 vo (encs Q) hb (fun q=>(good _ rfl q).1) (fun q=>(good _ rfl q).2)).mono ?_;rintro e w' ⟨rfl,own',S',E',D'⟩;have ee:∀ i,own' (.e i)=own (.e i):=fun i=>D' _ (fun _ e=>by cases e)
  exact⟨rfl,own',gx,gy,_,_,vu,vd,vl,[],[],ls,xs,S',h2.withX E' (fun n _ _ a3=>D' n a3),h3.alike ee,hsb,h1l,TD.unswap (c:=true) T,by rw[ee 1000];exact h5,⟨hi2,hi1⟩,hg2,hg1⟩
 ·refine(zlt (GoodB 0 50000010) (zis 0 50000010) h2.ey h1 vo (encs Q) hb (fun q=>(good _ rfl q).1) (fun q=>(good _ rfl q).2)).mono ?_;rintro e w' ⟨rfl,own',S',E',D'⟩;have ee:∀ i,own' (.e i)=own (.e i):=fun i=>D' _ (fun _ e=>by cases e)
  exact⟨rfl,own',gx,gy,_,_,vu,vd,vl,[],[],ls,xs,S',h2.withY E' (fun n _ _ a3=>D' n a3),h3.alike ee,hsb,h1l,T,by rw[ee 1000];exact h5,⟨hi1,hi2⟩,hg1,hg2⟩
end
end Go.Proofs.YtoijpogadkogcaaGreat
