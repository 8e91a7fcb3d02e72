import Derived.Test.YtoijpogadkogcaaGreatRq
import Derived.Test.YtoijpogadkogcaaGreatRo
import Derived.Test.YtoijpogadkogcaaGreatRl
import Derived.Test.YtoijpogadkogcaaGreatRc
namespace Go.Proofs.YtoijpogadkogcaaGreat
open Go.RowKit
set_option maxRecDepth 100000
def QS(side:Nat)(d e:Ds)(_:List Line)(_:Res):Prop:=(1<=side->d.ev=[])/\(2<=side->e.ev=[])
section
variable {wb w:World} {gl:Nat} {lv:Bool} {p m L S:Nat}
set_option maxHeartbeats 25600000 in
theorem zzbme(h:zbz wb gl lv p m L S zkb w) :
  Calls Tryz.prog 18 #[.pointer (some ⟨gl,0,none⟩)] w λe w'=>e = .returned (.bool true)/\zbz wb gl lv p m L S (NoEv p) w':=by
 have HH:Hid (zbz wb gl lv p m L S (QS 0) w):=by obtain⟨own,gx,gy,dx,dy,vu,vd,vl,up,down,ls,xs,h1,h2,h3,h4,h5,h6,h7⟩:=h;exact⟨own,gx,gy,dx,dy,vu,vd,vl,up,down,ls,xs,h1,h2,h3,h4,h5,h6,λq=>absurd q (by omega),λq=>absurd q (by omega)⟩
 clear h
 go_enter Tryz.func18,Tryz.ntmps18
 go_wp2
 go_loopw [3,4] (λs3 s4 wr=>s3 = .bool true /\ ∃ side:Nat,side<=2/\s4 = .int .i64 (side:Int)/\Hid (zbz wb gl lv p m L S (QS side) wr)) (λ_ s4 _=>2-(intOf s4).toNat)
 case atStart=>exact⟨rfl,0,by omega,rfl,HH⟩
 case round =>
  obtain⟨rfl,side,hs2,rfl,H1⟩:=hrel;clear HH;by_cases hlt:side<2
  ·obtain⟨own,gx,gy,dx,dy,vu,vd,vl,up,down,ls,xs,h1,h2,h3,h4,h5,h6,h7⟩:=H1.out;obtain⟨c,hc⟩:∃ c:Bool,((side:Int) == 0)=c:=⟨_,rfl⟩;have hcs:(c=true->side=0)/\(c=false->side=1):=by
    rw[<-hc];constructor
    ·intro q;have:=eq_of_beq q;omega
    ·intro q;have:¬ (side:Int)=0:=by simpa using q
     omega
   have kE:=zdl (gl:=gl) (gx:=gx) (gy:=gy) c wr (h2.cc h1 0) (h2.cc h1 1);have kV:=zzbkq c h1 h2 h3 h5 h6.newStr.2;obtain⟨T1,T2,T3⟩:=h6.heard c;have HQ:Hid (QS (side+1) (zob c dx) (zoc c dy) [] .none):=by
    cases c
    ·have:=hcs.2 rfl
     subst this;exact⟨λ_=>h7.1 (by omega),λ_=>rfl⟩
    ·have:=hcs.1 rfl
     subst this;exact⟨λ_=>rfl,λq=>absurd q (by omega)⟩
   obtain⟨n,hn⟩:∃ n,n=ls.length:=⟨_,rfl⟩;have KH:Hid (∀ (al ol cl:Nat) (ve:Value) (ls':List Line) (w':World) (id:Nat),HS wb gl gx gy (zob c dx) (zoc c dy) vu vd al ol cl up down lv ve (zdj c dx dy).ev n ls' none w'->id<=65535->Calls Tryz.prog 31 #[.pointer (some ⟨if c then gx else gy,0,none⟩),.int .i64 (id:Int)] w' λe w'' => ∃ (a:Option Addr) (k:Nat) (er:Int) (hm:zal),e = .returned (.tuple #[.slice a hm.length k,.int .i64 er])/\HS wb gl gx gy (zob c dx) (zoc c dy) vu vd al ol cl up down lv ve (zdj c dx dy).ev n ls' (some (.slice a hm.length k,hm)) w''/\(((zdj c dx dy).asked.headers? (id:Int)=none/\hm=[])\/((zdj c dx dy).asked.headers? (id:Int)=some hm/\er=0))):=λal ol cl ve ls' w' id h hid=>by have q:=zzbit c h (by rw[zzbaz];exact T3) id hid;rw[zzbaz] at q;exact q
   obtain⟨ge,hge⟩:∃ g,(if c then gx else gy)=g:=⟨_,rfl⟩;obtain⟨dX,hdX⟩:∃ d,zob c dx=d:=⟨_,rfl⟩;obtain⟨dY,hdY⟩:∃ d,zoc c dy=d:=⟨_,rfl⟩;obtain⟨D,hD⟩:∃ d,(zdj c dx dy).asked=d:=⟨_,rfl⟩;obtain⟨ev,hev⟩:∃ l,(zdj c dx dy).ev=l:=⟨_,rfl⟩;obtain⟨ne,hne⟩:∃ k,ev.length=k:=⟨_,rfl⟩;rw[hge,<-hn,hdX,hdY,hev,hne] at kV;rw[hge] at kE;rw[hge,hdX,hdY,hev,hD] at KH;rw[hdX,hdY] at HQ;rw[hdX,hdY,hev] at T1;rw[hD,hev] at T2;have HT1:=hide T1;have HT2:=hide T2;have HSB:=hide h4;have HND:=hide h6.nodup;have HN:=hide hn;have HNE:=hide hne;have hn1:1<=n:=by omega
   have hn99:n<=99:=by have:=h6.newStr.2;omega
   have hneb:ne<=68719476736:=by have:=T2.1;omega
   have hlt':(side:Int)<2:=by omega
   clear h1 h2 h3 h4 h5 h6 h7 hcs T1 T2 T3 hge hdX hdY hD hev hne hn H1
   go_wp2_with fail
   refine kE.mono ?_;rintro e w0 ⟨rfl,hw⟩;replace hw:=hw.symm;subst hw;clear kE
   go_wp2_with fail
   refine kV.mono ?_;rintro e w2 ⟨a,kc,al,ol,cl,rfl,hnn,hS2⟩;have H2:=hide hS2;have HNN:=hide hnn;clear kV hS2 hnn
   go_wp2
   go_loopw [3,7] (λs3 s7 wz=>s3 = .bool true /\ ∃ i:Nat,i<=ne/\s7 = .int .i64 (i:Int)/\Hid (HS wb gl gx gy dX dY vu vd al ol cl up down lv (.slice a ne kc) ev n (ls.map (marks (ev.take i))) none wz)) (λ_ s7 _=>ne-(intOf s7).toNat)
   case atStart=>exact⟨rfl,0,Nat.zero_le _,rfl,by rw[List.take_zero,zzbfy];exact H2⟩
   case round =>
    clear H2;obtain⟨rfl,i,hi,rfl,H3⟩:=hrel;by_cases hin:i<ne
    ·obtain⟨b,o,ha⟩:=HNN.out (by omega);subst ha;obtain⟨⟨kd,id,cd⟩,hx⟩:∃ x,ev[i]? = some x:=⟨_,List.getElem?_eq_getElem (by have:=HNE.out;omega)⟩;obtain⟨x1,x2,x3⟩:=HT2.out.2.1 (kd,id,cd) (List.mem_of_getElem? hx);obtain⟨v0,v1⟩:=H3.out.evAt HNE.out hx;have kH:=KH.out al ol cl _ _ _ id H3.out x2;have HX:=hide hx;have HX3:=hide x3;have hin':(i:Int)<(ne:Int):=by omega
     have hk6:((kd:Int) != 6)=true:=by
      have h0:kd≠6:=x1
      have:¬ (kd:Int)=6:=by omega
      simpa using this
     clear hx x3 x1 H3
     go_wp2_with fail
     refine kH.mono ?_;rintro e w4 ⟨ah,kh,er,hm,rfl,H4,hcase⟩;obtain⟨nh,hnh⟩:∃ k,hm.length=k:=⟨_,rfl⟩;rw[hnh] at H4 ⊢;have HS4:=hide H4;have HC:=hide hcase;have HNH:=hide hnh;clear kH H4 hcase hnh v0 v1
     go_wp2
     go_loopw [3,10] (λs3 s10 wy=>s3 = .bool true /\ ∃ k:Nat,k<=n/\s10 = .int .i64 (k:Int)/\Hid (HS wb gl gx gy dX dY vu vd al ol cl up down lv (.slice (some ⟨b,o,none⟩) ne kc) ev n (cur (ls.map (marks (ev.take i))) (kd,id,cd) k) (some (.slice ah nh kh,hm)) wy)) (λ_ s10 _=>n-(intOf s10).toNat)
     case atStart=>exact⟨rfl,0,Nat.zero_le _,rfl,by rw[zzbko];exact HS4⟩
     case round =>
      clear HS4;obtain⟨rfl,k,hk,rfl,H5⟩:=hrel;have c4:=H5.out.c4;by_cases hkn:k<n
      ·have hkl:k<(ls.map (marks (ev.take i))).length:=by rw[List.length_map];have:=HN.out;omega
       obtain⟨t,ht⟩:∃ t,(ls.map (marks (ev.take i)))[k]? = some t:=⟨_,List.getElem?_eq_getElem hkl⟩;have ht':=(zzbir (ls.map (marks (ev.take i))) (kd,id,cd) hkl).trans ht;obtain⟨l0,⟨ap,cp,l9,lP⟩,lf,rb,l8⟩:=H5.out.lineAt ht';obtain⟨y0,y1⟩:=H5.out.evAt HNE.out HX.out;obtain⟨s,hs,sid,sh⟩:=zzbkp _ ht;have hkn':(k:Int)<(n:Int):=by omega
       by_cases hid:t.id=id
       ·have hmm:hm=t.h\/hm.length≠t.h.length:=by
         rcases HC.out with ⟨-,q⟩|⟨q,-⟩
         ·rw[q];by_cases e:t.h=[]
          ·exact .inl e.symm
          ·exact .inr (λx=>e (List.eq_nil_of_length_eq_zero x.symm))
         ·left;rw[(HT2.out.2.2 id hm q).1,<-hid,sid,sh];exact lh_at hs HND.out
        have hml:hm.length<=1000:=by
         rcases HC.out with ⟨-,q⟩|⟨q,-⟩
         ·rw[q];exact Nat.zero_le _
         ·exact(HT2.out.2.2 id hm q).2
        have KS:Hid (∀ W,Ext wr W->Calls Tryz.prog 32 #[.slice ah nh kh,.slice ap t.h.length cp] W λe w' => ∃ b,e = .returned (.bool b)/\(hm=t.h->b=true)/\Ext W w'):=λW hE=>zzbkn _ _ hm t.h W (H5.out.ext hE).answer (lP.ext hE) hml hmm;have HOP:Hid (kd=1->er=0/\hm=t.h):=λh1=>by
         have q1:=HX3.out h1;rcases HC.out with ⟨q,-⟩ | ⟨q,q2⟩
         ·rw[q1] at q;cases q
         ·refine⟨q2,?_⟩;rw[(HT2.out.2.2 id hm q).1,<-hid,sid,sh];exact lh_at hs HND.out
        have HRS:Hid (∀ W,Ext wr W->W.cell? ⟨al,ol+k*10+8,none⟩=some (.bool rb)/\W.frozen? ⟨al,ol+k*10+8,none⟩=false/\(kd=3->HS wb gl gx gy dX dY vu vd al ol cl up down lv (.slice (some ⟨b,o,none⟩) ne kc) ev n (cur (ls.map (marks (ev.take i))) (kd,id,cd) (k+1)) (some (.slice ah nh kh,hm)) (W.setCell ⟨al,ol+k*10+8,none⟩ (.bool true)))/\(kd≠3->HS wb gl gx gy dX dY vu vd al ol cl up down lv (.slice (some ⟨b,o,none⟩) ne kc) ev n (cur (ls.map (marks (ev.take i))) (kd,id,cd) (k+1)) (some (.slice ah nh kh,hm)) W)):=λW hE=>by
         refine⟨hE.cell l8,((H5.out.ext hE).lineAt ht').2.2.1,λh3 => ?_,λh3 => ?_⟩
         ·rw[zzbis _ _ ht h3 hid.symm];exact(H5.out.ext hE).reset ht'
         ·rw[zzbbb _ _ ht (λq=>h3 q.1)];exact H5.out.ext hE
        rw[hid] at l0;generalize t.h.length=lt at *;clear lP lf l8 hs sid sh ht ht' hid H5 hmm hml HC HX3
        go_wp2_with fail
        go_quiet (fail)
        have hE1:=zay wr nq;have kS:=KS.out _ hE1;have c4q:=hE1.cell c4;have l9q:=hE1.cell l9;have HE1:=hide hE1;clear hE1
        go_wp2_with fail
        refine kS.mono ?_;rintro e w6 ⟨bb,rfl,hbb,hE6⟩;have hE7:=HE1.out.trans hE6;obtain⟨r8,rf,r3,rn⟩:=HRS.out w6 hE7;have y0q:=hE7.cell y0;have c4r:=hE7.cell c4;clear kS c4q l9q hE6 hE7 y0 y1 l0 l9 c4 HE1;by_cases h3:kd=3
        ·have HR:=hide (r3 h3);clear r3 rn;have hd3:((kd:Int) == 3)=true:=by simp[h3]
         clear h3
         go_wp2
         go_roundw
         case rel=>exact⟨rfl,k+1,by omega,by go_num,HR⟩
         case measure=>simp[intOf];omega
        ·have HR:=hide (rn h3);clear r3 rn;by_cases h1:kd=1
         ·obtain⟨q1,q2⟩:=HOP.out h1;have q3:=hbb q2;subst q1 q3;have hd3:((kd:Int) == 3)=false:=by simp[h1]
          have hd1:((kd:Int) == 1)=true:=by simp[h1]
          clear hbb q2 HOP h1 h3
          go_wp2
          go_roundw
          case rel=>exact⟨rfl,k+1,by omega,by go_num,HR⟩
          case measure=>simp[intOf];omega
         ·have h3':¬ (kd:Int)=3:=by omega
          have h1':¬ (kd:Int)=1:=by omega
          clear hbb HOP
          go_wp2
          go_roundw
          case rel=>exact⟨rfl,k+1,by omega,by go_num,HR⟩
          case measure=>simp[intOf];omega
       ·have hid':¬ (t.id:Int)=(id:Int):=by omega
        have HR:Hid (HS wb gl gx gy dX dY vu vd al ol cl up down lv (.slice (some ⟨b,o,none⟩) ne kc) ev n (cur (ls.map (marks (ev.take i))) (kd,id,cd) (k+1)) (some (.slice ah nh kh,hm)) wr):=by
         show HS _ _ _ _ _ _ _ _ _ _ _ _ _ _ _ _ _ _ _ _
         rw[zzbbb _ _ ht (λq=>hid q.2.symm)];exact H5.out
        clear l9 lP lf l8 hs sid sh ht ht' hid H5;generalize t.id=tid at *
        go_wp2_with fail
        go_quiet (fail)
        have HR2:=hide (HR.out.ext (zay wr nq))
        go_wp2
        go_roundw
        case rel=>exact⟨rfl,k+1,by omega,by go_num,HR2⟩
        case measure=>simp[intOf];omega
      ·have HR:Hid (HS wb gl gx gy dX dY vu vd al ol cl up down lv (.slice (some ⟨b,o,none⟩) ne kc) ev n (ls.map (marks (ev.take (i+1)))) none wr):=by
        have q:=H5.out;rw[zzbmd _ _ (k:=k) (by rw[List.length_map];have:=HN.out;omega),zzbfx ev HX.out] at q;exact q.drop
       clear H5
       go_wp2
       go_roundw
       case rel=>exact⟨rfl,i+1,by omega,by go_num,HR⟩
       case measure=>simp[intOf];omega
    ·have HR:Hid (zbz wb gl lv p m L S (QS (side+1)) wr):=by
      have q:=H3.out;have hl:=HNE.out;rw[List.take_of_length_le (by omega)] at q;exact q.hold (HSB.out.marks ev) hn1 HT1.out (λ_=>HQ.out)
     clear H3
     go_wp2
     go_roundw
     case rel=>exact⟨rfl,side+1,by omega,by go_num,HR⟩
     case measure=>simp[intOf];omega
  ·have h2:side=2:=by omega
   subst h2
   go_wp2
   go_ret
   obtain⟨own,gx,gy,dx,dy,vu,vd,vl,up,down,ls,xs,h1,h2,h3,h4,h5,h6,h7⟩:=H1.out;exact⟨rfl,own,gx,gy,dx,dy,vu,vd,vl,up,down,ls,xs,h1,h2,h3,h4,h5,h6,.inl ⟨h7.1 (by omega),h7.2 (by omega)⟩⟩
end
def In64(x:Int):Prop:=-9223372036854775808<=x/\x<=9223372036854775807
def zvy(w:World)(v:Value):Prop :=
 ∃ a n cap,v = .slice a n cap/\n<=cap/\cap<=maxLen/\(n=0 \/ ∃ b o,a=some ⟨b,o,none⟩ /\ ∀ i,i<n -> ∃ x0 x1 x2 x3:Int,In64 x0/\In64 x1/\In64 x2/\In64 x3 /\
  w.cell? ⟨b,o+i*4,none⟩=some (.int .i64 x0)/\w.cell? ⟨b,o+i*4+1,none⟩=some (.int .i64 x1)/\w.cell? ⟨b,o+i*4+2,none⟩=some (.int .i64 x2)/\w.cell? ⟨b,o+i*4+3,none⟩=some (.int .i64 x3))
theorem zbz.base{wb w:World}{gl:Nat}{lv:Bool}{p m L S:Nat}{Q:Ds->Ds->List Line->Res->Prop}(h:zbz wb gl lv p m L S Q w):Ext wb w:=by obtain⟨own,gx,gy,dx,dy,vu,vd,vl,up,down,ls,xs,h1,-⟩:=h;exact h1.base
theorem zcm.lines{nl:Nat}{wb w:World}{gl:Nat}{lv:Bool}{p m L S:Nat}{Q:Ds->Ds->List Line->Res->Prop}(h:zcm nl wb gl lv p m L S Q w):Lines gl nl w:=by obtain⟨own,gx,gy,dx,dy,vu,vd,vl,up,down,ls,xs,h0,h1,h2,h3,h4,h5,h6,h7⟩:=h;subst h0;obtain⟨al,ol,cl,hv,-⟩:=h2.linesV h1 (by omega);subst hv;exact⟨al,ol,cl,h2.cc h1 4,h5,h6.newStr.2⟩
theorem zzbbc(f:Nat):∀ d:Ds,d.inn.length<f->(Ds.looks f d).failed=true\/(Ds.looks f d).inn.length<6\/(Ds.looks f d).inn.length<6+Cs.num (Ds.looks f d).inn 0:=by
 induction f with
 | zero=>intro d h;omega
 | succ f ih =>
  intro d h;rw[Ds.looks];by_cases h1:d.failed=true\/d.inn.length<6
  ·rw[if_pos h1];rcases h1 with h1 | h1
   ·exact .inl h1
   ·exact .inr (.inl h1)
  ·rw[if_neg h1];dsimp only;by_cases h2:64<Cs.num d.inn 0
   ·rw[if_pos h2];exact .inl rfl
   ·rw[if_neg h2];by_cases h3:d.inn.length<6+Cs.num d.inn 0
    ·rw[if_pos h3];exact .inr (.inr h3)
    ·rw[if_neg h3];rcases zet { d with inn:=d.inn.drop (6+Cs.num d.inn 0) } ((d.inn.take (6+Cs.num d.inn 0)).getD 2 0).toNat ((d.inn.take (6+Cs.num d.inn 0)).getD 3 0).toNat (Cs.num (d.inn.take (6+Cs.num d.inn 0)) 4) ((d.inn.take (6+Cs.num d.inn 0)).drop 6) with k | k
     ·left;rw[zbb _ _ (.inl k)];exact k
     ·refine ih _ ?_;rw[k]
      show (d.inn.drop (6+Cs.num d.inn 0)).length<f
      rw[List.length_drop];omega
theorem zzbcs(d:Ds)(b:Bytes):(d.takes b).failed=true\/(d.takes b).inn.length<6\/(d.takes b).inn.length<6+Cs.num (d.takes b).inn 0:=by
 unfold Ds.takes;split
 ·rename_i hf;exact .inl hf
 ·exact zzbbc _ _ (Nat.lt_succ_self _)
theorem zee(U:List Fr)(h:encs U=[]):U=[]:=by
 cases U with
 | nil=>rfl
 | cons f U =>
  rw[zfg] at h
  have:=congrArg List.length h
  rw[List.length_append,zir] at this;simp at this
theorem Fit.allOk{client:Bool}{h:Nat->zal}:∀ {P:List Fr} {k:Nat->Prop} {p n:Nat} {b:Bytes},Fit client h k p n b P -> ∀ f∈P,f.Ok
 | [],_,_,_,_,_,f,hf=>by cases hf
 | g::P,k,p,n,b,hF,f,hf=>by
  rcases List.mem_cons.1 hf with rfl|hf
  ·exact hF.ok
  ·unfold Fit at hF;have hF:=hF.2;split at hF
   ·obtain⟨-,-,-,-,-,hF⟩:=hF;split at hF
    ·exact hF.2.allOk f hf
    ·exact hF.allOk f hf
   ·split at hF
    ·obtain⟨-,-,-,hF⟩:=hF;split at hF
     ·exact hF.2.allOk f hf
     ·exact hF.allOk f hf
    ·exact hF.2.2.allOk f hf
theorem zlb(x v:Nat):∀ ids:List Nat,ids.Nodup->(ids.map λs=>if s=x then v else 0).sum<=v
 | [],_=>Nat.zero_le _
 | a::ids,h=>by
  rw[List.nodup_cons] at h;rw[List.map_cons,List.sum_cons];by_cases e:a=x
  ·subst e;have hz:∀ l:List Nat,a ∉ l->(l.map λs=>if s=a then v else 0).sum=0:=λl hl=>by
    induction l with
    | nil=>rfl
    | cons b l ih =>
     rw[List.map_cons,List.sum_cons,ih λq=>hl (List.mem_cons_of_mem _ q),if_neg λq=>hl (by rw[q];exact List.mem_cons_self)]
   rw[if_pos rfl,hz ids h.1];exact Nat.le_refl _
  ·rw[if_neg e,Nat.zero_add];exact zlb x v ids h.2
theorem zmy{f g:Nat->Nat}(h:∀ s,f s<=g s):∀ ids:List Nat,(ids.map f).sum<=(ids.map g).sum
 | []=>Nat.le_refl _
 | a::ids=>by rw[List.map_cons,List.map_cons,List.sum_cons,List.sum_cons];exact Nat.add_le_add (h a) (zmy h ids)
theorem zod(f g:Nat->Nat):∀ ids:List Nat,(ids.map λs=>f s+g s).sum=(ids.map f).sum+(ids.map g).sum
 | []=>rfl
 | a::ids=>by rw[List.map_cons,List.map_cons,List.map_cons,List.sum_cons,List.sum_cons,List.sum_cons,zod f g ids];omega
theorem zuz(ids:List Nat)(h:ids.Nodup):∀ l:List St,(ids.map λs=>(vl l s).unread.length).sum<=tot l
 | []=>by
  have:(ids.map λs=>(vl [] s).unread.length).sum<=(ids.map λs=>if s=0 then 0 else 0).sum:=zmy (λs=>by show 0<=_;omega) ids
  have:=zlb 0 0 ids h
  omega
 | t::l=>by
  have e:tot (t::l)=t.unread.length+tot l:=by unfold tot;rw[List.map_cons,List.sum_cons]
  have k:∀ s,(vl (t::l) s).unread.length<=(if s=t.id then t.unread.length else 0)+(vl l s).unread.length:=λs=>by
   by_cases q:s=t.id
   ·rw[if_pos q]
    have:vl (t::l) s=t:=by unfold vl gl;rw[List.find?_cons_of_pos (by rw[q];simp)];rfl
    rw[this];omega
   ·rw[if_neg q]
    have:vl (t::l) s=vl l s:=by unfold vl gl;rw[List.find?_cons_of_neg (by simpa using λe=>q e.symm)]
    rw[this];omega
  have a1:=zmy k ids;rw[zod] at a1;have a2:=zlb t.id t.unread.length ids h;have a3:=zuz ids h l;omega
theorem zzbec(ids:List Nat)(h:ids.Nodup):∀ Q:List Fr,(ids.map λs=>(dat s Q).length).sum<=zbp Q
 | []=>by
  have:(ids.map λs=>(dat s []).length).sum<=(ids.map λs=>if s=0 then 0 else 0).sum:=zmy (λs=>by show 0<=_;omega) ids
  have:=zlb 0 0 ids h
  omega
 | f::Q=>by
  have k:∀ s,(dat s (f::Q)).length<=(if s=f.id then (if f.kind=0 then f.body.length else 0) else 0)+(dat s Q).length:=λs=>by
   rw[dat,List.length_append];by_cases q:isD s f
   ·rw[if_pos q,if_pos q.2.symm,if_pos q.1];exact Nat.le_refl _
   ·rw[if_neg q];show 0+_<=_;omega
  have a1:=zmy k ids;rw[zod] at a1;have a2:=zlb f.id (if f.kind=0 then f.body.length else 0) ids h;have a3:=zzbec ids h Q;rw[zbp];omega
section
variable {p:Nat} {cl:Bool} {nA nB:Nat} {d e:Ds} {up down:Bytes} {wA wB:Nat->Way} {r:Nat->Bool} {h:Nat->zal}
theorem Sim.stOf{A:Cs}(M:Sim d A)(hc:∀ s,(vl A.l s).coming=true->vl A.l s = { id:=s,coming:=true })(s:Nat):(d.stOf s).unread=(vl A.l s).unread/\(d.stOf s).data=(vl A.l s).bytes:=by
 cases hs:d.str s with
 | some x =>
  obtain⟨-,-,a3⟩:=M.strInv hs
  have:d.stOf s=x:=by unfold Ds.stOf;rw[hs];rfl
  rw[this];exact⟨a3.un.symm,a3.da.symm⟩
 | none =>
  have e0:d.stOf s = {}:=by unfold Ds.stOf;rw[hs];rfl
  rw[e0];have q:=M.str s;cases hg:gl A.l s with
  | none =>
   have:vl A.l s = { id:=s }:=by unfold vl;rw[hg];rfl
   rw[this];exact⟨rfl,rfl⟩
  | some t =>
   rw[hg] at q;dsimp only at q;cases hct:t.coming with
   | true =>
    have hv:vl A.l s=t:=by unfold vl;rw[hg];rfl
    rw[hc s (by rw[hv];exact hct)];exact⟨rfl,rfl⟩
   | false =>
    rw[hct,if_neg Bool.false_ne_true] at q;obtain⟨x,a1,-⟩:=q;rw[hs] at a1;cases a1
theorem LK.noPart(H:LK p cl nA nB d e [] down wA wB r h)(hs:e.inn.length<6\/e.inn.length<6+Cs.num e.inn 0):e.inn=[]:=by
 obtain⟨A,B,U,D,CA,CB,h1,h2,S,h3,-⟩:=H;rw[List.append_nil] at h3;cases U with
 | nil=>exact h3
 | cons f P =>
  exfalso;have ho:=S.ab.fit.ok;have hl:=congrArg List.length h3;rw[zfg,List.length_append,zir] at hl;rw[h3,zfg,zzbdy f ho,List.length_append,zir] at hs;omega
theorem LK.flowQ(H:LK p cl nA nB d e up down wA wB r h)(hp:p<=2):∃ Q:List Fr,e.inn++up=encs Q/\(∀ f∈Q,f.Ok)/\(∀ s,(wA s).sent.length=(wA s).read+(e.stOf s).unread.length+(dat s Q).length+(d.stOf s).data.length) /\
  (∀ s,s≠0->(e.stOf s).unread.length+(dat s Q).length<=100) /\ ∀ ids:List Nat,ids.Nodup->(ids.map λs=>(e.stOf s).unread.length+(dat s Q).length).sum<=150:=by
 obtain⟨A,B,U,D,CA,CB,h1,h2,S,h3,-⟩:=H;obtain⟨C1,C2,-,-⟩:=S.calm hp;have eA:=h1.stOf λs q=>(S.ba.coming s q).1;have eB:=h2.stOf λs q=>(S.ab.coming s q).1;refine⟨U,h3,S.ab.fit.allOk,λs => ?_,λs h0 => ?_,λids hn => ?_⟩
 ·obtain⟨rest,a1,a2,-⟩:=S.ab.q s (C2.nr s);have a3:=a2 (C1.nr s);have a4:=S.ab.q0 s;have hl:=congrArg List.length a1;rw[List.length_drop,List.length_append,List.length_append,a3] at hl;rw[(eA s).2,(eB s).1];omega
 ·have:=S.ab.j s h0
  rw[(eB s).1];omega
 ·have a1:=S.ab.i1;have a2:=S.ab.i2;have a3:=zuz ids hn B.l;have a4:=zzbec ids hn U;have a5:(ids.map λs=>(e.stOf s).unread.length+(dat s U).length)=ids.map λs=>(vl B.l s).unread.length+(dat s U).length:=List.map_congr_left λs _=>by rw[(eB s).1]
  rw[a5,zod];omega
end
end Go.Proofs.YtoijpogadkogcaaGreat
