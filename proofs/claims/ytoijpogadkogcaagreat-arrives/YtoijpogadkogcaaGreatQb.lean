import Derived.Test.YtoijpogadkogcaaGreatQa
import Derived.Deep.QuietTactic
import Derived.BigQuiet
namespace Go.Proofs.YtoijpogadkogcaaGreat
open Go.RowKit
set_option maxRecDepth 100000
def zch(x y:ByteArray):List UInt8×List UInt8:=(x.data.toList,y.data.toList)
set_option maxHeartbeats 800000 in
theorem zhy(x y:ByteArray)(w:World)(hx:x.size<=maxLen)(hy:y.size<=maxLen):Calls Tryz.prog 127 #[.agg #[.string x,.string y]] w λe w'=>e = .returned (.bool (zbs (zch x y)))/\Ext w w':=by
 cases hn:zfo x.data.toList
 ·have HN:=hide hn;clear hn
  go_enter Tryz.func127,Tryz.ntmps127
  go_wp2_with (first
   | (go_at_call 165;refine(ztc _ _ hx).mono ?_;rintro e w' ⟨rfl,rfl⟩;rw[HN.out])
   | (go_at_call 166;refine(zqu _ _ hy).mono ?_;rintro e w' ⟨rfl,rfl⟩))
  go_ret
  exact⟨zcj (by simp[zbs,zch,HN.out]),(Ext.refl _).alloc _⟩
 ·have HN:=hide hn;clear hn
  go_enter Tryz.func127,Tryz.ntmps127
  go_wp2_with (first
   | (go_at_call 165;refine(ztc _ _ hx).mono ?_;rintro e w' ⟨rfl,rfl⟩;rw[HN.out])
   | (go_at_call 166;refine(zqu _ _ hy).mono ?_;rintro e w' ⟨rfl,rfl⟩))
  go_ret
  exact⟨zcj (by simp[zbs,zch,HN.out]),(Ext.refl _).alloc _⟩
theorem zte{w:World}{base:Nat}{e:TypeId}{size n:Nat}{v:Value}{xs:List Value}(h:w.ownsRow base e size v n xs)(k:Nat)(hk:w.heap.size<=k):v.ownBlock≠some k:=by
 intro e
 have:=(h.lt k e).2
 omega
theorem zau.other{w w':World}{v v':Value}(h:zau w v w' v')(k:Nat)(hk:k<w.heap.size)(hv:v.ownBlock≠some k):v'.ownBlock≠some k:=by
 rcases h.place with e|⟨g,e,hg⟩
 ·rw[e];exact hv
 ·rw[e];intro h';injection h' with h';omega
theorem zhf{w w':World}{base:Nat}{e:TypeId}{size n:Nat}{v:Value}{xs:List Value}(h:w.ownsRow base e size v n xs)(hE:Ext w w'):w'.ownsRow base e size v n xs:=by
 refine h.kept (row:=Option.none) ⟨hE.os,hE.tape,hE.output,hE.size,λk hk _=>hE.block k hk⟩ ?_;cases v.ownBlock with
 | none=>exact .inl rfl
 | some g=>exact .inr (by simp)
set_option maxHeartbeats 1600000 in
theorem zsc(x y:ByteArray)(v vt:Value)(l:List UInt8)(base:Nat)(w:World)(hx:x.size<=60)(hy:y.size<=60)(hl:l.length<=50000)(hb:base<=w.heap.size)(ht:zbq w vt tbl)(hown:w.ownsRow base 5 1 v l.length (zab l)) :
  Calls Tryz.prog 128 #[v,.agg #[.string x,.string y],vt] w λe w' => ∃ v',e = .returned v'/\w'.ownsRow base 5 1 v' (l++zdn (zch x y)).length (zab (l++zdn (zch x y)))/\zau w v w' v':=by
 obtain⟨i0,hi,hz0,hz1,hz2⟩:=info_parts Tryz.info5;have hle1:zdk (zch x y)<=16:=zkj _ tbl;have hle2:zcb x.data.toList<=16:=zkj _ tbl;obtain⟨k1,hk1⟩:∃ k,k=zdk (zch x y):=⟨_,rfl⟩;obtain⟨k2,hk2⟩:∃ k,k=zcb x.data.toList:=⟨_,rfl⟩;rw[<-hk1] at hle1;rw[<-hk2] at hle2;have HK1:Hid (least (zjg (x.data.toList,y.data.toList)) tbl=k1):=hk1.symm;have HK2:Hid (least (zhw x.data.toList) tbl=k2):=hk2.symm;have HX:Hid (zdn (zch x y)=if 0<k1 then zbj 128 7 k1 else if 0<k2 then zbj 64 7 k2++zcy y.data.toList else 0::(zcy x.data.toList++zcy y.data.toList)):=by
  show zdn (zch x y)=_
  rw[hk1,hk2];rfl
 clear hk1 hk2;generalize zdn (zch x y)=E at HX ⊢;have hx0:=(zlg w (.string x) (.string y) 122);have hx1:=(zlh w (.string x) (.string y) 122);have hE:=(Ext.refl w).alloc (.cells #[.string x,.string y] 122);have hown0:=hown.alloc (.cells #[.string x,.string y] 122);have hne0:=zte hown w.heap.size (Nat.le_refl _);have hG:=zau.alloc w v (.cells #[.string x,.string y] 122);have hsz:base<=(w.alloc (.cells #[.string x,.string y] 122)).heap.size:=by simp;omega
 have hlt:w.heap.size<(w.alloc (.cells #[.string x,.string y] 122)).heap.size:=by simp
 have ht0:=ht.ext hE;have first:Calls Tryz.prog 167 #[.agg #[.string x,.string y],vt] (w.alloc (.cells #[.string x,.string y] 122)) λe w'=>e = .returned (.int .i64 (k1:Int))/\Ext (w.alloc (.cells #[.string x,.string y] 122)) w':=by
  have:=zzbbi x y vt tbl (w.alloc (.cells #[.string x,.string y] 122)) (by decide) ht0
  rwa [HK1.out] at this
 have FIRST:=hide first
 have second:∀ w1,Ext (w.alloc (.cells #[.string x,.string y] 122)) w1->Calls Tryz.prog 169 #[.string x,vt] w1 λe w'=>e = .returned (.int .i64 (k2:Int))/\Ext w1 w':=by
  intro w1 he
  have:=zvb x vt tbl w1 (by decide) (ht0.ext he)
  rwa [HK2.out] at this
 have SECOND:=hide second;clear first second
 by_cases h1:0<k1
 ·rw[HX.out,if_pos h1]
  go_enter Tryz.func128,Tryz.ntmps128
  go_wp2_with fail
  refine FIRST.out.mono ?_;rintro e w1 ⟨rfl,hE1⟩;have hown1:=zhf hown0 hE1;have hsz1:base<=w1.heap.size:=by have:=hE1.size;omega
  clear hx0 hx1 hown hown0
  go_wp2_with (go_at_call 168;refine(zsb k1 v l base w1 (by omega) (by omega) hsz1 hown1).mono ?_;rintro e w2 ⟨v2,rfl,hown2,hgrew2⟩)
  go_ret
  exact⟨v2,rfl,hown2,hG.trans ((zau.ext _ _ _ hE1).trans hgrew2)⟩
 ·by_cases h2:0<k2
  ·rw[HX.out,if_neg h1,if_pos h2];have hlen:(l++zbj 64 7 k2).length<=50002:=by rw[List.length_append];have:=zzbda 64 7 k2;omega
   go_enter Tryz.func128,Tryz.ntmps128
   go_wp2_with fail
   refine FIRST.out.mono ?_;rintro e w1 ⟨rfl,hE1⟩;have hx0:=hE1.cell hx0;have hx1:=hE1.cell hx1;have hown1:=zhf hown0 hE1;have hsz1:base<=w1.heap.size:=by have:=hE1.size;omega
   have hlt1:w.heap.size<w1.heap.size:=zef hx0
   go_wp2_with fail
   refine(SECOND.out w1 hE1).mono ?_;rintro e w2 ⟨rfl,hE2⟩;have hx1:=hE2.cell hx1;have hown2:=zhf hown1 hE2;have hsz2:base<=w2.heap.size:=by have:=hE2.size;omega
   have hlt2:w.heap.size<w2.heap.size:=zef hx1;clear hx0
   go_wp2_with (go_at_call 168;refine(ztd k2 v l base w2 (by omega) (by omega) hsz2 hown2).mono ?_;rintro e w3 ⟨v3,rfl,hown3,hgrew3⟩;have hx1:=hgrew3.cell hx1 hne0)
   have hsz3:base<=w3.heap.size:=by have:=hgrew3.grown.size;omega
   refine(zio y v3 (l++zbj 64 7 k2) base w3 hy (by omega) hsz3 hown3).mono ?_;rintro e w4 ⟨v4,rfl,hown4,hgrew4⟩
   go_wp2
   go_ret
   exact⟨v4,rfl,by rw[<-List.append_assoc];exact hown4,hG.trans ((zau.ext _ _ _ hE1).trans ((zau.ext _ _ _ hE2).trans (hgrew3.trans hgrew4)))⟩
  ·rw[HX.out,if_neg h1,if_neg h2];have HB:Hid (zab (l++[0])=zab l++[.int .u8 0]/\(l++[(0:UInt8)]).length=l.length+1):=⟨by rw[zbe];rfl,by simp⟩;have HL:Hid (l++0::(zcy x.data.toList++zcy y.data.toList)=((l++[0])++zcy x.data.toList)++zcy y.data.toList):=by show l++_=_;simp
   have hlen1:(l++[(0:UInt8)]).length<=50001:=by simp;omega
   have hlen2:((l++[(0:UInt8)])++zcy x.data.toList).length<=50100:=by
    have h3:=zfh x.data.toList;have h4:x.data.toList.length=x.size:=by simp
    rw[List.length_append,h3];split<;>omega
   rw[HL.out];generalize hl1:l++[(0:UInt8)]=l1 at HB hlen1 hlen2 ⊢;clear hl1 HL
   go_enter Tryz.func128,Tryz.ntmps128
   go_wp2_with fail
   refine FIRST.out.mono ?_;rintro e w1 ⟨rfl,hE1⟩;have hx0:=hE1.cell hx0;have hx1:=hE1.cell hx1;have hown1:=zhf hown0 hE1;have hsz1:base<=w1.heap.size:=by have:=hE1.size;omega
   have hlt1:w.heap.size<w1.heap.size:=zef hx0
   go_wp2_with fail
   refine(SECOND.out w1 hE1).mono ?_;rintro e w2 ⟨rfl,hE2⟩;have hx0:=hE2.cell hx0;have hx1:=hE2.cell hx1;have hown2:=zhf hown1 hE2;have hsz2:base<=w2.heap.size:=by have:=hE2.size;omega
   have hlt2:w.heap.size<w2.heap.size:=zef hx1
   go_wp2_with (at_builtin;refine zbw _ rfl (.tmp 30) (.tmp 31) 34 34 rfl base 5 i0 (.int .u8 0) 1 1 Tryz.underlying34 hi hz0 hz1 hz2 rfl (by decide) _ _ _ rfl (hown2.alloc _) _ 1 [.int .u8 0] rfl (zhn _ _ Tryz.underlying34 _ rfl) ?_ ?_ ?_ ?_)
   ·unfold maxLen;omega
   ·omega
   ·simp;omega
   ·intro v3 w3 hown3 hgrew3;have hgrew3:=(zau.alloc w2 v _).trans hgrew3;have hown3:=zfi hown3 HB.out.2.symm HB.out.1.symm;have hx0:=hgrew3.cell hx0 hne0;have hx1:=hgrew3.cell hx1 hne0;have hne3:=hgrew3.other _ hlt2 hne0;have hsz3:base<=w3.heap.size:=by have:=hgrew3.grown.size;omega
    have hlt3:w.heap.size<w3.heap.size:=zef hx1
    go_wp2_with fail
    refine(zio x v3 l1 base w3 hx (by omega) hsz3 hown3).mono ?_;rintro e w4 ⟨v4,rfl,hown4,hgrew4⟩;have hx1:=hgrew4.cell hx1 hne3;have hsz4:base<=w4.heap.size:=by have:=hgrew4.grown.size;omega
    have hlt4:w.heap.size<w4.heap.size:=zef hx1
    go_wp2_with fail
    refine(zio y v4 (l1++zcy x.data.toList) base w4 hy (by omega) hsz4 hown4).mono ?_;rintro e w5 ⟨v5,rfl,hown5,hgrew5⟩
    go_wp2
    go_ret
    exact⟨v5,rfl,hown5,hG.trans ((zau.ext _ _ _ hE1).trans ((zau.ext _ _ _ hE2).trans (hgrew3.trans (hgrew4.trans hgrew5))))⟩
def ziv(m:List (List UInt8×List UInt8)):Bool:=m.all zbs
def zbi(m:List (List UInt8×List UInt8)):Bool:=decide (1<=m.length) && decide (m.length<=8) && ziv m
theorem zzbeh(m:List (List UInt8×List UInt8))(k:Nat)(hk:k<m.length)(h:zbs (m.getD k ([],[]))=false):zbi m=false:=by
 have:ziv m=false:=by unfold ziv;rw[List.all_eq_false];exact⟨m[k],List.getElem_mem hk,by rw[List.getD_eq_getElem?_getD,List.getElem?_eq_getElem hk] at h;simpa using h⟩
 unfold zbi;rw[this,Bool.and_false]
theorem zzbgf(m:List (List UInt8×List UInt8))(h1:1<=m.length)(h8:m.length<=8)(h:∀ j,j<m.length->zbs (m.getD j ([],[]))=true):zbi m=true:=by
 have:ziv m=true:=by
  unfold ziv;rw[List.all_eq_true];intro p hp;obtain⟨i,hi,rfl⟩:=List.mem_iff_getElem.1 hp
  have:=h i hi
  rw[List.getD_eq_getElem?_getD,List.getElem?_eq_getElem hi] at this;simpa using this
 simp[zbi,this,h1,h8]
theorem zzbgg(m:List (List UInt8×List UInt8))(k:Nat)(hk:k<m.length):m.take (k+1)=m.take k++[m.getD k ([],[])]:=by rw[List.take_succ_eq_append_getElem hk,List.getD_eq_getElem?_getD,List.getElem?_eq_getElem hk];rfl
theorem zzbbj(m:List (List UInt8×List UInt8))(k:Nat)(hk:k<m.length):zah (m.take (k+1))=zah (m.take k)++zdn (m.getD k ([],[])):=by
 rw[zzbgg m k hk,zxq]
 show _++(zdn _++[])=_
 rw[List.append_nil]
theorem Ext.trans'{a w w':World}{base:Nat}{e:TypeId}{size n:Nat}{v v':Value}{xs:List Value}(h:Ext a w)(g:zau w v w' v')(hown:w.ownsRow base e size v n xs)(hb:a.heap.size<=base:=by exact Nat.le_refl _):Ext a w' :=
 Below.trans h (g.below a.heap.size h.size (λk hk=>Nat.le_trans hb (hown.lt k hk).1))
theorem zoy{w:World}{b b':Nat}{e:TypeId}{size n:Nat}{v:Value}{xs:List Value}(h:w.ownsRow b e size v n xs)(hb:b'<=b):w.ownsRow b' e size v n xs:=by
 refine⟨h.1,?_⟩;rcases h.2 with h2 | ⟨g,cap,cur,h2,h3,h4⟩
 ·exact .inl h2
 ·exact .inr ⟨g,cap,cur,h2,Nat.le_trans hb h3,h4⟩
set_option maxHeartbeats 3200000 in
theorem zzbjf(vh:Value)(m:List (List UInt8×List UInt8))(w:World)(hh:zbq w vh m)(hs:∀ p∈m,p.1.length<=maxLen/\p.2.length<=maxLen) :
  Calls Tryz.prog 70 #[vh] w λe w'=>Ext w w'/\((zbi m=true /\ ∃ v,e = .returned (.tuple #[v,.int .i64 0])/\w'.ownsRow w.heap.size 5 1 v (zah m).length (zab (zah m)))\/(zbi m=false/\e = .returned (.tuple #[.slice none 0 0,.int .i64 2]))):=by
 obtain⟨a,cap,rfl,hc1,hc2,hcell⟩:=hh;unfold maxLen at hc2;by_cases h1:1<=m.length
 ·by_cases h8:m.length<=8
  ·obtain⟨b,o,rfl,hcc⟩:∃ b o,a=some ⟨b,o,none⟩ /\ ∀ i,i<m.length->w.cell? ⟨b,o+i*2,none⟩=some (.string ⟨(m.getD i ([],[])).1.toArray⟩)/\w.cell? ⟨b,o+i*2+1,none⟩=some (.string ⟨(m.getD i ([],[])).2.toArray⟩):=by
    rcases hcell with h|h
    ·rw[h] at h1;simp at h1
    ·exact h
   have HC:=hide hcc;have HS:=hide hs;clear hcc hs hcell
   go_enter Tryz.func70,Tryz.ntmps70
   go_wp2_with fail
   refine(zwa w).mono ?_;rintro e w1 ⟨vt,rfl,ht1,hE1⟩
   go_wp2_with fail
   go_loopw [5,19] (λv i wr => ∃ k:Nat,k<=m.length/\i = .int .i64 k/\wr.ownsRow w1.heap.size 5 1 v (zah (m.take k)).length (zab (zah (m.take k)))/\Ext w1 wr/\Hid (∀ j,j<k->zbs (m.getD j ([],[]))=true)) (λ_ i _=>m.length-(intOf i).toNat)
   case atStart=>exact⟨0,Nat.zero_le _,rfl,World.ownsRow_nil _ _ _ _,Ext.refl _,λj h=>by omega⟩
   case round =>
    obtain⟨k,hk,rfl,hown,hEr,HA⟩:=hrel;by_cases hlt:k<m.length
    ·have hE0:=hE1.trans hEr;have hcA:=hE0.cell (HC.out k hlt).1;have hcB:=hE0.cell (HC.out k hlt).2;have HT:Hid (zah (m.take (k+1))=zah (m.take k)++zdn (m.getD k ([],[]))):=zzbbj m k hlt;have HM:Hid (m.getD k ([],[])∈m):=by
      show m.getD k ([],[])∈m
      rw[List.getD_eq_getElem?_getD,List.getElem?_eq_getElem hlt];exact List.getElem_mem hlt
     have HQ:=hide (HS.out _ HM.out);have hlen:(zah (m.take k)).length<=84*8:=by
      have:=zlf (m.take k) (λp hp=>by obtain⟨i,hi,rfl⟩:=List.mem_iff_getElem.1 hp;rw[List.length_take] at hi;have h2:=HA.out i (by omega);rw[List.getD_eq_getElem?_getD,List.getElem?_eq_getElem (by omega)] at h2;simpa using h2)
      rw[List.length_take] at this;omega
     generalize hp:m.getD k ([],[])=p at hcA hcB HT HQ;have HP:=hide hp;clear hp HM;obtain⟨x,hx⟩:∃ x:ByteArray,x=⟨p.1.toArray⟩:=⟨_,rfl⟩;obtain⟨y,hy⟩:∃ y:ByteArray,y=⟨p.2.toArray⟩:=⟨_,rfl⟩;rw[<-hx] at hcA;rw[<-hy] at hcB;have HO:Hid (zch x y=p/\x.size=p.1.length/\y.size=p.2.length):=by subst hx hy;exact⟨rfl,rfl,rfl⟩
     clear hx hy;have hx0:=(zlg wr (.string x) (.string y) 122);have hx1:=(zlh wr (.string x) (.string y) 122);have hEb:=(Ext.refl wr).alloc (.cells #[.string x,.string y] 122);have hownb:=hown.alloc (.cells #[.string x,.string y] 122);have hneb:=zte hown wr.heap.size (Nat.le_refl _)
     go_wp2_with fail
     refine(zhy x y _ (by rw[HO.out.2.1];exact HQ.out.1) (by rw[HO.out.2.2];exact HQ.out.2)).mono ?_;rintro e w2 ⟨rfl,hE2⟩;rw[HO.out.1];have hx0:=hE2.cell hx0;have hx1:=hE2.cell hx1;have hown2:=zhf hownb hE2;have hEw2:=hEr.trans (hEb.trans hE2);clear hcA hcB;cases hok:zbs p
     ·have HOK:=hide hok;clear hok
      go_wp2
      go_ret2
      exact⟨hE1.trans hEw2,.inr ⟨zzbeh m k hlt (by rw[HP.out,HOK.out]),rfl⟩⟩
     ·have HOK:=hide hok;clear hok;have hsz2:w1.heap.size<=w2.heap.size:=hEw2.size
      go_wp2_with fail
      refine(zsc x y u5 vt (zah (m.take k)) w1.heap.size w2 (by have:=zhx p HOK.out;rw[HO.out.2.1];omega) (by have:=zhx p HOK.out;rw[HO.out.2.2];omega) (by omega) hsz2 (ht1.ext hEw2) hown2).mono ?_;rintro e w3 ⟨v3,rfl,hown3,hgrew3⟩;rw[HO.out.1,<-HT.out] at hown3;have hE3:Ext w1 w3:=hEw2.trans' hgrew3 hown2
      go_wp2
      go_roundw
      case rel =>
       refine⟨k+1,by omega,by go_num,hown3,hE3,λj hj => ?_⟩;by_cases e:j=k
       ·subst e;rw[HP.out,HOK.out]
       ·exact HA.out j (by omega)
      case measure=>simp[intOf];omega
    ·have hkm:m.take k=m:=List.take_of_length_le (by omega);rw[hkm] at hown
     go_wp2
     go_ret2
     exact⟨hE1.trans hEr,.inl ⟨zzbgf m h1 h8 (λj hj=>HA.out j (by omega)),u5,rfl,zoy hown hE1.size⟩⟩
  ·go_enter Tryz.func70,Tryz.ntmps70
   go_wp2
   go_ret2
   exact⟨Ext.refl _,.inr ⟨by simp[zbi];omega,rfl⟩⟩
 ·go_enter Tryz.func70,Tryz.ntmps70
  go_wp2
  go_ret2
  exact⟨Ext.refl _,.inr ⟨by simp[zbi];omega,rfl⟩⟩
theorem zay(w:World)(n:Nat):Ext w (w.drewN n):=⟨rfl,rfl,rfl,Nat.le_refl _,λ_ _=>rfl⟩
theorem zam:Tryz.prog.elem 34=5:=by kernel_rfl
theorem zbl(W:World):(sizeOf 5).run Tryz.prog W = .ok 1 W:=by kernel_rfl
theorem zhg{a:Option Addr}{n cap:Nat}{l:List UInt8}{w:World}(h:zae w (.slice a n cap) l)(k:Nat)(hk:k<=l.length) :
  ∃ A,(∀ W:World,(Instr.slice 34 (.slice a n cap) (some (.int .i64 (k:Int))) none none).run Tryz.prog W = .ok (.slice A (n-k) (cap-k)) W)/\zae w (.slice A (n-k) (cap-k)) (l.drop k):=by
 have hn:n=l.length:=by obtain⟨a',cap',he,_⟩:=h;simp only[Value.slice.injEq] at he;exact he.2.1
 refine⟨_,λW => ?_,zae.drop h k hk⟩;rw[run_slice_l W 34 a n cap (by rw[zam];exact Tryz.underlying34) .i64 (k:Int) (by omega) (by omega),zam,zbl];simp[sliced,Result.andThen]
theorem zkc{a b:Int}{v:Value}{t:Bool}(h:a=b):Ending.returned (.tuple #[.int .i64 a,v,.bool t]) = .returned (.tuple #[.int .i64 b,v,.bool t]):=by rw[h]
theorem zzbdb(c:UInt8):bits BinOp.and IntKind.u8 (c.toNat:Int) 127=((c.toNat%128:Nat):Int):=by
 have:∀ k:Fin 256,bits BinOp.and IntKind.u8 ((k.val:Nat):Int) 127=((k.val%128:Nat):Int):=by decide +kernel
 exact this ⟨c.toNat,c.toNat_lt⟩
theorem and_7(c:UInt8):bits BinOp.and IntKind.i64 (c.toNat:Int) 7=((c.toNat%8:Nat):Int):=by
 have:∀ k:Fin 256,bits BinOp.and IntKind.i64 ((k.val:Nat):Int) 7=((k.val%8:Nat):Int):=by decide +kernel
 exact this ⟨c.toNat,c.toNat_lt⟩
set_option maxHeartbeats 800000 in
theorem zvd(v:Value)(w:World)(h:zae w v []) :
  Calls Tryz.prog 197 #[v,.int .i64 3] w λe w'=>e = .returned (.tuple #[.int .i64 0,.slice none 0 0,.bool false])/\w'=w:=by
 obtain⟨a,cap,rfl,hc1,hc2,hcell⟩:=h
 go_enter Tryz.func197,Tryz.ntmps197
 go_wp2
 go_ret3
 exact⟨rfl,rfl⟩
set_option maxHeartbeats 3200000 in
set_option maxRecDepth 100000 in
theorem ztf(v:Value)(c:UInt8)(r:List UInt8)(w0 w:World)(h0:Ext w0 w)(hb:zae w0 v (c::r))(hl:r.length<=100000) :
  Calls Tryz.prog 197 #[v,.int .i64 3] w λe w'=>Ext w w'/\((∃ n rest v',zbr 7 (c::r)=some (n,rest)/\e = .returned (.tuple #[.int .i64 (n:Int),v',.bool true])/\zae w0 v' rest)\/(zbr 7 (c::r)=none/\e = .returned (.tuple #[.int .i64 0,.slice none 0 0,.bool false]))):=by
 obtain⟨a,cap,rfl,hc1,hc2,hcell⟩:=hb.ext h0;obtain⟨b,o,rfl,hcc⟩:∃ b o,a=some ⟨b,o,none⟩ /\ ∀ i,i<(c::r).length->w.cell? ⟨b,o+i,none⟩=some (.int .u8 (((c::r).getD i 0).toNat:Int)):=by
  rcases hcell with h|h
  ·cases h
  ·exact h
 have hc0:w.cell? ⟨b,o,none⟩=some (.int .u8 (c.toNat:Int)):=hcc 0 (by simp);clear hcell hcc;rw[List.length_cons] at hc1 hb ⊢;have hcb:c.toNat<256:=c.toNat_lt;have hne:(((r.length:Nat):Int)+1 == 0)=false:=by simp;omega
 have ha:=and_7 c;obtain⟨q,hq⟩:∃ q,q=c.toNat%8:=⟨_,rfl⟩;rw[<-hq] at ha;have hql:q<=7:=by omega
 obtain⟨A,hsl,hA⟩:=zhg hb 1 (by simp);rw[show r.length+1-1=r.length by omega,show (c::r).drop 1=r from rfl] at hA;rw[show r.length+1-1=r.length by omega,show ((1:Nat):Int)=1 from rfl] at hsl;by_cases hlow:q<7
 ·have HD:Hid (zbr 7 (c::r)=some (q,r)):=by
   show zbr 7 (c::r)=_
   simp only[zbr];rw[<-hq,if_pos hlow]
  clear hq
  go_enter Tryz.func197,Tryz.ntmps197
  go_wp2_with fail
  go_quiet ((go_at_call 194;exact Calls.quiet_of_same (znb _)))
  go_wp2_with (go_at_call 194;refine(znb _).mono ?_;rintro e w' ⟨rfl,hw⟩;subst hw)
  go_quiet (fail)
  go_wp2
  go_ret3
  exact⟨(zay _ _).trans (zay _ _),.inl ⟨q,r,_,HD.out,rfl,hA⟩⟩
 ·have hq7:q=7:=by omega
  subst hq7;have HDx:True:=trivial;have HD:Hid (zbr 7 (c::r)=zcd 3 7 0 r):=by
   show zbr 7 (c::r)=_
   simp only[zbr];rw[<-hq,if_neg (by omega)]
  clear hq hlow hql
  go_enter Tryz.func197,Tryz.ntmps197
  go_wp2_with fail
  go_quiet ((go_at_call 194;exact Calls.quiet_of_same (znb _)))
  go_wp2_with (go_at_call 194;refine(znb _).mono ?_;rintro e w' ⟨rfl,hw⟩;subst hw)
  have hE1:=zay w nq;have hA1:=hA.ext (h0.trans hE1);clear hsl hc0 hb ha hne HDx;generalize w.drewN nq=W1 at hA1 hE1 ⊢
  go_loop [4,8] (λn i => ∃ k acc:Nat,k<=3/\k<=r.length/\i = .int .i64 k/\n = .int .i64 acc/\acc<=31+k*3000000/\Hid (zbr 7 (c::r)=zcd (3-k) acc k (r.drop k))) (λ_ i=>3-(intOf i).toNat)
  case atStart=>exact⟨0,7,by omega,by omega,rfl,rfl,by omega,HD⟩
  case round =>
   obtain⟨k,acc,hk3,hkr,rfl,rfl,hacc,HD⟩:=hrel;by_cases hlt:k<r.length
   ·by_cases h3:k<3
    ·obtain⟨a',cap',he,hd1,hd2,hd3⟩:=id hA1;simp only[Value.slice.injEq,true_and] at he;obtain⟨rfl,rfl⟩:=he;obtain⟨b1,o1,rfl,hcc⟩:∃ b o,A=some ⟨b,o,none⟩ /\ ∀ i,i<r.length->W1.cell? ⟨b,o+i,none⟩=some (.int .u8 ((r.getD i 0).toNat:Int)):=by
      rcases hd3 with h|h
      ·rw[h] at hlt;simp at hlt
      ·exact h
     have hck:=hcc k hlt;obtain⟨B,hsl,hB⟩:=zhg hA (k+1) (by omega);have hdrop:r.drop k=r.getD k 0::r.drop (k+1):=by rw[List.getD_eq_getElem?_getD,List.getElem?_eq_getElem hlt];exact List.drop_eq_getElem_cons hlt
     have hand:=zzbdb (r.getD k 0);have hxl:=(r.getD k 0).toNat_lt;have hD:=HD.out;rw[hdrop] at hD;generalize hx:r.getD k 0=x at hck hand hxl hD;clear hx hdrop hcc hd3 HD;obtain⟨y,hy⟩:∃ y,y=x.toNat%128:=⟨_,rfl⟩;rw[<-hy] at hand;have hyl:y<=127:=by omega
     by_cases hbig:128<=x.toNat
     ·have HD:Hid (zbr 7 (c::r)=zcd (3-(k+1)) (acc+y*2 ^ (7*k)) (k+1) (r.drop (k+1))):=by
       show zbr 7 (c::r)=_
       rw[hD,show 3-k=3-(k+1)+1 by omega];simp only[zcd];rw[if_pos hbig,<-hy]
      clear hD hy hsl hB hA hA1;rcases (by omega:k=0\/k=1\/k=2) with rfl | rfl | rfl
      all_goals
       try rw[Nat.add_zero] at hck
       go_wp2
       go_round
       case rel=>exact⟨_,_,by omega,by omega,by go_num,by go_num,by omega,HD⟩
       case measure=>simp[intOf]
     ·by_cases hover:9999<acc+y*2 ^ (7*k)
      ·have HD:Hid (zbr 7 (c::r)=none):=by
        show zbr 7 (c::r)=_
        rw[hD,show 3-k=3-(k+1)+1 by omega];simp only[zcd];rw[if_neg hbig,<-hy,if_pos hover]
       clear hD hy hsl hB hA hA1;rcases (by omega:k=0\/k=1\/k=2) with rfl | rfl | rfl
       all_goals
        try rw[Nat.add_zero] at hck
        go_wp2
        all_goals
         go_ret3
         exact⟨hE1,.inr ⟨HD.out,rfl⟩⟩
      ·have HD:Hid (zbr 7 (c::r)=some (acc+y*2 ^ (7*k),r.drop (k+1))):=by
        show zbr 7 (c::r)=_
        rw[hD,show 3-k=3-(k+1)+1 by omega];simp only[zcd];rw[if_neg hbig,<-hy,if_neg hover]
       clear hD hy hA hA1;rcases (by omega:k=0\/k=1\/k=2) with rfl | rfl | rfl
       ·have hs1:∀ W:World,(Instr.slice 34 (.slice (some ⟨b1,o1,none⟩) r.length (cap-1)) (some (.int .i64 1)) none none).run Tryz.prog W = .ok (.slice B (r.length-1) (cap-1-1)) W:=hsl;have hB:zae w0 (.slice B (r.length-1) (cap-1-1)) (r.drop 1):=hB;clear hsl
        try rw[Nat.add_zero] at hck
        go_wp2_with fail
        go_quiet (fail)
        go_wp2
        go_ret3
        exact⟨hE1.trans (zay _ _),.inl ⟨acc+y*1,r.drop 1,_,HD.out,zkc (by omega),hB⟩⟩
       ·have hs1:∀ W:World,(Instr.slice 34 (.slice (some ⟨b1,o1,none⟩) r.length (cap-1)) (some (.int .i64 2)) none none).run Tryz.prog W = .ok (.slice B (r.length-2) (cap-1-2)) W:=hsl;have hB:zae w0 (.slice B (r.length-2) (cap-1-2)) (r.drop 2):=hB;clear hsl
        try rw[Nat.add_zero] at hck
        go_wp2_with fail
        go_quiet (fail)
        go_wp2
        go_ret3
        exact⟨hE1.trans (zay _ _),.inl ⟨acc+y*128,r.drop 2,_,HD.out,zkc (by omega),hB⟩⟩
       ·have hs1:∀ W:World,(Instr.slice 34 (.slice (some ⟨b1,o1,none⟩) r.length (cap-1)) (some (.int .i64 3)) none none).run Tryz.prog W = .ok (.slice B (r.length-3) (cap-1-3)) W:=hsl;have hB:zae w0 (.slice B (r.length-3) (cap-1-3)) (r.drop 3):=hB;clear hsl
        try rw[Nat.add_zero] at hck
        go_wp2_with fail
        go_quiet (fail)
        go_wp2
        go_ret3
        exact⟨hE1.trans (zay _ _),.inl ⟨acc+y*16384,r.drop 3,_,HD.out,zkc (by omega),hB⟩⟩
    ·have hk:k=3:=by omega
     subst hk
     go_wp2
     go_ret3
     exact⟨hE1,.inr ⟨HD.out,rfl⟩⟩
   ·have hD:=HD.out;rw[List.drop_of_length_le (by omega)] at hD;have HD:Hid (zbr 7 (c::r)=none):=by
     show zbr 7 (c::r)=_
     rw[hD];cases 3-k<;>rfl
    clear hD;by_cases h3:k<3
    all_goals
     go_wp2
     go_ret3
     exact⟨hE1,.inr ⟨HD.out,rfl⟩⟩
theorem zzbmo(c:UInt8):bits BinOp.and IntKind.i64 (c.toNat:Int) 31=((c.toNat%32:Nat):Int):=by
 have:∀ k:Fin 256,bits BinOp.and IntKind.i64 ((k.val:Nat):Int) 31=((k.val%32:Nat):Int):=by decide +kernel
 exact this ⟨c.toNat,c.toNat_lt⟩
set_option maxHeartbeats 800000 in
theorem zve(v:Value)(w:World)(h:zae w v []) :
  Calls Tryz.prog 197 #[v,.int .i64 5] w λe w'=>e = .returned (.tuple #[.int .i64 0,.slice none 0 0,.bool false])/\w'=w:=by
 obtain⟨a,cap,rfl,hc1,hc2,hcell⟩:=h
 go_enter Tryz.func197,Tryz.ntmps197
 go_wp2
 go_ret3
 exact⟨rfl,rfl⟩
set_option maxHeartbeats 3200000 in
set_option maxRecDepth 100000 in
theorem ztg(v:Value)(c:UInt8)(r:List UInt8)(w0 w:World)(h0:Ext w0 w)(hb:zae w0 v (c::r))(hl:r.length<=100000) :
  Calls Tryz.prog 197 #[v,.int .i64 5] w λe w'=>Ext w w'/\((∃ n rest v',zbr 31 (c::r)=some (n,rest)/\e = .returned (.tuple #[.int .i64 (n:Int),v',.bool true])/\zae w0 v' rest)\/(zbr 31 (c::r)=none/\e = .returned (.tuple #[.int .i64 0,.slice none 0 0,.bool false]))):=by
 obtain⟨a,cap,rfl,hc1,hc2,hcell⟩:=hb.ext h0;obtain⟨b,o,rfl,hcc⟩:∃ b o,a=some ⟨b,o,none⟩ /\ ∀ i,i<(c::r).length->w.cell? ⟨b,o+i,none⟩=some (.int .u8 (((c::r).getD i 0).toNat:Int)):=by
  rcases hcell with h|h
  ·cases h
  ·exact h
 have hc0:w.cell? ⟨b,o,none⟩=some (.int .u8 (c.toNat:Int)):=hcc 0 (by simp);clear hcell hcc;rw[List.length_cons] at hc1 hb ⊢;have hcb:c.toNat<256:=c.toNat_lt;have hne:(((r.length:Nat):Int)+1 == 0)=false:=by simp;omega
 have ha:=zzbmo c;obtain⟨q,hq⟩:∃ q,q=c.toNat%32:=⟨_,rfl⟩;rw[<-hq] at ha;have hql:q<=31:=by omega
 obtain⟨A,hsl,hA⟩:=zhg hb 1 (by simp);rw[show r.length+1-1=r.length by omega,show (c::r).drop 1=r from rfl] at hA;rw[show r.length+1-1=r.length by omega,show ((1:Nat):Int)=1 from rfl] at hsl;by_cases hlow:q<31
 ·have HD:Hid (zbr 31 (c::r)=some (q,r)):=by
   show zbr 31 (c::r)=_
   simp only[zbr];rw[<-hq,if_pos hlow]
  clear hq
  go_enter Tryz.func197,Tryz.ntmps197
  go_wp2_with fail
  go_quiet ((go_at_call 194;exact Calls.quiet_of_same (zju _)))
  go_wp2_with (go_at_call 194;refine(zju _).mono ?_;rintro e w' ⟨rfl,hw⟩;subst hw)
  go_quiet (fail)
  go_wp2
  go_ret3
  exact⟨(zay _ _).trans (zay _ _),.inl ⟨q,r,_,HD.out,rfl,hA⟩⟩
 ·have hq7:q=31:=by omega
  subst hq7;have HDx:True:=trivial;have HD:Hid (zbr 31 (c::r)=zcd 3 31 0 r):=by
   show zbr 31 (c::r)=_
   simp only[zbr];rw[<-hq,if_neg (by omega)]
  clear hq hlow hql
  go_enter Tryz.func197,Tryz.ntmps197
  go_wp2_with fail
  go_quiet ((go_at_call 194;exact Calls.quiet_of_same (zju _)))
  go_wp2_with (go_at_call 194;refine(zju _).mono ?_;rintro e w' ⟨rfl,hw⟩;subst hw)
  have hE1:=zay w nq;have hA1:=hA.ext (h0.trans hE1);clear hsl hc0 hb ha hne HDx;generalize w.drewN nq=W1 at hA1 hE1 ⊢
  go_loop [4,8] (λn i => ∃ k acc:Nat,k<=3/\k<=r.length/\i = .int .i64 k/\n = .int .i64 acc/\acc<=31+k*3000000/\Hid (zbr 31 (c::r)=zcd (3-k) acc k (r.drop k))) (λ_ i=>3-(intOf i).toNat)
  case atStart=>exact⟨0,31,by omega,by omega,rfl,rfl,by omega,HD⟩
  case round =>
   obtain⟨k,acc,hk3,hkr,rfl,rfl,hacc,HD⟩:=hrel;by_cases hlt:k<r.length
   ·by_cases h3:k<3
    ·obtain⟨a',cap',he,hd1,hd2,hd3⟩:=id hA1;simp only[Value.slice.injEq,true_and] at he;obtain⟨rfl,rfl⟩:=he;obtain⟨b1,o1,rfl,hcc⟩:∃ b o,A=some ⟨b,o,none⟩ /\ ∀ i,i<r.length->W1.cell? ⟨b,o+i,none⟩=some (.int .u8 ((r.getD i 0).toNat:Int)):=by
      rcases hd3 with h|h
      ·rw[h] at hlt;simp at hlt
      ·exact h
     have hck:=hcc k hlt;obtain⟨B,hsl,hB⟩:=zhg hA (k+1) (by omega);have hdrop:r.drop k=r.getD k 0::r.drop (k+1):=by rw[List.getD_eq_getElem?_getD,List.getElem?_eq_getElem hlt];exact List.drop_eq_getElem_cons hlt
     have hand:=zzbdb (r.getD k 0);have hxl:=(r.getD k 0).toNat_lt;have hD:=HD.out;rw[hdrop] at hD;generalize hx:r.getD k 0=x at hck hand hxl hD;clear hx hdrop hcc hd3 HD;obtain⟨y,hy⟩:∃ y,y=x.toNat%128:=⟨_,rfl⟩;rw[<-hy] at hand;have hyl:y<=127:=by omega
     by_cases hbig:128<=x.toNat
     ·have HD:Hid (zbr 31 (c::r)=zcd (3-(k+1)) (acc+y*2 ^ (7*k)) (k+1) (r.drop (k+1))):=by
       show zbr 31 (c::r)=_
       rw[hD,show 3-k=3-(k+1)+1 by omega];simp only[zcd];rw[if_pos hbig,<-hy]
      clear hD hy hsl hB hA hA1;rcases (by omega:k=0\/k=1\/k=2) with rfl | rfl | rfl
      all_goals
       try rw[Nat.add_zero] at hck
       go_wp2
       go_round
       case rel=>exact⟨_,_,by omega,by omega,by go_num,by go_num,by omega,HD⟩
       case measure=>simp[intOf]
     ·by_cases hover:9999<acc+y*2 ^ (7*k)
      ·have HD:Hid (zbr 31 (c::r)=none):=by
        show zbr 31 (c::r)=_
        rw[hD,show 3-k=3-(k+1)+1 by omega];simp only[zcd];rw[if_neg hbig,<-hy,if_pos hover]
       clear hD hy hsl hB hA hA1;rcases (by omega:k=0\/k=1\/k=2) with rfl | rfl | rfl
       all_goals
        try rw[Nat.add_zero] at hck
        go_wp2
        all_goals
         go_ret3
         exact⟨hE1,.inr ⟨HD.out,rfl⟩⟩
      ·have HD:Hid (zbr 31 (c::r)=some (acc+y*2 ^ (7*k),r.drop (k+1))):=by
        show zbr 31 (c::r)=_
        rw[hD,show 3-k=3-(k+1)+1 by omega];simp only[zcd];rw[if_neg hbig,<-hy,if_neg hover]
       clear hD hy hA hA1;rcases (by omega:k=0\/k=1\/k=2) with rfl | rfl | rfl
       ·have hs1:∀ W:World,(Instr.slice 34 (.slice (some ⟨b1,o1,none⟩) r.length (cap-1)) (some (.int .i64 1)) none none).run Tryz.prog W = .ok (.slice B (r.length-1) (cap-1-1)) W:=hsl;have hB:zae w0 (.slice B (r.length-1) (cap-1-1)) (r.drop 1):=hB;clear hsl
        try rw[Nat.add_zero] at hck
        go_wp2_with fail
        go_quiet (fail)
        go_wp2
        go_ret3
        exact⟨hE1.trans (zay _ _),.inl ⟨acc+y*1,r.drop 1,_,HD.out,zkc (by omega),hB⟩⟩
       ·have hs1:∀ W:World,(Instr.slice 34 (.slice (some ⟨b1,o1,none⟩) r.length (cap-1)) (some (.int .i64 2)) none none).run Tryz.prog W = .ok (.slice B (r.length-2) (cap-1-2)) W:=hsl;have hB:zae w0 (.slice B (r.length-2) (cap-1-2)) (r.drop 2):=hB;clear hsl
        try rw[Nat.add_zero] at hck
        go_wp2_with fail
        go_quiet (fail)
        go_wp2
        go_ret3
        exact⟨hE1.trans (zay _ _),.inl ⟨acc+y*128,r.drop 2,_,HD.out,zkc (by omega),hB⟩⟩
       ·have hs1:∀ W:World,(Instr.slice 34 (.slice (some ⟨b1,o1,none⟩) r.length (cap-1)) (some (.int .i64 3)) none none).run Tryz.prog W = .ok (.slice B (r.length-3) (cap-1-3)) W:=hsl;have hB:zae w0 (.slice B (r.length-3) (cap-1-3)) (r.drop 3):=hB;clear hsl
        try rw[Nat.add_zero] at hck
        go_wp2_with fail
        go_quiet (fail)
        go_wp2
        go_ret3
        exact⟨hE1.trans (zay _ _),.inl ⟨acc+y*16384,r.drop 3,_,HD.out,zkc (by omega),hB⟩⟩
    ·have hk:k=3:=by omega
     subst hk
     go_wp2
     go_ret3
     exact⟨hE1,.inr ⟨HD.out,rfl⟩⟩
   ·have hD:=HD.out;rw[List.drop_of_length_le (by omega)] at hD;have HD:Hid (zbr 31 (c::r)=none):=by
     show zbr 31 (c::r)=_
     rw[hD];cases 3-k<;>rfl
    clear hD;by_cases h3:k<3
    all_goals
     go_wp2
     go_ret3
     exact⟨hE1,.inr ⟨HD.out,rfl⟩⟩
theorem zvf(v:Value)(l:List UInt8)(w0 w:World)(h0:Ext w0 w)(h:zae w0 v l)(hl:l.length<=100000) :
  Calls Tryz.prog 197 #[v,.int .i64 3] w λe w'=>Ext w w'/\((∃ n rest v',zbr 7 l=some (n,rest)/\e = .returned (.tuple #[.int .i64 (n:Int),v',.bool true])/\zae w0 v' rest)\/(zbr 7 l=none/\e = .returned (.tuple #[.int .i64 0,.slice none 0 0,.bool false]))):=by
 cases l with
 | nil=>exact(zvd v w (h.ext h0)).mono λe w' ⟨he,hw⟩=>⟨hw ▸ Ext.refl _,.inr ⟨rfl,he⟩⟩
 | cons c r=>exact ztf v c r w0 w h0 h (by simp at hl;omega)
theorem zvg(v:Value)(l:List UInt8)(w0 w:World)(h0:Ext w0 w)(h:zae w0 v l)(hl:l.length<=100000) :
  Calls Tryz.prog 197 #[v,.int .i64 5] w λe w'=>Ext w w'/\((∃ n rest v',zbr 31 l=some (n,rest)/\e = .returned (.tuple #[.int .i64 (n:Int),v',.bool true])/\zae w0 v' rest)\/(zbr 31 l=none/\e = .returned (.tuple #[.int .i64 0,.slice none 0 0,.bool false]))):=by
 cases l with
 | nil=>exact(zve v w (h.ext h0)).mono λe w' ⟨he,hw⟩=>⟨hw ▸ Ext.refl _,.inr ⟨rfl,he⟩⟩
 | cons c r=>exact ztg v c r w0 w h0 h (by simp at hl;omega)
theorem zae.take{w:World}{a:Option Addr}{n cap:Nat}{l:List UInt8}(h:zae w (.slice a n cap) l)(k:Nat)(hk:k<=l.length):zae w (sliced a 0 k cap 1) (l.take k):=by
 obtain⟨a',cap',he,h1,h2,h3⟩:=h;simp only[Value.slice.injEq] at he;obtain⟨rfl,rfl,rfl⟩:=he;have hlk:(l.take k).length=k:=by rw[List.length_take];omega
 refine⟨_,cap,by rw[sliced,hlk];rfl,by omega,h2,?_⟩;rcases h3 with rfl | ⟨b,o,rfl,hc⟩
 ·simp
 ·by_cases hk0:k=0
  ·left;rw[hk0,List.take_zero]
  ·right;refine⟨b,o,?_,?_⟩
   ·rw[if_neg (by omega)];simp[Addr.add]
   ·intro i hi;rw[hlk] at hi;rw[hc i (by omega)];simp[List.getD_eq_getElem?_getD,hi]
theorem zzbmp{a:Option Addr}{n cap:Nat}{l:List UInt8}{w:World}(h:zae w (.slice a n cap) l)(k:Nat)(hk:k<=l.length) :
  ∃ A,(∀ W:World,(Instr.slice 34 (.slice a n cap) none (some (.int .i64 (k:Int))) none).run Tryz.prog W = .ok (.slice A k cap) W)/\zae w (.slice A k cap) (l.take k):=by
 have hn:n=l.length/\l.length<=cap:=by obtain⟨a',cap',he,h1,_⟩:=h;simp only[Value.slice.injEq] at he;exact⟨he.2.1,by omega⟩
 refine⟨_,λW => ?_,zae.take h k hk⟩;rw[run_slice_h W 34 a n cap (by rw[zam];exact Tryz.underlying34) .i64 (k:Int) (by omega) (by omega),zam,zbl];simp[sliced,Result.andThen]
theorem zgn{a:Option Addr}{n cap:Nat}{l:List UInt8}{w:World}(h:zae w (.slice a n cap) l):(convert 34 9 (.slice a n cap)).run Tryz.prog w = .ok (.string ⟨l.toArray⟩) w:=by
 obtain⟨a',cap',he,h1,h2,h3⟩:=h;simp only[Value.slice.injEq] at he;obtain⟨rfl,rfl,rfl⟩:=he;rcases h3 with rfl | ⟨b,o,rfl,hc⟩
 ·rw[run_convert_bytes_string w 34 9 5 _ _ _ Tryz.underlying34 Tryz.underlying5 Tryz.underlying9];cases a with
  | none=>simp[Conv.bytesToString];rfl
  | some x =>
   have:=run_bytesToString (P:=Tryz.prog) w x 0 cap [] (by simp[loadCells,loadCellsFrom])
   exact this
 ·have:=run_convert_bytes_arg (P:=Tryz.prog) w 34 5 Tryz.underlying34 Tryz.underlying5 b o l.length cap (l.map λu=>(u.toNat:Int)) (by simp) (λi hi=>by
   rw[hc i hi];simp[List.getD_eq_getElem?_getD,List.getElem?_eq_getElem hi]) 9 Tryz.underlying9
  rw[this];congr 2;apply ByteArray.ext;apply Array.toList_inj.1;rw[strOfNums_data,List.map_map]
  show _=l
  conv=>rhs;rw[<-List.map_id l]
  apply List.map_congr_left;intro x _;simp
theorem zzbdc(full n:Nat)(l rest:List UInt8)(hf:full<=9999)(h:zbr full l=some (n,rest)):n<=9999:=by
 cases l with
 | nil=>simp[zbr] at h
 | cons c r =>
  simp only[zbr] at h;split at h
  ·simp only[Option.some.injEq,Prod.mk.injEq] at h;omega
  ·exact zzbee _ _ _ _ _ _ h
set_option maxHeartbeats 3200000 in
theorem zlw(v:Value)(l:List UInt8)(w0 w:World)(h0:Ext w0 w)(h:zae w0 v l)(hl:l.length<=100000) :
  Calls Tryz.prog 196 #[v] w λe w'=>Ext w w'/\((∃ t rest v',zeb l=some (t,rest)/\e = .returned (.tuple #[.string ⟨t.toArray⟩,v',.bool true])/\zae w0 v' rest)\/(zeb l=none/\e = .returned (.tuple #[.string ⟨#[]⟩,.slice none 0 0,.bool false]))):=by
 have HB:=hide h;obtain⟨a,cap,rfl,hc1,hc2,hcell⟩:=h.ext h0;cases l with
 | nil =>
  go_enter Tryz.func196,Tryz.ntmps196
  go_wp2_with fail
  go_quiet (fail)
  go_wp2
  go_ret3
  exact⟨zay _ _,.inr ⟨rfl,rfl⟩⟩
 | cons c r =>
  obtain⟨b,o,rfl,hcc⟩:∃ b o,a=some ⟨b,o,none⟩ /\ ∀ i,i<(c::r).length->w.cell? ⟨b,o+i,none⟩=some (.int .u8 (((c::r).getD i 0).toNat:Int)):=by
   rcases hcell with h|h
   ·cases h
   ·exact h
  have hc0:w.cell? ⟨b,o,none⟩=some (.int .u8 (c.toNat:Int)):=hcc 0 (by simp);clear hcell hcc;have hcb:c.toNat<256:=c.toNat_lt;have hne:(((r.length:Nat):Int)+1 == 0)=false:=by simp;omega
  rw[List.length_cons] at hc1 HB hl ⊢;by_cases hbig:31<c.toNat
  ·have HD:Hid (zeb (c::r)=none):=by show zeb (c::r)=none;simp only[zeb];rw[if_pos hbig]
   have hbig':decide ((31:Int)<(c.toNat:Int))=true:=by simp;omega
   go_enter Tryz.func196,Tryz.ntmps196
   go_wp2_with fail
   go_quiet ((go_at_call 194;exact Calls.quiet_of_same (zju _)))
   go_wp2
   go_ret3
   exact⟨zay _ _,.inr ⟨HD.out,rfl⟩⟩
  ·have hbig':decide ((31:Int)<(c.toNat:Int))=false:=by simp;omega
   go_enter Tryz.func196,Tryz.ntmps196
   go_wp2_with fail
   go_quiet ((go_at_call 194;exact Calls.quiet_of_same (zju _)))
   go_wp2_with fail
   have HE1:=hide (zay w nq);refine(zvg _ (c::r) w0 _ (h0.trans HE1.out) HB.out (by simp;omega)).mono ?_;rintro e w2 ⟨hE2,⟨n,rest,v2,hd,rfl,hB2⟩ | ⟨hd,rfl⟩⟩
   ·have hn:n<=9999:=zzbdc 31 n _ _ (by omega) hd;have hrl:rest.length<=r.length:=by have h1:=zrz 0 31 n _ _ hd;have h2:=zep 0 31 n;rw[List.length_cons] at h1;omega
    by_cases hlen:rest.length<n
    ·have HD:Hid (zeb (c::r)=none):=by show zeb (c::r)=none;simp only[zeb,hd];rw[if_neg hbig,if_pos hlen]
     clear hd;obtain⟨a2,cap2,rfl,hd1,hd2,hd3⟩:=hB2;clear hd3
     go_wp2
     go_ret3
     exact⟨HE1.out.trans hE2,.inr ⟨HD.out,rfl⟩⟩
    ·have HD:Hid (zeb (c::r)=some (rest.take n,rest.drop n)):=by show zeb (c::r)=_;simp only[zeb,hd];rw[if_neg hbig,if_neg hlen]
     clear hd;have hB2':=hB2;obtain⟨a2,cap2,rfl,hd1,hd2,hd3⟩:=hB2;clear hd3;obtain⟨A,hsA,hBA⟩:=zzbmp hB2' n (by omega);obtain⟨B,hsB,hBB⟩:=zhg hB2' n (by omega);have hcv:∀ q,(convert 34 9 (.slice A n cap2)).run Tryz.prog (w2.drewN q) = .ok (.string ⟨(rest.take n).toArray⟩) (w2.drewN q):=λq=>zgn (hBA.ext (h0.trans (HE1.out.trans (hE2.trans (zay _ _)))));clear hc0
     go_wp2_with fail
     go_quiet (fail)
     go_wp2
     go_ret3
     exact⟨HE1.out.trans (hE2.trans (zay _ _)),.inl ⟨_,_,_,HD.out,rfl,hBB⟩⟩
   ·have HD:Hid (zeb (c::r)=none):=by show zeb (c::r)=none;simp only[zeb,hd];rw[if_neg hbig]
    clear hd
    go_wp2
    go_ret3
    exact⟨HE1.out.trans hE2,.inr ⟨HD.out,rfl⟩⟩
def Box(w:World)(b:Nat)(x y:ByteArray):Prop:=w.heap[b]? = some (.cells #[.string x,.string y] 122 (0,0))
theorem Box.new(w:World)(x y:ByteArray):Box (w.alloc (.cells #[.string x,.string y] 122)) w.heap.size x y:=heap_alloc_new w _
theorem Box.lt{w:World}{b:Nat}{x y:ByteArray}(h:Box w b x y):b<w.heap.size:=(Array.getElem?_eq_some_iff.1 h).1
theorem Box.ext{w w':World}{b:Nat}{x y:ByteArray}(h:Box w b x y)(e:Ext w w'):Box w' b x y:=(e.block b h.lt).trans h
theorem Box.cell0{w:World}{b:Nat}{x y:ByteArray}(h:Box w b x y):w.cell? ⟨b,0,none⟩=some (.string x):=by unfold Box at h;simp[World.cell?,h]
theorem Box.cell1{w:World}{b:Nat}{x y:ByteArray}(h:Box w b x y):w.cell? ⟨b,1,none⟩=some (.string y):=by unfold Box at h;simp[World.cell?,h]
theorem Box.free0{w:World}{b:Nat}{x y:ByteArray}(h:Box w b x y):w.frozen? ⟨b,0,none⟩=false:=by unfold Box at h;simp[World.frozen?,h]
theorem Box.free1{w:World}{b:Nat}{x y:ByteArray}(h:Box w b x y):w.frozen? ⟨b,1,none⟩=false:=by unfold Box at h;simp[World.frozen?,h]
theorem Box.set0{w:World}{b:Nat}{x y:ByteArray}(h:Box w b x y)(u:ByteArray):Box (w.setCell ⟨b,0,none⟩ (.string u)) b u y:=by
 have hlt:=h.lt;have h':w.heap[b] = .cells #[.string x,.string y] 122 (0,0):=(Array.getElem?_eq_some_iff.1 h).2
 show (w.heap.modify b _)[b]? = _
 rw[Array.getElem?_eq_getElem (by simpa using hlt),Array.getElem_modify_self,h'];rfl
theorem Box.set1{w:World}{b:Nat}{x y:ByteArray}(h:Box w b x y)(u:ByteArray):Box (w.setCell ⟨b,1,none⟩ (.string u)) b x u:=by
 have hlt:=h.lt;have h':w.heap[b] = .cells #[.string x,.string y] 122 (0,0):=(Array.getElem?_eq_some_iff.1 h).2
 show (w.heap.modify b _)[b]? = _
 rw[Array.getElem?_eq_getElem (by simpa using hlt),Array.getElem_modify_self,h'];rfl
theorem Ext.setCell{a w:World}(h:Ext a w){p:Addr}(hp:a.heap.size<=p.block)(u:Value):Ext a (w.setCell p u):=Below.setCell h hp u
set_option maxHeartbeats 3200000 in
theorem zoz(v vt:Value)(l:List UInt8)(w0 w:World)(h0:Ext w0 w)(h:zae w0 v l)(hl:l.length<=100000)(ht:zbq w vt tbl) :
  Calls Tryz.prog 195 #[v,vt] w λe w'=>Ext w w'/\((∃ p rest v',zfx l=some (p,rest)/\e = .returned (.tuple #[.agg #[.string ⟨p.1.toArray⟩,.string ⟨p.2.toArray⟩],v',.bool true])/\zae w0 v' rest)\/(zfx l=none/\e = .returned (.tuple #[.agg #[.string ⟨#[]⟩,.string ⟨#[]⟩],.slice none 0 0,.bool false]))):=by
 have hE0:=(Ext.refl w).alloc (.cells #[.string ⟨#[]⟩,.string ⟨#[]⟩] 122);have hbox:=Box.new w ⟨#[]⟩ ⟨#[]⟩;have ht0:=ht.ext hE0;clear ht
 go_enter Tryz.func195,Tryz.ntmps195
 go_wp2_with fail
 refine(zvf _ l w0 _ (h0.trans hE0) h hl).mono ?_;rintro e w2 ⟨hE2,hor⟩;have hbox:=hbox.ext hE2;have hx0:=hbox.cell0;have hx1:=hbox.cell1;have hf0:=hbox.free0;have hf1:=hbox.free1;have hN:w.heap.size<w2.heap.size:=hbox.lt;have hEE:=hE0.trans hE2;have hEE0:=(hEE.setCell (p:=⟨w.heap.size,0,none⟩) (Nat.le_refl _) (.string ⟨#[]⟩)).setCell (p:=⟨w.heap.size,1,none⟩) (Nat.le_refl _) (.string ⟨#[]⟩);have HX:=hide (And.intro hEE hEE0);obtain⟨at',capt,rfl,ht1,ht2,ht3⟩:=ht0.ext hE2;rw[show tbl.length=16 from rfl] at *;have HT:=hide ht3;have HBX:=hide hbox;clear ht0 hE2 ht3 hbox hEE hEE0 hE0;rcases hor with ⟨n,rest,v2,hd,rfl,hB2⟩ | ⟨hd,rfl⟩
 ·have hn:n<=9999:=zzbdc 7 n _ _ (by omega) hd;have HB2:=hide hB2;clear hB2;by_cases hlo:n<1\/16<n
  ·have HD:Hid (zfx l=none):=by show zfx l=none;simp only[zfx,hd];rw[if_pos (by omega)]
   clear hd;by_cases h1:n<1
   all_goals
    go_wp2
    refine bodyPost_ret (v:=.tuple #[.agg #[.string ⟨#[]⟩,.string ⟨#[]⟩],.slice none 0 0,.bool false]) (by simp[results,Tryz.results195,go_sem, *]) rfl ⟨HX.out.2,.inr ⟨HD.out,rfl⟩⟩
  ·have HD:Hid (zfx l=some (tbl.getD (n-1) ([],[]),rest)):=by show zfx l=_;simp only[zfx,hd];rw[if_neg (by omega)]
   clear hd;obtain⟨b,o,rfl,hcc⟩:∃ b o,at'=some ⟨b,o,none⟩ /\ ∀ i,i<16->w2.cell? ⟨b,o+i*2,none⟩=some (.string ⟨(tbl.getD i ([],[])).1.toArray⟩)/\w2.cell? ⟨b,o+i*2+1,none⟩=some (.string ⟨(tbl.getD i ([],[])).2.toArray⟩):=by
    rcases HT.out with h|h
    ·cases h
    ·exact h
   obtain⟨hcA,hcB⟩:=hcc (n-1) (by omega);clear hcc;obtain⟨j,hj⟩:∃ j,n=j+1:=⟨n-1,by omega⟩;subst hj;rw[Nat.add_sub_cancel] at hcA hcB HD;generalize tbl.getD j ([],[])=p at hcA hcB HD;clear HT
   go_wp2
   refine bodyPost_ret (v:=.tuple #[.agg #[.string ⟨p.1.toArray⟩,.string ⟨p.2.toArray⟩],v2,.bool true]) (by simp[results,Tryz.results195,go_sem, *]) rfl ⟨(HX.out.1.setCell (Nat.le_refl _) _).setCell (Nat.le_refl _) _,.inl ⟨p,rest,v2,HD.out,rfl,HB2.out⟩⟩
 ·have HD:Hid (zfx l=none):=by show zfx l=none;simp only[zfx,hd]
  clear hd
  go_wp2
  refine bodyPost_ret (v:=.tuple #[.agg #[.string ⟨#[]⟩,.string ⟨#[]⟩],.slice none 0 0,.bool false]) (by simp[results,Tryz.results195,go_sem, *]) rfl ⟨HX.out.2,.inr ⟨HD.out,rfl⟩⟩
theorem zth(l rest:List UInt8)(p:List UInt8×List UInt8)(h:zfx l=some (p,rest)):p.1.length<=60/\p.2.length<=60:=by
 obtain⟨n,h1,h2,rfl,_⟩:=zqc l rest p h
 have:∀ k:Fin 16,(tbl.getD k.val ([],[])).1.length<=60/\(tbl.getD k.val ([],[])).2.length<=60:=by decide
 exact this ⟨n-1,by omega⟩
set_option maxHeartbeats 3200000 in
theorem zxr(v vt:Value)(c:UInt8)(r:List UInt8)(w0 w:World)(h0:Ext w0 w)(hb0:zae w0 v (c::r))(hl:r.length<=50000)(ht:zbq w vt tbl) :
  Calls Tryz.prog 179 #[v,vt] w λe w'=>Ext w w'/\((∃ p rest v',zbt (c::r)=some (p,rest)/\e = .returned (.tuple #[.agg #[.string ⟨p.1.toArray⟩,.string ⟨p.2.toArray⟩],v',.bool true])/\zae w0 v' rest)\/(zbt (c::r)=none/\e = .returned (.tuple #[.agg #[.string ⟨#[]⟩,.string ⟨#[]⟩],.slice none 0 0,.bool false]))):=by
 have hE0:=(Ext.refl w).alloc (.cells #[.string ⟨#[]⟩,.string ⟨#[]⟩] 122);have hbox:=Box.new w ⟨#[]⟩ ⟨#[]⟩;have hW0:=h0.trans hE0;have ht0:=ht.ext hE0;obtain⟨a,cap,rfl,hc1,hc2,hcell⟩:=hb0.ext h0;obtain⟨b,o,rfl,hcc⟩:∃ b o,a=some ⟨b,o,none⟩ /\ ∀ i,i<(c::r).length->w.cell? ⟨b,o+i,none⟩=some (.int .u8 (((c::r).getD i 0).toNat:Int)):=by
  rcases hcell with h|h
  ·cases h
  ·exact h
 have hc0:w.cell? ⟨b,o,none⟩=some (.int .u8 (c.toNat:Int)):=hcc 0 (by simp);have hc0:=hE0.cell hc0;clear hcell hcc ht;have hcb:c.toNat<256:=c.toNat_lt;rw[List.length_cons] at hc1 hb0 ⊢;by_cases h16:c.toNat/8=16
 ·have hraw:zcz (c::r)=zrw (c::r):=by simp only[zcz];rw[if_pos h16]
  go_enter Tryz.func179,Tryz.ntmps179
  go_wp2_with fail
  refine(zoz _ vt (c::r) w0 _ hW0 hb0 (by simp;omega) ht0).mono ?_;rintro e w2 ⟨hE2,⟨p,rest,v2,hd,rfl,hB2⟩ | ⟨hd,rfl⟩⟩
  ·obtain⟨hp1,hp2⟩:=zth _ _ _ hd;have HSZ:Hid ((ByteArray.size ⟨p.1.toArray⟩)<=maxLen/\(ByteArray.size ⟨p.2.toArray⟩)<=maxLen):=⟨by show p.1.length<=_;unfold maxLen;omega,by show p.2.length<=_;unfold maxLen;omega⟩;have hbz:=hbox.ext hE2;have hEz:=hE0.trans hE2;have HEW:=hide ((hEz.setCell (p:=⟨w.heap.size,0,none⟩) (Nat.le_refl _) (.string ⟨p.1.toArray⟩)).setCell (p:=⟨w.heap.size,1,none⟩) (Nat.le_refl _) (.string ⟨p.2.toArray⟩));have HBW:=hide ((hbz.set0 ⟨p.1.toArray⟩).set1 ⟨p.2.toArray⟩);have hx0:=hbz.cell0;have hx1:=hbz.cell1;have hf0:=hbz.free0;have hf1:=hbz.free1;have HYW:=hide hB2;clear hbz hEz hB2 hbox hE2 hE0 hb0 ht0;by_cases hv:p.2=[]
   ·have HD:Hid (zbt (c::r)=none):=by
     show zbt (c::r)=none
     unfold zbt;rw[hraw,zrw,hd];simp only;rw[if_pos hv]
    have HVV:Hid (p.2=[]):=hv;clear hraw hd hv;have hbe:(!(p.2.isEmpty))=false:=by rw[HVV.out];rfl
    have HRR:=hide (((HBW.out).set0 ⟨#[]⟩).set1 ⟨#[]⟩);have hr0:=HRR.out.cell0;have hr1:=HRR.out.cell1
    go_wp2
    exact bodyPost_ret (v:=.tuple #[.agg #[.string ⟨#[]⟩,.string ⟨#[]⟩],.slice none 0 0,.bool false]) (by simp[results,Tryz.results179,go_sem,hr0,hr1]) rfl ⟨(HEW.out.setCell (Nat.le_refl _) _).setCell (Nat.le_refl _) _,.inr ⟨HD.out,rfl⟩⟩
   ·have HR:Hid (zcz (c::r)=some (p,rest)):=by
     show zcz (c::r)=_
     rw[hraw,zrw,hd];simp only;rw[if_neg hv]
    clear hraw hd;have hbe:(!(p.2.isEmpty))=true:=by simp[hv]
    go_wp2_with fail
    have hs:(ByteArray.size ⟨p.1.toArray⟩)<=maxLen/\(ByteArray.size ⟨p.2.toArray⟩)<=maxLen:=HSZ.out;refine(zhy ⟨p.1.toArray⟩ ⟨p.2.toArray⟩ _ hs.1 hs.2).mono ?_;rintro e w9 ⟨rfl,hE9⟩;have hEz:=HEW.out.trans hE9;have hbz:=HBW.out.ext hE9;cases hok:zbs (zch ⟨p.1.toArray⟩ ⟨p.2.toArray⟩)
    ·have HD:Hid (zbt (c::r)=none):=by
      show zbt (c::r)=none
      unfold zbt;rw[HR.out];simp only;rw[if_neg (by show ¬ zbs (zch ⟨p.1.toArray⟩ ⟨p.2.toArray⟩)=true;rw[hok];simp)]
     clear hok;have hy0:=hbz.cell0;have hy1:=hbz.cell1;have hg0:=hbz.free0;have hg1:=hbz.free1;have HEZ:=hide ((hEz.setCell (p:=⟨w.heap.size,0,none⟩) (Nat.le_refl _) (.string ⟨#[]⟩)).setCell (p:=⟨w.heap.size,1,none⟩) (Nat.le_refl _) (.string ⟨#[]⟩));have HR0:=hide ((hbz.set0 ⟨#[]⟩).set1 ⟨#[]⟩);clear hbz hEz
     go_wp2
     have hr0:=HR0.out.cell0;have hr1:=HR0.out.cell1;exact bodyPost_ret (v:=.tuple #[.agg #[.string ⟨#[]⟩,.string ⟨#[]⟩],.slice none 0 0,.bool false]) (by simp[results,Tryz.results179,go_sem,hr0,hr1]) rfl ⟨HEZ.out,.inr ⟨HD.out,rfl⟩⟩
    ·have HD:Hid (zbt (c::r)=some (p,rest)):=by
      show zbt (c::r)=_
      unfold zbt;rw[HR.out];simp only;rw[if_pos (by show zbs (zch ⟨p.1.toArray⟩ ⟨p.2.toArray⟩)=true;exact hok)]
     clear hok;have hy0:=hbz.cell0;have hy1:=hbz.cell1;have hg0:=hbz.free0;have hg1:=hbz.free1;have HEZ:=hide ((hEz.setCell (p:=⟨w.heap.size,0,none⟩) (Nat.le_refl _) (.string ⟨p.1.toArray⟩)).setCell (p:=⟨w.heap.size,1,none⟩) (Nat.le_refl _) (.string ⟨p.2.toArray⟩));have HR0:=hide ((hbz.set0 ⟨p.1.toArray⟩).set1 ⟨p.2.toArray⟩);clear hbz hEz
     go_wp2
     have hr0:=HR0.out.cell0;have hr1:=HR0.out.cell1;exact bodyPost_ret (v:=.tuple #[.agg #[.string ⟨p.1.toArray⟩,.string ⟨p.2.toArray⟩],v2,.bool true]) (by simp[results,Tryz.results179,go_sem,hr0,hr1]) rfl ⟨HEZ.out,.inl ⟨p,rest,v2,HD.out,rfl,HYW.out⟩⟩
  ·skip
   have hbz:=hbox.ext hE2;have hEz:=hE0.trans hE2;have HEW:=hide ((hEz.setCell (p:=⟨w.heap.size,0,none⟩) (Nat.le_refl _) (.string ⟨#[]⟩)).setCell (p:=⟨w.heap.size,1,none⟩) (Nat.le_refl _) (.string ⟨#[]⟩));have HBW:=hide ((hbz.set0 ⟨#[]⟩).set1 ⟨#[]⟩);have hx0:=hbz.cell0;have hx1:=hbz.cell1;have hf0:=hbz.free0;have hf1:=hbz.free1;have HD:Hid (zbt (c::r)=none):=by
    show zbt (c::r)=none
    unfold zbt;rw[hraw,zrw,hd]
   clear hd hraw hc0 hb0 ht0 hbox hE0 hE2 hbz hEz;have HRR:=hide (((HBW.out).set0 ⟨#[]⟩).set1 ⟨#[]⟩);have hr0:=HRR.out.cell0;have hr1:=HRR.out.cell1
   go_wp2
   exact bodyPost_ret (v:=.tuple #[.agg #[.string ⟨#[]⟩,.string ⟨#[]⟩],.slice none 0 0,.bool false]) (by simp[results,Tryz.results179,go_sem,hr0,hr1]) rfl ⟨(HEW.out.setCell (Nat.le_refl _) _).setCell (Nat.le_refl _) _,.inr ⟨HD.out,rfl⟩⟩
 ·skip
  by_cases h8:c.toNat/8=8
  ·have hraw:zcz (c::r)=zrx (c::r):=by simp only[zcz];rw[if_neg h16,if_pos h8]
   go_enter Tryz.func179,Tryz.ntmps179
   go_wp2_with fail
   refine(zoz _ vt (c::r) w0 _ hW0 hb0 (by simp;omega) ht0).mono ?_;rintro e w2 ⟨hE2,⟨p,rest,v2,hd,rfl,hB2⟩ | ⟨hd,rfl⟩⟩
   ·obtain⟨hp1,hp2⟩:=zth _ _ _ hd;have hrl:rest.length<=r.length+1:=by obtain⟨n,_,_,_,hx⟩:=zqc _ _ _ hd;have:=hx 64;rw[List.length_cons] at this;omega
    have hbz:=hbox.ext hE2;have hEz:=hE0.trans hE2;have HEW:=hide ((hEz.setCell (p:=⟨w.heap.size,0,none⟩) (Nat.le_refl _) (.string ⟨p.1.toArray⟩)).setCell (p:=⟨w.heap.size,1,none⟩) (Nat.le_refl _) (.string ⟨p.2.toArray⟩));have HBW:=hide ((hbz.set0 ⟨p.1.toArray⟩).set1 ⟨p.2.toArray⟩);have hx0:=hbz.cell0;have hx1:=hbz.cell1;have hf0:=hbz.free0;have hf1:=hbz.free1;have hBW:=hB2;clear hbz hEz hB2 hbox hE2 hE0 hb0 ht0
    go_wp2_with fail
    refine(zlw v2 rest w0 _ (h0.trans HEW.out) hBW (by omega)).mono ?_;rintro e w3 ⟨hE3,⟨t,rest2,v3,ht,rfl,hB3⟩ | ⟨ht,rfl⟩⟩
    ·have htl:t.length<=100000:=by have:=zim _ _ _ ht;have:=zfh t;split at this<;>omega
     have HSZ:Hid ((ByteArray.size ⟨p.1.toArray⟩)<=maxLen/\(ByteArray.size ⟨t.toArray⟩)<=maxLen):=⟨by show p.1.length<=_;unfold maxLen;omega,by show t.length<=_;unfold maxLen;omega⟩;have HR:Hid (zcz (c::r)=some ((p.1,t),rest2)):=by
      show zcz (c::r)=_
      rw[hraw,zrx,hd];simp only[ht]
     clear hraw hd ht;have hb3:=HBW.out.ext hE3;have hx0:=hb3.cell0;have hx1:=hb3.cell1;have hf0:=hb3.free0;have hf1:=hb3.free1;have HYW:=hide hB3;have HEW:=hide ((HEW.out.trans hE3).setCell (p:=⟨w.heap.size,1,none⟩) (Nat.le_refl _) (.string ⟨t.toArray⟩));have HBW:=hide (hb3.set1 ⟨t.toArray⟩);clear hb3 hB3 hE3 hBW
     go_wp2_with fail
     have hs:(ByteArray.size ⟨p.1.toArray⟩)<=maxLen/\(ByteArray.size ⟨t.toArray⟩)<=maxLen:=HSZ.out;refine(zhy ⟨p.1.toArray⟩ ⟨t.toArray⟩ _ hs.1 hs.2).mono ?_;rintro e w9 ⟨rfl,hE9⟩;have hEz:=HEW.out.trans hE9;have hbz:=HBW.out.ext hE9;cases hok:zbs (zch ⟨p.1.toArray⟩ ⟨t.toArray⟩)
     ·have HD:Hid (zbt (c::r)=none):=by
       show zbt (c::r)=none
       unfold zbt;rw[HR.out];simp only;rw[if_neg (by show ¬ zbs (zch ⟨p.1.toArray⟩ ⟨t.toArray⟩)=true;rw[hok];simp)]
      clear hok;have hy0:=hbz.cell0;have hy1:=hbz.cell1;have hg0:=hbz.free0;have hg1:=hbz.free1;have HEZ:=hide ((hEz.setCell (p:=⟨w.heap.size,0,none⟩) (Nat.le_refl _) (.string ⟨#[]⟩)).setCell (p:=⟨w.heap.size,1,none⟩) (Nat.le_refl _) (.string ⟨#[]⟩));have HR0:=hide ((hbz.set0 ⟨#[]⟩).set1 ⟨#[]⟩);clear hbz hEz
      go_wp2
      have hr0:=HR0.out.cell0;have hr1:=HR0.out.cell1;exact bodyPost_ret (v:=.tuple #[.agg #[.string ⟨#[]⟩,.string ⟨#[]⟩],.slice none 0 0,.bool false]) (by simp[results,Tryz.results179,go_sem,hr0,hr1]) rfl ⟨HEZ.out,.inr ⟨HD.out,rfl⟩⟩
     ·have HD:Hid (zbt (c::r)=some ((p.1,t),rest2)):=by
       show zbt (c::r)=_
       unfold zbt;rw[HR.out];simp only;rw[if_pos (by show zbs (zch ⟨p.1.toArray⟩ ⟨t.toArray⟩)=true;exact hok)]
      clear hok;have hy0:=hbz.cell0;have hy1:=hbz.cell1;have hg0:=hbz.free0;have hg1:=hbz.free1;have HEZ:=hide ((hEz.setCell (p:=⟨w.heap.size,0,none⟩) (Nat.le_refl _) (.string ⟨p.1.toArray⟩)).setCell (p:=⟨w.heap.size,1,none⟩) (Nat.le_refl _) (.string ⟨t.toArray⟩));have HR0:=hide ((hbz.set0 ⟨p.1.toArray⟩).set1 ⟨t.toArray⟩);clear hbz hEz
      go_wp2
      have hr0:=HR0.out.cell0;have hr1:=HR0.out.cell1;exact bodyPost_ret (v:=.tuple #[.agg #[.string ⟨p.1.toArray⟩,.string ⟨t.toArray⟩],v3,.bool true]) (by simp[results,Tryz.results179,go_sem,hr0,hr1]) rfl ⟨HEZ.out,.inl ⟨(p.1,t),rest2,v3,HD.out,rfl,HYW.out⟩⟩
    ·have HD:Hid (zbt (c::r)=none):=by
      show zbt (c::r)=none
      unfold zbt;rw[hraw,zrx,hd];simp only[ht]
     clear hraw hd ht;have hb3:=HBW.out.ext hE3;have hx0:=hb3.cell0;have hx1:=hb3.cell1;have hf0:=hb3.free0;have hf1:=hb3.free1;have HEW:=hide ((HEW.out.trans hE3).setCell (p:=⟨w.heap.size,1,none⟩) (Nat.le_refl _) (.string ⟨#[]⟩));have HBW:=hide (hb3.set1 ⟨#[]⟩);clear hb3 hE3 hBW;have HRR:=hide (((HBW.out).set0 ⟨#[]⟩).set1 ⟨#[]⟩);have hr0:=HRR.out.cell0;have hr1:=HRR.out.cell1
     go_wp2
     exact bodyPost_ret (v:=.tuple #[.agg #[.string ⟨#[]⟩,.string ⟨#[]⟩],.slice none 0 0,.bool false]) (by simp[results,Tryz.results179,go_sem,hr0,hr1]) rfl ⟨(HEW.out.setCell (Nat.le_refl _) _).setCell (Nat.le_refl _) _,.inr ⟨HD.out,rfl⟩⟩
   ·skip
    have hbz:=hbox.ext hE2;have hEz:=hE0.trans hE2;have HEW:=hide ((hEz.setCell (p:=⟨w.heap.size,0,none⟩) (Nat.le_refl _) (.string ⟨#[]⟩)).setCell (p:=⟨w.heap.size,1,none⟩) (Nat.le_refl _) (.string ⟨#[]⟩));have HBW:=hide ((hbz.set0 ⟨#[]⟩).set1 ⟨#[]⟩);have hx0:=hbz.cell0;have hx1:=hbz.cell1;have hf0:=hbz.free0;have hf1:=hbz.free1;have HD:Hid (zbt (c::r)=none):=by
     show zbt (c::r)=none
     unfold zbt;rw[hraw,zrx,hd]
    clear hd hraw hc0 hb0 ht0 hbox hE0 hE2 hbz hEz;have HRR:=hide (((HBW.out).set0 ⟨#[]⟩).set1 ⟨#[]⟩);have hr0:=HRR.out.cell0;have hr1:=HRR.out.cell1
    go_wp2
    exact bodyPost_ret (v:=.tuple #[.agg #[.string ⟨#[]⟩,.string ⟨#[]⟩],.slice none 0 0,.bool false]) (by simp[results,Tryz.results179,go_sem,hr0,hr1]) rfl ⟨(HEW.out.setCell (Nat.le_refl _) _).setCell (Nat.le_refl _) _,.inr ⟨HD.out,rfl⟩⟩
  ·by_cases hc00:c.toNat=0
   ·have hraw:zcz (c::r)=zry r:=by simp only[zcz];rw[if_neg h16,if_neg h8,if_pos hc00]
    obtain⟨S,hsl,hS⟩:=zhg hb0 1 (by simp);rw[show r.length+1-1=r.length by omega,show (c::r).drop 1=r from rfl] at hS;rw[show r.length+1-1=r.length by omega,show ((1:Nat):Int)=1 from rfl] at hsl
    go_enter Tryz.func179,Tryz.ntmps179
    go_wp2_with fail
    clear hsl;refine(zlw _ r w0 _ hW0 hS (by omega)).mono ?_;rintro e w2 ⟨hE2,⟨n,rest,v2,hd,rfl,hB2⟩ | ⟨hd,rfl⟩⟩
    ·have hnl:n.length<=100000/\rest.length<=50000:=by have h1:=zim _ _ _ hd;have h2:=zfh n;split at h2<;>omega
     have hbz:=hbox.ext hE2;have hEz:=hE0.trans hE2;have HEW:=hide (hEz.setCell (p:=⟨w.heap.size,0,none⟩) (Nat.le_refl _) (.string ⟨n.toArray⟩));have HBW:=hide (hbz.set0 ⟨n.toArray⟩);have hx0:=hbz.cell0;have hx1:=hbz.cell1;have hf0:=hbz.free0;have hf1:=hbz.free1;have hBW:=hB2;clear hbz hEz hB2 hbox hE2 hE0 hb0 ht0 hS
     go_wp2_with fail
     refine(zlw v2 rest w0 _ (h0.trans HEW.out) hBW (by omega)).mono ?_;rintro e w3 ⟨hE3,⟨t,rest2,v3,ht,rfl,hB3⟩ | ⟨ht,rfl⟩⟩
     ·have htl:t.length<=100000:=by have:=zim _ _ _ ht;have:=zfh t;split at this<;>omega
      have HSZ:Hid ((ByteArray.size ⟨n.toArray⟩)<=maxLen/\(ByteArray.size ⟨t.toArray⟩)<=maxLen):=⟨by show n.length<=_;unfold maxLen;omega,by show t.length<=_;unfold maxLen;omega⟩;have HR:Hid (zcz (c::r)=some ((n,t),rest2)):=by
       show zcz (c::r)=_
       rw[hraw,zry,hd];simp only[ht]
      clear hraw hd ht;have hb3:=HBW.out.ext hE3;have hx0:=hb3.cell0;have hx1:=hb3.cell1;have hf0:=hb3.free0;have hf1:=hb3.free1;have HYW:=hide hB3;have HEW:=hide ((HEW.out.trans hE3).setCell (p:=⟨w.heap.size,1,none⟩) (Nat.le_refl _) (.string ⟨t.toArray⟩));have HBW:=hide (hb3.set1 ⟨t.toArray⟩);clear hb3 hB3 hE3 hBW
      go_wp2_with fail
      have hs:(ByteArray.size ⟨n.toArray⟩)<=maxLen/\(ByteArray.size ⟨t.toArray⟩)<=maxLen:=HSZ.out;refine(zhy ⟨n.toArray⟩ ⟨t.toArray⟩ _ hs.1 hs.2).mono ?_;rintro e w9 ⟨rfl,hE9⟩;have hEz:=HEW.out.trans hE9;have hbz:=HBW.out.ext hE9;cases hok:zbs (zch ⟨n.toArray⟩ ⟨t.toArray⟩)
      ·have HD:Hid (zbt (c::r)=none):=by
        show zbt (c::r)=none
        unfold zbt;rw[HR.out];simp only;rw[if_neg (by show ¬ zbs (zch ⟨n.toArray⟩ ⟨t.toArray⟩)=true;rw[hok];simp)]
       clear hok;have hy0:=hbz.cell0;have hy1:=hbz.cell1;have hg0:=hbz.free0;have hg1:=hbz.free1;have HEZ:=hide ((hEz.setCell (p:=⟨w.heap.size,0,none⟩) (Nat.le_refl _) (.string ⟨#[]⟩)).setCell (p:=⟨w.heap.size,1,none⟩) (Nat.le_refl _) (.string ⟨#[]⟩));have HR0:=hide ((hbz.set0 ⟨#[]⟩).set1 ⟨#[]⟩);clear hbz hEz
       go_wp2
       have hr0:=HR0.out.cell0;have hr1:=HR0.out.cell1;exact bodyPost_ret (v:=.tuple #[.agg #[.string ⟨#[]⟩,.string ⟨#[]⟩],.slice none 0 0,.bool false]) (by simp[results,Tryz.results179,go_sem,hr0,hr1]) rfl ⟨HEZ.out,.inr ⟨HD.out,rfl⟩⟩
      ·have HD:Hid (zbt (c::r)=some ((n,t),rest2)):=by
        show zbt (c::r)=_
        unfold zbt;rw[HR.out];simp only;rw[if_pos (by show zbs (zch ⟨n.toArray⟩ ⟨t.toArray⟩)=true;exact hok)]
       clear hok;have hy0:=hbz.cell0;have hy1:=hbz.cell1;have hg0:=hbz.free0;have hg1:=hbz.free1;have HEZ:=hide ((hEz.setCell (p:=⟨w.heap.size,0,none⟩) (Nat.le_refl _) (.string ⟨n.toArray⟩)).setCell (p:=⟨w.heap.size,1,none⟩) (Nat.le_refl _) (.string ⟨t.toArray⟩));have HR0:=hide ((hbz.set0 ⟨n.toArray⟩).set1 ⟨t.toArray⟩);clear hbz hEz
       go_wp2
       have hr0:=HR0.out.cell0;have hr1:=HR0.out.cell1;exact bodyPost_ret (v:=.tuple #[.agg #[.string ⟨n.toArray⟩,.string ⟨t.toArray⟩],v3,.bool true]) (by simp[results,Tryz.results179,go_sem,hr0,hr1]) rfl ⟨HEZ.out,.inl ⟨(n,t),rest2,v3,HD.out,rfl,HYW.out⟩⟩
     ·have HD:Hid (zbt (c::r)=none):=by
       show zbt (c::r)=none
       unfold zbt;rw[hraw,zry,hd];simp only[ht]
      clear hraw hd ht;have hb3:=HBW.out.ext hE3;have hx0:=hb3.cell0;have hx1:=hb3.cell1;have hf0:=hb3.free0;have hf1:=hb3.free1;have HEW:=hide ((HEW.out.trans hE3).setCell (p:=⟨w.heap.size,1,none⟩) (Nat.le_refl _) (.string ⟨#[]⟩));have HBW:=hide (hb3.set1 ⟨#[]⟩);clear hb3 hE3 hBW;have HRR:=hide (((HBW.out).set0 ⟨#[]⟩).set1 ⟨#[]⟩);have hr0:=HRR.out.cell0;have hr1:=HRR.out.cell1
      go_wp2
      exact bodyPost_ret (v:=.tuple #[.agg #[.string ⟨#[]⟩,.string ⟨#[]⟩],.slice none 0 0,.bool false]) (by simp[results,Tryz.results179,go_sem,hr0,hr1]) rfl ⟨(HEW.out.setCell (Nat.le_refl _) _).setCell (Nat.le_refl _) _,.inr ⟨HD.out,rfl⟩⟩
    ·have HD:Hid (zbt (c::r)=none):=by
      show zbt (c::r)=none
      unfold zbt;rw[hraw,zry,hd]
     have hbz:=hbox.ext hE2;have hEz:=hE0.trans hE2;have HEW:=hide (hEz.setCell (p:=⟨w.heap.size,0,none⟩) (Nat.le_refl _) (.string ⟨#[]⟩));have HBW:=hide (hbz.set0 ⟨#[]⟩);have hx0:=hbz.cell0;have hx1:=hbz.cell1;have hf0:=hbz.free0;have hf1:=hbz.free1;clear hd hraw hc0 hb0 ht0 hbox hE0 hE2 hbz hEz;have HRR:=hide (((HBW.out).set0 ⟨#[]⟩).set1 ⟨#[]⟩);have hr0:=HRR.out.cell0;have hr1:=HRR.out.cell1
     go_wp2
     exact bodyPost_ret (v:=.tuple #[.agg #[.string ⟨#[]⟩,.string ⟨#[]⟩],.slice none 0 0,.bool false]) (by simp[results,Tryz.results179,go_sem,hr0,hr1]) rfl ⟨(HEW.out.setCell (Nat.le_refl _) _).setCell (Nat.le_refl _) _,.inr ⟨HD.out,rfl⟩⟩
   ·have HD:Hid (zbt (c::r)=none):=by
     show zbt (c::r)=none
     unfold zbt;simp only[zcz];rw[if_neg h16,if_neg h8,if_neg hc00]
    have hbz:=hbox;have HEW:=hide hE0;have HBW:=hide hbz;have hx0:=hbz.cell0;have hx1:=hbz.cell1;have hf0:=hbz.free0;have hf1:=hbz.free1;clear hb0 ht0 hbox hE0 hbz
    go_enter Tryz.func179,Tryz.ntmps179
    go_wp2
    exact bodyPost_ret (v:=.tuple #[.agg #[.string ⟨#[]⟩,.string ⟨#[]⟩],.slice none 0 0,.bool false]) (by simp[results,Tryz.results179,go_sem]) rfl ⟨HEW.out,.inr ⟨HD.out,rfl⟩⟩
theorem Tryz.infoPair:(Tryz.prog.info? 122).map (λi=>(i.zero,i.size,i.bytes))=some (some (.agg #[.string ⟨#[]⟩,.string ⟨#[]⟩]),2,32):=by kernel_rfl
def unpacks(l:List UInt8):Option (List (List UInt8×List UInt8)):=if l.length<1\/1000<l.length then none else zfb 8 l
def sliceLen:Value->Nat
 | .slice _ n _=>n
 | _=>0
theorem zae.len{w:World}{v:Value}{l:List UInt8}(h:zae w v l):sliceLen v=l.length:=by obtain⟨a,cap,rfl,_⟩:=h;rfl
theorem zwc(m:List (List UInt8×List UInt8))(c:UInt8)(r:List UInt8)(h:zbt (c::r)=none\/m.length=8)(x:Option (List (List UInt8×List UInt8)))(hx:x=(zfb (8-m.length) (c::r)).map (m ++ ·))(hm:m.length<=8):x=none:=by
 subst hx;by_cases h8:m.length=8
 ·rw[show 8-m.length=0 by omega];rfl
 ·rw[show 8-m.length=8-m.length-1+1 by omega];rcases h with h | h
  ·simp only[zfb,h];rfl
  ·exact absurd h h8
theorem zzbgh(m:List (List UInt8×List UInt8))(c:UInt8)(r rest:List UInt8)(p:List UInt8×List UInt8)(h:zbt (c::r)=some (p,rest))(x:Option (List (List UInt8×List UInt8)))(hx:x=(zfb (8-m.length) (c::r)).map (m ++ ·))(hm:m.length<8):x=(zfb (8-(m++[p]).length) rest).map ((m++[p]) ++ ·):=by
 subst hx;have e:8-m.length=8-(m++[p]).length+1:=by simp;omega
 rw[e];simp only[zfb,h];cases zfb (8-(m++[p]).length) rest with
 | none=>rfl
 | some y=>simp
set_option maxHeartbeats 3200000 in
theorem zzbei(v:Value)(l0:List UInt8)(w:World)(h:zae w v l0) :
  Calls Tryz.prog 147 #[v] w λe w'=>Ext w w'/\((∃ m v',unpacks l0=some m/\e = .returned (.tuple #[v',.int .i64 0])/\w'.ownsRow w.heap.size 122 2 v' m.length (zap m))\/(unpacks l0=none/\e = .returned (.tuple #[.slice none 0 0,.int .i64 3]))):=by
 obtain⟨i0,hi,hz0,hz1,hz2⟩:=info_parts Tryz.infoPair;have hb:=h;obtain⟨a,cap,rfl,hc1,hc2,hcell⟩:=h;clear hcell;unfold maxLen at hc2;by_cases h1:1<=l0.length
 ·by_cases h8:l0.length<=1000
  ·have HU:Hid (unpacks l0=(zfb (8-([]:List (List UInt8×List UInt8)).length) l0).map (([]:List (List UInt8×List UInt8)) ++ ·)):=by
    show unpacks l0=_
    unfold unpacks;rw[if_neg (by omega)];cases zfb 8 l0<;>simp[*]
   generalize unpacks l0=U at HU ⊢
   go_enter Tryz.func147,Tryz.ntmps147
   go_wp2_with fail
   refine(zwa w).mono ?_;rintro e w1 ⟨vt,rfl,ht1,hE1⟩
   go_wp2_with fail
   go_loopw [0,5] (λb hs wr => ∃ l m,zae w b l/\l.length<=1000/\wr.ownsRow w1.heap.size 122 2 hs m.length (zap m)/\m.length<=8/\Ext w1 wr/\Hid (U=(zfb (8-m.length) l).map (m ++ ·))) (λb _ _=>sliceLen b)
   case atStart=>exact⟨l0,[],hb,h8,World.ownsRow_nil _ _ _ _,by simp,Ext.refl _,HU⟩
   case round =>
    obtain⟨l,m,hbr,hl,hown,hm,hEr,HUr⟩:=hrel;have hlen:=hbr.len;have hbr':=hbr;obtain⟨a2,cap2,rfl,hd1,hd2,hd3⟩:=hbr;clear hd3 hlen;cases l with
    | nil =>
     go_wp2
     go_ret2
     refine⟨hE1.trans hEr,.inl ⟨m,_,?_,rfl,zoy hown hE1.size⟩⟩;rw[HUr.out];cases 8-m.length<;>simp[zfb]
    | cons c r =>
     rw[List.length_cons] at *;obtain⟨a5,cap5,hu5,hu51,hu52,_⟩:=znc hown;unfold maxLen at hu52;subst hu5
     go_wp2_with fail
     refine(zxr _ vt c r w wr (hE1.trans hEr) hbr' (by omega) (ht1.ext hEr)).mono ?_;rintro e w2 ⟨hE2,⟨p,rest,v2,hd,rfl,hB2⟩ | ⟨hd,rfl⟩⟩
     ·have hE12:=hEr.trans hE2;have hown2:=zhf hown hE2;by_cases hfull:m.length=8
      ·have HUn:Hid (U=none):=zwc m c r (.inr hfull) U HUr.out hm;have hf8:(((m.length:Nat):Int) == 8)=true:=by simp;omega
       clear hd HUr hfull hown2 hown
       go_wp2
       go_ret2
       exact⟨hE1.trans (hE12.alloc _),.inr ⟨HUn.out,rfl⟩⟩
      ·have HUs:=hide (zzbgh m c r rest p hd U HUr.out (by omega));have hrl:rest.length<r.length+1:=by have h1:=zyh _ _ _ hd;have h2:=zna p;rw[List.length_cons] at h1;omega
       have hf8:(((m.length:Nat):Int) == 8)=false:=by simp;omega
       have hm8:m.length<8:=by omega
       clear hd HUr hfull hown;have hx0:=(zlg w2 (.string ⟨p.1.toArray⟩) (.string ⟨p.2.toArray⟩) 122);have hx1:=(zlh w2 (.string ⟨p.1.toArray⟩) (.string ⟨p.2.toArray⟩) 122);have hownb:=hown2.alloc (.cells #[.string ⟨p.1.toArray⟩,.string ⟨p.2.toArray⟩] 122);have hE1b:=hE12.alloc (.cells #[.string ⟨p.1.toArray⟩,.string ⟨p.2.toArray⟩] 122);have hszb:w1.heap.size<=(w2.alloc (.cells #[.string ⟨p.1.toArray⟩,.string ⟨p.2.toArray⟩] 122)).heap.size:=hE1b.size;have hsrc:Src Tryz.prog 2 43 (.slice (some ⟨w2.heap.size+1,0,none⟩) 1 1) 1 [.string ⟨p.1.toArray⟩,.string ⟨p.2.toArray⟩] ((w2.alloc (.cells #[.string ⟨p.1.toArray⟩,.string ⟨p.2.toArray⟩] 122)).alloc (.cells #[.string ⟨p.1.toArray⟩,.string ⟨p.2.toArray⟩] 122)):=by
        have:=zzbje (P:=Tryz.prog) (w2.alloc (.cells #[.string ⟨p.1.toArray⟩,.string ⟨p.2.toArray⟩] 122)) 122 Tryz.underlying43 ⟨p.1.toArray⟩ ⟨p.2.toArray⟩
        rwa [show (w2.alloc (.cells #[.string ⟨p.1.toArray⟩,.string ⟨p.2.toArray⟩] 122)).heap.size=w2.heap.size+1 by simp] at this
       go_wp2_with (at_builtin;refine zbw _ rfl (.tmp 35) (.tmp 37) 43 43 rfl w1.heap.size 122 i0 _ 2 32 Tryz.underlying43 hi hz0 hz1 hz2 rfl (by decide) _ _ _ rfl (hownb.alloc _) _ 1 [.string ⟨p.1.toArray⟩,.string ⟨p.2.toArray⟩] rfl hsrc ?_ ?_ ?_ ?_)
       ·unfold maxLen;omega
       ·omega
       ·simp at hszb ⊢;omega
       ·intro v3 w3 hown3 hgrew3;have hE3:Ext w1 w3:=Ext.trans' (hE1b.alloc _) hgrew3 (hownb.alloc _);have hown3:w3.ownsRow w1.heap.size 122 2 v3 (m++[p]).length (zap (m++[p])):=zfi hown3 (by simp) (by rw[zoj];rfl);have hl2:=hB2.len;clear hgrew3 hownb hown2 hx0 hx1 hE1b
        go_wp2
        go_roundw
        case rel=>exact⟨rest,m++[p],hB2,by omega,hown3,by simp;omega,hE3,HUs⟩
        case measure=>rw[hl2];exact hrl
     ·have HUn:Hid (U=none):=zwc m c r (.inl hd) U HUr.out hm;have hE12:=hEr.trans hE2;clear hd HUr hown
      go_wp2
      go_ret2
      exact⟨hE1.trans (hE12.alloc _),.inr ⟨HUn.out,rfl⟩⟩
  ·go_enter Tryz.func147,Tryz.ntmps147
   go_wp2
   go_ret2
   exact⟨Ext.refl _,.inr ⟨by unfold unpacks;rw[if_pos (by omega)],rfl⟩⟩
 ·go_enter Tryz.func147,Tryz.ntmps147
  go_wp2
  go_ret2
  exact⟨Ext.refl _,.inr ⟨by unfold unpacks;rw[if_pos (by omega)],rfl⟩⟩
end Go.Proofs.YtoijpogadkogcaaGreat
