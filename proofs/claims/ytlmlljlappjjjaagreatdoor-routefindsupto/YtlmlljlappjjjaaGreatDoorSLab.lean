/- The labels of a host and of a pattern, by the document. -/
import Derived.Test.YtlmlljlappjjjaaGreatDoorSPlain
import Derived.Laws.AppendOwnNone
namespace Go.Proofs.YtlmlljlappjjjaaGreatDoor
open Go.RowKit
theorem row_lenH {w:World}{b n sz L c:Nat}{T:TypeId}{p:Option Addr}{xs:List Value} (h:w.ownsRow b T sz (.slice p L c) n xs):L=n:=by
 rcases h.2 with ⟨h1,h2⟩|⟨g,cap,cur,h1,_⟩
 · injection h1 with _ h3;omega
 · injection h1
def LabAns (o:Option (List B)) (w:World) (e:Ending) (w':World):Prop:=Below w.heap.size w w'∧match o with
 |none=>e= .returned (.tuple #[.slice none 0 0,.bool false])
 |some L=>∃ q d,e= .returned (.tuple #[.slice q L.length d,.bool true])∧OwnS w' w.heap.size (.slice q L.length d) L
theorem labAns_no {o:Option (List B)}{w w':World}{e:Ending} (h:o=none) (he:e= .returned (.tuple #[.slice none 0 0,.bool false])) (hb:Below w.heap.size w w'):LabAns o w e w':=by subst h;exact⟨hb,he⟩
theorem labAns_yes {o:Option (List B)}{L:List B}{w w':World}{e:Ending}{q:Option Addr}{n d:Nat} (h:o=some L) (hn:L.length=n) (he:e= .returned (.tuple #[.slice q n d,.bool true])) (ho:OwnS w' w.heap.size (.slice q n d) L) (hb:Below w.heap.size w w'):LabAns o w e w':=by subst h;subst hn;exact⟨hb,q,d,he,ho⟩
set_option maxRecDepth 20000 in
set_option maxHeartbeats 64000000 in
theorem rlabels_any (s:B) (wild:Bool) (hs:s.length≤9223372036854775807) (w:World):Calls Tryz.prog 51 #[.string (str s),.bool wild] w fun e w'=>LabAns (labsH wild s) w e w':=by
 obtain⟨j0,hj0,hy0,hy1,hy2⟩:=info_parts infoS;obtain⟨n,hn⟩:∃ n,s.length=n:=⟨_,rfl⟩;obtain⟨S,hS⟩:∃ S,str s=S:=⟨_,rfl⟩;have hSn:S.size=n:=by rw [←hS,str_size,hn]
 by_cases h0:s= []
 · have HNone:=hid (show labsH wild s=none from by unfold labsH;rw [if_pos (.inl h0)]);obtain rfl:(⟨#[]⟩:ByteArray)=S:=by rw [←hS,h0]
   rw [hS];clear hS hn h0;go_enter Tryz.func51,Tryz.ntmps51;go_wp2;go_ret2;exact labAns_no HNone.out rfl (Below.refl _ _)
 · have hne1:¬S=(⟨#[]⟩:ByteArray):=fun e=>h0 (str_inj (by rw [hS,e]))
   have hne2:(S.toList== (⟨#[]⟩:ByteArray).toList)=false:=ne_list hne1;have hne3:S.toList.isEmpty=false:=ne_empty hne1;have hne4:(S.toList== [])=false:=by have h:=hne2;rw [ByteArray.toList_eq,ByteArray.toList_eq] at h;rw [ByteArray.toList_eq];exact h
   by_cases h253:253<n
   · have HNone:=hid (show labsH wild s=none from by unfold labsH;rw [if_pos (.inr (by rw [hn];exact h253))]);have h253':(253:Int)<(n:Int):=by omega
     rw [hS];clear hS hn h0;go_enter Tryz.func51,Tryz.ntmps51;go_wp2;go_ret2;exact labAns_no HNone.out rfl (Below.refl _ _)
   · have h253':¬(253:Int)<(n:Int):=by omega
     have HLb:=hid (show labsH wild s=if (cutH s).all (okLab wild) then some ((cutH s).map lowH) else none from by unfold labsH;rw [if_neg (by rw [hn];exact fun h=>h.elim h0 h253)]);have HN:=hid hn;have HByte:=hid (show ∀ (k:Nat) (h:k<s.length) (h2:k<S.size),S[k]'h2=s[k]'h from fun k h h2=>by subst hS;rfl);have HEx:=hid (ext_str s);rw [hS] at HEx ⊢;obtain⟨X,hX⟩:∃ X,cutH s=X:=⟨_,rfl⟩;have HX:=hid (show cutH (s.drop 0)=X from hX);rw [hX] at HLb;clear hS hn h0 hX hs;go_enter Tryz.func51,Tryz.ntmps51;go_wp2;go_loopg [6,7,8] (n+2) (fun gk s6 s7 s8 wr=>∃ (i f k d:Nat) (q:Option Addr) (acc:List B),f≤i∧i≤n+1∧gk=n+1-i+1∧s8= .int .i64 (i:Int)∧s7= .int .i64 (f:Int)∧s6= .slice q k d∧(acc.map lowH).length=k∧k≤i∧OwnS wr w.heap.size (.slice q k d) (acc.map lowH)∧acc.all (okLab wild)=true∧((i≤n∧(∀ y∈(s.drop f).take (i-f),y≠46)∧X=acc++cutH (s.drop f))∨(i=n+1∧X=acc))∧Below w.heap.size w wr)
     case atStart=>exact⟨0,0,0,0,none,[],by omega,by omega,by omega,rfl,rfl,rfl,rfl,by omega,OwnS.nil _ _,rfl,.inl ⟨by omega,fun y hy=>by simp at hy,by rw [HX.out];rfl⟩,Below.refl _ _⟩
     case round=>
      obtain⟨i,f,k,d,q,acc,hf,hi2,rfl,rfl,rfl,rfl,hk,hki,ho,hal,hR,hb⟩:=hrel;have HO:=hid ho;have HB:=hid hb;have HKm:=hid hk;have HAll:=hid hal;obtain⟨outs,houts⟩:∃ o9,acc.map lowH=o9:=⟨_,rfl⟩;have HOm:=hid houts;rw [houts] at HO hk;have HK:=hid hk;clear ho hb hk hal houts;by_cases hin:i≤n
      · obtain⟨_,hno,hRX⟩:i≤n∧(∀ y∈(s.drop f).take (i-f),y≠46)∧X=acc++cutH (s.drop f):=hR.elim (fun h=>h) (fun h=>absurd h.1 (by omega));have HNo:=hid hno;have HRX:=hid hRX;have hexf:S.extract f i=str ((s.drop f).take (i-f)):=HEx.out f i;clear hR hno hRX;by_cases hgo:i=n∨s[i]?=some 46
        · have HEnd:=hid (show X=acc++ [(s.drop f).take (i-f)]++(if i=n then [] else cutH (s.drop (i+1))) from by
           rw [HRX.out];by_cases hi9:i=n
           · rw [if_pos hi9,cutH_end (m:=i-f) HNo.out (by rw [List.length_drop,HN.out];omega)];simp
           · rw [if_neg hi9];have h47:s[i]?=some 46:=hgo.elim (fun e=>absurd e hi9) (fun e=>e);rw [cutH_at (m:=i-f) HNo.out (by rw [List.getElem?_drop,show f+(i-f)=i by omega];exact h47),List.drop_drop,show f+(i-f+1)=i+1 by omega];simp)
          have HNx:=hid (show (i+1≤n∧(∀ y∈(s.drop (i+1)).take (i+1-(i+1)),y≠46)∧X=(acc++ [(s.drop f).take (i-f)])++cutH (s.drop (i+1)))∨(i+1=n+1∧X=acc++ [(s.drop f).take (i-f)]) from by
           have h1:=HEnd.out;by_cases hi9:i=n
           · rw [if_pos hi9,List.append_nil] at h1;exact .inr ⟨by omega,h1⟩
           · rw [if_neg hi9] at h1;exact .inl ⟨by omega,fun y hy=>by simp at hy,h1⟩)
          obtain⟨x,hx⟩:∃ x,(s.drop f).take (i-f)=x:=⟨_,rfl⟩;rw [hx] at HNx hexf HEnd;have hxl:x.length=i-f:=by rw [←hx,List.length_take,List.length_drop,HN.out];omega
          obtain⟨xl,hxl2⟩:∃ xl,x.length=xl:=⟨_,rfl⟩;have HXL:=hid hxl2;have hxf:xl=i-f:=by rw [←hxl2];exact hxl
          have hfi:f+xl=i:=by omega
          have HMem:=hid (show okLab wild x=false→labsH wild s=none from fun h=>by
           rw [HLb.out,if_neg];rw [HEnd.out,List.all_append,List.all_append];simp [h])
          have HLen:=hid (show xl<1∨63<xl→labsH wild s=none from fun h=>HMem.out (by unfold okLab;rw [hxl2];rcases h with h|h <;> simp <;> omega));have HLo:=hid (fun W:World=>rlower_any (str x) W (by rw [str_size,hxl2];omega));rw [lowS_strH] at HLo;obtain⟨SX,hSX⟩:∃ q,str x=q:=⟨_,rfl⟩;have HSX:=hid hSX;have hSXn:SX.size=xl:=by rw [←hSX,str_size,hxl2]
          have HBx:=hid (show ∀ (k:Nat) (h:k<x.length) (h2:k<SX.size),SX[k]'h2=x[k]'h from fun k h h2=>by subst hSX;rfl);obtain⟨SL,hSL⟩:∃ q,str (lowH x)=q:=⟨_,rfl⟩;have HSL:=hid hSL;rw [hSX,hSL] at HLo;rw [hSX] at hexf;have HGood:=hid (show 1≤xl→xl≤63→x.all hostU=true→okLab wild x=true from fun h1 h2 h3=>by unfold okLab;rw [hxl2,h3];simp;omega);have HBad:=hid (show (wild=true→¬x= [42])→x.all hostU=false→labsH wild s=none from fun h1 h2=>HMem.out (by unfold okLab;rw [h2];cases wild <;> simp;intro _ _;exact h1 rfl));have hfI:(f:Int)≤(i:Int):=by omega
          have hiN:(i:Int)≤(n:Int):=by omega
          clear hx hxl hxl2 hSX hSL HEnd;rcases hgo with hgo|hgo
          · subst hgo;have hdn:decide ((i:Int)<(i:Int))=false:=decide_eq_false (by omega);by_cases hl0:xl<1
            · have hl0':(xl:Int)<1:=by omega
              have HNone:=hid (HLen.out (.inl hl0));go_wp2;go_ret2;exact labAns_no HNone.out rfl HB.out
            · by_cases hl63:63<xl
              · have hl63':(63:Int)<(xl:Int):=by omega
                have HNone:=hid (HLen.out (.inr hl63));have hl0d:decide ((xl:Int)<1)=false:=decide_eq_false (by omega);go_wp2;go_ret2;exact labAns_no HNone.out rfl HB.out
              · have hl63d:¬(63:Int)<(xl:Int):=by omega
                have hl0d:¬(xl:Int)<1:=by omega
                cases wild with
                |false=>
                 go_wp2_with (first|(go_at_call 69;(with_reducible refine(HLo.out _).mono ?_);rintro e w2 ⟨rfl,hb2⟩;have HB2:=hid (HB.out.trans (hb2.mono HB.out.size));have HO2:=hid (HO.out.keep hb2);clear hb2)|(at_builtin;refine wpList_append_own_at _ rfl (.tmp 49) (.tmp 52) 36 rfl w.heap.size 9 j0 _ 1 16 Tryz.underlying36 hj0 hy0 hy1 hy2 rfl (by decide) (.slice q k d) k (strC outs) (by go_simp) (by have h8:=HO2.out.alloc (.cells #[.string SL] 9 (0,0));unfold OwnS at h8;rw [HK.out] at h8;exact h8) ⟨w2.heap.size,0,none⟩ 1 1 [.string SL] (by go_simp) rfl (cells_new w2 _ _) (by simp [Value.oneCell']) (by unfold maxLen;omega) (by omega) (by have h1:=HB2.out.size;simp;omega) ?_;intro v6 w3 hown hgr _ _;obtain⟨p7,L7,c7,rfl⟩:=own_slice3 hown;have HO3:=hid (show OwnS w3 w.heap.size (.slice p7 L7 c7) (outs++ [lowH x]) from OwnS.put (by rw [HK.out,HSL.out];exact hown));have HB3:=hid ((HB2.out.trans ((below_new w2 _).mono HB2.out.size)).trans (OwnS.below (HO2.out.alloc _) (by have h1:=HB2.out.size;simp;omega) hgr));obtain⟨hL7,_⟩:L7=k+1∧True:=⟨row_lenH hown,trivial⟩;subst hL7;clear hown hgr));go_loopg [10] (xl+1) (fun gk s10 wv=>∃ k9:Nat,k9≤xl∧gk=xl-k9+1∧s10= .int .i64 (k9:Int)∧(x.take k9).all hostU=true∧wv=w3)
                 case atStart=>exact⟨0,by omega,rfl,rfl,rfl,rfl⟩
                 case round=>
                  obtain⟨k9,hk9,rfl,rfl,hall,hwv⟩:=hrel
                  rename World=>wv
                  subst hwv;by_cases hlt:k9<xl
                  · have h3:k9<x.length:=by rw [HXL.out];exact hlt
                    obtain⟨y,hy⟩:∃ y,x[k9]=y:=⟨_,rfl⟩;obtain⟨Y,hY⟩:∃ Y:Nat,y.toNat=Y:=⟨_,rfl⟩;have hY256:Y<256:=by rw [←hY];exact y.toNat_lt
                    have hbyte9:∀ h:k9<SX.size,(SX[k9]'h).toNat=Y:=fun h=>by rw [HBx.out k9 h3 h,hy,hY]
                    have hvy:hostU y=hostI (Y:Int):=by unfold hostU;rw [hY]
                    have HT:=hid (show (x.take (k9+1)).all hostU=hostI (Y:Int) from by rw [List.take_succ_eq_append_getElem h3,List.all_append,hall,hy];simp [hvy]);have HF:=hid (show hostI (Y:Int)=false→labsH false s=none from fun h=>HBad.out (fun h=>by cases h) (host_stop h3 (by rw [hy,hvy];exact h)));clear hy hY hall hvy h3;by_cases c1:Y<65
                    · by_cases c2:48≤Y∧Y≤57
                      · have hd:digB (Y:Int)=true:=by unfold digB;simp;omega
                        have u1:(Y:Int)<97:=by omega
                        have u2:(Y:Int)<65:=by omega
                        have hv:hostI (Y:Int)=true:=by unfold hostI digB;simp;omega
                        go_wp2_with (go_at_call 94;refine(rdigit_any _ _ (by omega) (by omega)).mono ?_;rintro e w' ⟨rfl,hw'⟩;subst hw');go_roundg (xl-(k9+1)+1)
                        case measure=>omega
                        case rel=>exact⟨k9+1,by omega,rfl,by push_cast;go_num,by rw [HT.out,hv],rfl⟩
                      · have hd:digB (Y:Int)=false:=by unfold digB;simp;omega
                        by_cases c3:Y=45
                        · subst c3;have u1:(45:Int)<97:=by omega
                          have hv:hostI ((45:Nat):Int)=true:=by decide
                          go_wp2_with (go_at_call 94;refine(rdigit_any _ _ (by omega) (by omega)).mono ?_;rintro e w' ⟨rfl,hw'⟩;subst hw');go_roundg (xl-(k9+1)+1)
                          case measure=>omega
                          case rel=>exact⟨k9+1,by omega,rfl,by push_cast;go_num,by rw [HT.out,hv],rfl⟩
                        · have n1:¬(Y:Int)=45:=by omega
                          have u1:(Y:Int)<97:=by omega
                          have u2:(Y:Int)<65:=by omega
                          have n2:¬(Y:Int)=95:=by omega
                          have n3:((Y:Int)== 45)=false:=by simpa using n1
                          have n4:((Y:Int)== 95)=false:=by simpa using n2
                          have n5:((Y:Int) != 45)=true:=by simpa using n1
                          have n6:((Y:Int) != 95)=true:=by simpa using n2
                          have hv:hostI (Y:Int)=false:=by unfold hostI digB;simp;omega
                          go_wp2_with (go_at_call 94;refine(rdigit_any _ _ (by omega) (by omega)).mono ?_;rintro e w' ⟨rfl,hw'⟩;subst hw');go_ret2;exact labAns_no (HF.out hv) rfl HB3.out
                    · by_cases c2:Y≤90
                      · have u1:(Y:Int)<97:=by omega
                        have u2:¬(Y:Int)<65:=by omega
                        have u3:¬(90:Int)<(Y:Int):=by omega
                        have hv:hostI (Y:Int)=true:=by unfold hostI digB;simp;omega
                        go_wp2_with (go_at_call 94;refine(rdigit_any _ _ (by omega) (by omega)).mono ?_;rintro e w' ⟨rfl,hw'⟩;subst hw');go_roundg (xl-(k9+1)+1)
                        case measure=>omega
                        case rel=>exact⟨k9+1,by omega,rfl,by push_cast;go_num,by rw [HT.out,hv],rfl⟩
                      · have hd:digB (Y:Int)=false:=by unfold digB;simp;omega
                        by_cases c3:Y<97
                        · by_cases c4:Y=95
                          · subst c4;have u1:(95:Int)<97:=by omega
                            have hv:hostI ((95:Nat):Int)=true:=by decide
                            go_wp2_with (go_at_call 94;refine(rdigit_any _ _ (by omega) (by omega)).mono ?_;rintro e w' ⟨rfl,hw'⟩;subst hw');go_roundg (xl-(k9+1)+1)
                            case measure=>omega
                            case rel=>exact⟨k9+1,by omega,rfl,by push_cast;go_num,by rw [HT.out,hv],rfl⟩
                          · have n2:¬(Y:Int)=95:=by omega
                            have n1:¬(Y:Int)=45:=by omega
                            have u1:(Y:Int)<97:=by omega
                            have u2:¬(Y:Int)<65:=by omega
                            have u3:(90:Int)<(Y:Int):=by omega
                            have n3:((Y:Int)== 45)=false:=by simpa using n1
                            have n4:((Y:Int)== 95)=false:=by simpa using n2
                            have n5:((Y:Int) != 45)=true:=by simpa using n1
                            have n6:((Y:Int) != 95)=true:=by simpa using n2
                            have hv:hostI (Y:Int)=false:=by unfold hostI digB;simp;omega
                            go_wp2_with (go_at_call 94;refine(rdigit_any _ _ (by omega) (by omega)).mono ?_;rintro e w' ⟨rfl,hw'⟩;subst hw');go_ret2;exact labAns_no (HF.out hv) rfl HB3.out
                        · by_cases c4:Y≤122
                          · have u1:¬(Y:Int)<97:=by omega
                            have u2:¬(122:Int)<(Y:Int):=by omega
                            have hv:hostI (Y:Int)=true:=by unfold hostI digB;simp;omega
                            go_wp2_with (go_at_call 94;refine(rdigit_any _ _ (by omega) (by omega)).mono ?_;rintro e w' ⟨rfl,hw'⟩;subst hw');go_roundg (xl-(k9+1)+1)
                            case measure=>omega
                            case rel=>exact⟨k9+1,by omega,rfl,by push_cast;go_num,by rw [HT.out,hv],rfl⟩
                          · have n1:¬(Y:Int)=45:=by omega
                            have n2:¬(Y:Int)=95:=by omega
                            have u1:¬(Y:Int)<97:=by omega
                            have u2:(122:Int)<(Y:Int):=by omega
                            have u3:¬(Y:Int)<65:=by omega
                            have u4:(90:Int)<(Y:Int):=by omega
                            have n3:((Y:Int)== 45)=false:=by simpa using n1
                            have n4:((Y:Int)== 95)=false:=by simpa using n2
                            have n5:((Y:Int) != 45)=true:=by simpa using n1
                            have n6:((Y:Int) != 95)=true:=by simpa using n2
                            have hv:hostI (Y:Int)=false:=by unfold hostI digB;simp;omega
                            go_wp2_with (go_at_call 94;refine(rdigit_any _ _ (by omega) (by omega)).mono ?_;rintro e w' ⟨rfl,hw'⟩;subst hw');go_ret2;exact labAns_no (HF.out hv) rfl HB3.out
                  · obtain rfl:xl=k9:=by omega
                    have HOk:=hid (HGood.out (by omega) (by omega) (by rw [List.take_of_length_le (by rw [HXL.out];exact Nat.le_refl _)] at hall;exact hall));clear hall;go_wp2;go_roundg (i+1-(i+1)+1)
                    case measure=>omega
                    case rel=>exact⟨i+1,i+1,k+1,c7,p7,acc++ [x],by omega,by omega,rfl,by push_cast;go_num,by push_cast;go_num,rfl,by rw [List.map_append,List.length_append,HKm.out];rfl,by omega,by rw [List.map_append,HOm.out];exact HO3.out,by rw [List.all_append,HAll.out];simpa using HOk.out,(HNx.out.elim .inl (fun h=>.inr ⟨rfl,h.2⟩)),HB3.out⟩
                |true=>
                 by_cases hst:x= [42]
                 · obtain rfl:(⟨#[42]⟩:ByteArray)=SX:=by rw [←HSX.out,hst]
                   have HOk:=hid (show okLab true x=true from by rw [hst];rfl);go_wp2_with (first|(go_at_call 69;(with_reducible refine(HLo.out _).mono ?_);rintro e w2 ⟨rfl,hb2⟩;have HB2:=hid (HB.out.trans (hb2.mono HB.out.size));have HO2:=hid (HO.out.keep hb2);clear hb2)|(at_builtin;refine wpList_append_own_at _ rfl (.tmp 49) (.tmp 52) 36 rfl w.heap.size 9 j0 _ 1 16 Tryz.underlying36 hj0 hy0 hy1 hy2 rfl (by decide) (.slice q k d) k (strC outs) (by go_simp) (by have h8:=HO2.out.alloc (.cells #[.string SL] 9 (0,0));unfold OwnS at h8;rw [HK.out] at h8;exact h8) ⟨w2.heap.size,0,none⟩ 1 1 [.string SL] (by go_simp) rfl (cells_new w2 _ _) (by simp [Value.oneCell']) (by unfold maxLen;omega) (by omega) (by have h1:=HB2.out.size;simp;omega) ?_;intro v6 w3 hown hgr _ _;obtain⟨p7,L7,c7,rfl⟩:=own_slice3 hown;have HO3:=hid (show OwnS w3 w.heap.size (.slice p7 L7 c7) (outs++ [lowH x]) from OwnS.put (by rw [HK.out,HSL.out];exact hown));have HB3:=hid ((HB2.out.trans ((below_new w2 _).mono HB2.out.size)).trans (OwnS.below (HO2.out.alloc _) (by have h1:=HB2.out.size;simp;omega) hgr));obtain⟨hL7,_⟩:L7=k+1∧True:=⟨row_lenH hown,trivial⟩;subst hL7;clear hown hgr));go_roundg (i+1-(i+1)+1)
                   case measure=>omega
                   case rel=>exact⟨i+1,i+1,k+1,c7,p7,acc++ [x],by omega,by omega,rfl,by push_cast;go_num,by push_cast;go_num,rfl,by rw [List.map_append,List.length_append,HKm.out];rfl,by omega,by rw [List.map_append,HOm.out];exact HO3.out,by rw [List.all_append,HAll.out];simpa using HOk.out,(HNx.out.elim .inl (fun h=>.inr ⟨rfl,h.2⟩)),HB3.out⟩
                 · have hst1:¬SX=(⟨#[42]⟩:ByteArray):=fun e=>hst (str_inj (by rw [HSX.out,e]))
                   have hst2:(SX.toList== (⟨#[42]⟩:ByteArray).toList)=false:=ne_list hst1;have hst3:(SX.toList== [42])=false:=by have h:=hst2;rw [ByteArray.toList_eq,ByteArray.toList_eq] at h;rw [ByteArray.toList_eq];exact h
                   go_wp2_with (first|(go_at_call 69;(with_reducible refine(HLo.out _).mono ?_);rintro e w2 ⟨rfl,hb2⟩;have HB2:=hid (HB.out.trans (hb2.mono HB.out.size));have HO2:=hid (HO.out.keep hb2);clear hb2)|(at_builtin;refine wpList_append_own_at _ rfl (.tmp 49) (.tmp 52) 36 rfl w.heap.size 9 j0 _ 1 16 Tryz.underlying36 hj0 hy0 hy1 hy2 rfl (by decide) (.slice q k d) k (strC outs) (by go_simp) (by have h8:=HO2.out.alloc (.cells #[.string SL] 9 (0,0));unfold OwnS at h8;rw [HK.out] at h8;exact h8) ⟨w2.heap.size,0,none⟩ 1 1 [.string SL] (by go_simp) rfl (cells_new w2 _ _) (by simp [Value.oneCell']) (by unfold maxLen;omega) (by omega) (by have h1:=HB2.out.size;simp;omega) ?_;intro v6 w3 hown hgr _ _;obtain⟨p7,L7,c7,rfl⟩:=own_slice3 hown;have HO3:=hid (show OwnS w3 w.heap.size (.slice p7 L7 c7) (outs++ [lowH x]) from OwnS.put (by rw [HK.out,HSL.out];exact hown));have HB3:=hid ((HB2.out.trans ((below_new w2 _).mono HB2.out.size)).trans (OwnS.below (HO2.out.alloc _) (by have h1:=HB2.out.size;simp;omega) hgr));obtain⟨hL7,_⟩:L7=k+1∧True:=⟨row_lenH hown,trivial⟩;subst hL7;clear hown hgr));go_loopg [10] (xl+1) (fun gk s10 wv=>∃ k9:Nat,k9≤xl∧gk=xl-k9+1∧s10= .int .i64 (k9:Int)∧(x.take k9).all hostU=true∧wv=w3)
                   case atStart=>exact⟨0,by omega,rfl,rfl,rfl,rfl⟩
                   case round=>
                    obtain⟨k9,hk9,rfl,rfl,hall,hwv⟩:=hrel
                    rename World=>wv
                    subst hwv;by_cases hlt:k9<xl
                    · have h3:k9<x.length:=by rw [HXL.out];exact hlt
                      obtain⟨y,hy⟩:∃ y,x[k9]=y:=⟨_,rfl⟩;obtain⟨Y,hY⟩:∃ Y:Nat,y.toNat=Y:=⟨_,rfl⟩;have hY256:Y<256:=by rw [←hY];exact y.toNat_lt
                      have hbyte9:∀ h:k9<SX.size,(SX[k9]'h).toNat=Y:=fun h=>by rw [HBx.out k9 h3 h,hy,hY]
                      have hvy:hostU y=hostI (Y:Int):=by unfold hostU;rw [hY]
                      have HT:=hid (show (x.take (k9+1)).all hostU=hostI (Y:Int) from by rw [List.take_succ_eq_append_getElem h3,List.all_append,hall,hy];simp [hvy]);have HF:=hid (show hostI (Y:Int)=false→labsH true s=none from fun h=>HBad.out (fun _=>hst) (host_stop h3 (by rw [hy,hvy];exact h)));clear hy hY hall hvy h3;by_cases c1:Y<65
                      · by_cases c2:48≤Y∧Y≤57
                        · have hd:digB (Y:Int)=true:=by unfold digB;simp;omega
                          have u1:(Y:Int)<97:=by omega
                          have u2:(Y:Int)<65:=by omega
                          have hv:hostI (Y:Int)=true:=by unfold hostI digB;simp;omega
                          go_wp2_with (go_at_call 94;refine(rdigit_any _ _ (by omega) (by omega)).mono ?_;rintro e w' ⟨rfl,hw'⟩;subst hw');go_roundg (xl-(k9+1)+1)
                          case measure=>omega
                          case rel=>exact⟨k9+1,by omega,rfl,by push_cast;go_num,by rw [HT.out,hv],rfl⟩
                        · have hd:digB (Y:Int)=false:=by unfold digB;simp;omega
                          by_cases c3:Y=45
                          · subst c3;have u1:(45:Int)<97:=by omega
                            have hv:hostI ((45:Nat):Int)=true:=by decide
                            go_wp2_with (go_at_call 94;refine(rdigit_any _ _ (by omega) (by omega)).mono ?_;rintro e w' ⟨rfl,hw'⟩;subst hw');go_roundg (xl-(k9+1)+1)
                            case measure=>omega
                            case rel=>exact⟨k9+1,by omega,rfl,by push_cast;go_num,by rw [HT.out,hv],rfl⟩
                          · have n1:¬(Y:Int)=45:=by omega
                            have u1:(Y:Int)<97:=by omega
                            have u2:(Y:Int)<65:=by omega
                            have n2:¬(Y:Int)=95:=by omega
                            have n3:((Y:Int)== 45)=false:=by simpa using n1
                            have n4:((Y:Int)== 95)=false:=by simpa using n2
                            have n5:((Y:Int) != 45)=true:=by simpa using n1
                            have n6:((Y:Int) != 95)=true:=by simpa using n2
                            have hv:hostI (Y:Int)=false:=by unfold hostI digB;simp;omega
                            go_wp2_with (go_at_call 94;refine(rdigit_any _ _ (by omega) (by omega)).mono ?_;rintro e w' ⟨rfl,hw'⟩;subst hw');go_ret2;exact labAns_no (HF.out hv) rfl HB3.out
                      · by_cases c2:Y≤90
                        · have u1:(Y:Int)<97:=by omega
                          have u2:¬(Y:Int)<65:=by omega
                          have u3:¬(90:Int)<(Y:Int):=by omega
                          have hv:hostI (Y:Int)=true:=by unfold hostI digB;simp;omega
                          go_wp2_with (go_at_call 94;refine(rdigit_any _ _ (by omega) (by omega)).mono ?_;rintro e w' ⟨rfl,hw'⟩;subst hw');go_roundg (xl-(k9+1)+1)
                          case measure=>omega
                          case rel=>exact⟨k9+1,by omega,rfl,by push_cast;go_num,by rw [HT.out,hv],rfl⟩
                        · have hd:digB (Y:Int)=false:=by unfold digB;simp;omega
                          by_cases c3:Y<97
                          · by_cases c4:Y=95
                            · subst c4;have u1:(95:Int)<97:=by omega
                              have hv:hostI ((95:Nat):Int)=true:=by decide
                              go_wp2_with (go_at_call 94;refine(rdigit_any _ _ (by omega) (by omega)).mono ?_;rintro e w' ⟨rfl,hw'⟩;subst hw');go_roundg (xl-(k9+1)+1)
                              case measure=>omega
                              case rel=>exact⟨k9+1,by omega,rfl,by push_cast;go_num,by rw [HT.out,hv],rfl⟩
                            · have n2:¬(Y:Int)=95:=by omega
                              have n1:¬(Y:Int)=45:=by omega
                              have u1:(Y:Int)<97:=by omega
                              have u2:¬(Y:Int)<65:=by omega
                              have u3:(90:Int)<(Y:Int):=by omega
                              have n3:((Y:Int)== 45)=false:=by simpa using n1
                              have n4:((Y:Int)== 95)=false:=by simpa using n2
                              have n5:((Y:Int) != 45)=true:=by simpa using n1
                              have n6:((Y:Int) != 95)=true:=by simpa using n2
                              have hv:hostI (Y:Int)=false:=by unfold hostI digB;simp;omega
                              go_wp2_with (go_at_call 94;refine(rdigit_any _ _ (by omega) (by omega)).mono ?_;rintro e w' ⟨rfl,hw'⟩;subst hw');go_ret2;exact labAns_no (HF.out hv) rfl HB3.out
                          · by_cases c4:Y≤122
                            · have u1:¬(Y:Int)<97:=by omega
                              have u2:¬(122:Int)<(Y:Int):=by omega
                              have hv:hostI (Y:Int)=true:=by unfold hostI digB;simp;omega
                              go_wp2_with (go_at_call 94;refine(rdigit_any _ _ (by omega) (by omega)).mono ?_;rintro e w' ⟨rfl,hw'⟩;subst hw');go_roundg (xl-(k9+1)+1)
                              case measure=>omega
                              case rel=>exact⟨k9+1,by omega,rfl,by push_cast;go_num,by rw [HT.out,hv],rfl⟩
                            · have n1:¬(Y:Int)=45:=by omega
                              have n2:¬(Y:Int)=95:=by omega
                              have u1:¬(Y:Int)<97:=by omega
                              have u2:(122:Int)<(Y:Int):=by omega
                              have u3:¬(Y:Int)<65:=by omega
                              have u4:(90:Int)<(Y:Int):=by omega
                              have n3:((Y:Int)== 45)=false:=by simpa using n1
                              have n4:((Y:Int)== 95)=false:=by simpa using n2
                              have n5:((Y:Int) != 45)=true:=by simpa using n1
                              have n6:((Y:Int) != 95)=true:=by simpa using n2
                              have hv:hostI (Y:Int)=false:=by unfold hostI digB;simp;omega
                              go_wp2_with (go_at_call 94;refine(rdigit_any _ _ (by omega) (by omega)).mono ?_;rintro e w' ⟨rfl,hw'⟩;subst hw');go_ret2;exact labAns_no (HF.out hv) rfl HB3.out
                    · obtain rfl:xl=k9:=by omega
                      have HOk:=hid (HGood.out (by omega) (by omega) (by rw [List.take_of_length_le (by rw [HXL.out];exact Nat.le_refl _)] at hall;exact hall));clear hall;go_wp2;go_roundg (i+1-(i+1)+1)
                      case measure=>omega
                      case rel=>exact⟨i+1,i+1,k+1,c7,p7,acc++ [x],by omega,by omega,rfl,by push_cast;go_num,by push_cast;go_num,rfl,by rw [List.map_append,List.length_append,HKm.out];rfl,by omega,by rw [List.map_append,HOm.out];exact HO3.out,by rw [List.all_append,HAll.out];simpa using HOk.out,(HNx.out.elim .inl (fun h=>.inr ⟨rfl,h.2⟩)),HB3.out⟩
          · obtain⟨h5,h6⟩:=List.getElem?_eq_some_iff.1 hgo;have hltn:i<n:=by rw [←HN.out];exact h5
            have hdn:decide ((i:Int)<(n:Int))=true:=decide_eq_true (by omega);have hbyte:∀ h:i<S.size,(S[i]'h).toNat=46:=fun h=>by rw [HByte.out i h5 h,h6];rfl
            clear h5 h6 hgo;by_cases hl0:xl<1
            · have hl0':(xl:Int)<1:=by omega
              have HNone:=hid (HLen.out (.inl hl0));go_wp2;go_ret2;exact labAns_no HNone.out rfl HB.out
            · by_cases hl63:63<xl
              · have hl63':(63:Int)<(xl:Int):=by omega
                have HNone:=hid (HLen.out (.inr hl63));have hl0d:decide ((xl:Int)<1)=false:=decide_eq_false (by omega);go_wp2;go_ret2;exact labAns_no HNone.out rfl HB.out
              · have hl63d:¬(63:Int)<(xl:Int):=by omega
                have hl0d:¬(xl:Int)<1:=by omega
                cases wild with
                |false=>
                 go_wp2_with (first|(go_at_call 69;(with_reducible refine(HLo.out _).mono ?_);rintro e w2 ⟨rfl,hb2⟩;have HB2:=hid (HB.out.trans (hb2.mono HB.out.size));have HO2:=hid (HO.out.keep hb2);clear hb2)|(at_builtin;refine wpList_append_own_at _ rfl (.tmp 49) (.tmp 52) 36 rfl w.heap.size 9 j0 _ 1 16 Tryz.underlying36 hj0 hy0 hy1 hy2 rfl (by decide) (.slice q k d) k (strC outs) (by go_simp) (by have h8:=HO2.out.alloc (.cells #[.string SL] 9 (0,0));unfold OwnS at h8;rw [HK.out] at h8;exact h8) ⟨w2.heap.size,0,none⟩ 1 1 [.string SL] (by go_simp) rfl (cells_new w2 _ _) (by simp [Value.oneCell']) (by unfold maxLen;omega) (by omega) (by have h1:=HB2.out.size;simp;omega) ?_;intro v6 w3 hown hgr _ _;obtain⟨p7,L7,c7,rfl⟩:=own_slice3 hown;have HO3:=hid (show OwnS w3 w.heap.size (.slice p7 L7 c7) (outs++ [lowH x]) from OwnS.put (by rw [HK.out,HSL.out];exact hown));have HB3:=hid ((HB2.out.trans ((below_new w2 _).mono HB2.out.size)).trans (OwnS.below (HO2.out.alloc _) (by have h1:=HB2.out.size;simp;omega) hgr));obtain⟨hL7,_⟩:L7=k+1∧True:=⟨row_lenH hown,trivial⟩;subst hL7;clear hown hgr));go_loopg [10] (xl+1) (fun gk s10 wv=>∃ k9:Nat,k9≤xl∧gk=xl-k9+1∧s10= .int .i64 (k9:Int)∧(x.take k9).all hostU=true∧wv=w3)
                 case atStart=>exact⟨0,by omega,rfl,rfl,rfl,rfl⟩
                 case round=>
                  obtain⟨k9,hk9,rfl,rfl,hall,hwv⟩:=hrel
                  rename World=>wv
                  subst hwv;by_cases hlt:k9<xl
                  · have h3:k9<x.length:=by rw [HXL.out];exact hlt
                    obtain⟨y,hy⟩:∃ y,x[k9]=y:=⟨_,rfl⟩;obtain⟨Y,hY⟩:∃ Y:Nat,y.toNat=Y:=⟨_,rfl⟩;have hY256:Y<256:=by rw [←hY];exact y.toNat_lt
                    have hbyte9:∀ h:k9<SX.size,(SX[k9]'h).toNat=Y:=fun h=>by rw [HBx.out k9 h3 h,hy,hY]
                    have hvy:hostU y=hostI (Y:Int):=by unfold hostU;rw [hY]
                    have HT:=hid (show (x.take (k9+1)).all hostU=hostI (Y:Int) from by rw [List.take_succ_eq_append_getElem h3,List.all_append,hall,hy];simp [hvy]);have HF:=hid (show hostI (Y:Int)=false→labsH false s=none from fun h=>HBad.out (fun h=>by cases h) (host_stop h3 (by rw [hy,hvy];exact h)));clear hy hY hall hvy h3;by_cases c1:Y<65
                    · by_cases c2:48≤Y∧Y≤57
                      · have hd:digB (Y:Int)=true:=by unfold digB;simp;omega
                        have u1:(Y:Int)<97:=by omega
                        have u2:(Y:Int)<65:=by omega
                        have hv:hostI (Y:Int)=true:=by unfold hostI digB;simp;omega
                        go_wp2_with (go_at_call 94;refine(rdigit_any _ _ (by omega) (by omega)).mono ?_;rintro e w' ⟨rfl,hw'⟩;subst hw');go_roundg (xl-(k9+1)+1)
                        case measure=>omega
                        case rel=>exact⟨k9+1,by omega,rfl,by push_cast;go_num,by rw [HT.out,hv],rfl⟩
                      · have hd:digB (Y:Int)=false:=by unfold digB;simp;omega
                        by_cases c3:Y=45
                        · subst c3;have u1:(45:Int)<97:=by omega
                          have hv:hostI ((45:Nat):Int)=true:=by decide
                          go_wp2_with (go_at_call 94;refine(rdigit_any _ _ (by omega) (by omega)).mono ?_;rintro e w' ⟨rfl,hw'⟩;subst hw');go_roundg (xl-(k9+1)+1)
                          case measure=>omega
                          case rel=>exact⟨k9+1,by omega,rfl,by push_cast;go_num,by rw [HT.out,hv],rfl⟩
                        · have n1:¬(Y:Int)=45:=by omega
                          have u1:(Y:Int)<97:=by omega
                          have u2:(Y:Int)<65:=by omega
                          have n2:¬(Y:Int)=95:=by omega
                          have n3:((Y:Int)== 45)=false:=by simpa using n1
                          have n4:((Y:Int)== 95)=false:=by simpa using n2
                          have n5:((Y:Int) != 45)=true:=by simpa using n1
                          have n6:((Y:Int) != 95)=true:=by simpa using n2
                          have hv:hostI (Y:Int)=false:=by unfold hostI digB;simp;omega
                          go_wp2_with (go_at_call 94;refine(rdigit_any _ _ (by omega) (by omega)).mono ?_;rintro e w' ⟨rfl,hw'⟩;subst hw');go_ret2;exact labAns_no (HF.out hv) rfl HB3.out
                    · by_cases c2:Y≤90
                      · have u1:(Y:Int)<97:=by omega
                        have u2:¬(Y:Int)<65:=by omega
                        have u3:¬(90:Int)<(Y:Int):=by omega
                        have hv:hostI (Y:Int)=true:=by unfold hostI digB;simp;omega
                        go_wp2_with (go_at_call 94;refine(rdigit_any _ _ (by omega) (by omega)).mono ?_;rintro e w' ⟨rfl,hw'⟩;subst hw');go_roundg (xl-(k9+1)+1)
                        case measure=>omega
                        case rel=>exact⟨k9+1,by omega,rfl,by push_cast;go_num,by rw [HT.out,hv],rfl⟩
                      · have hd:digB (Y:Int)=false:=by unfold digB;simp;omega
                        by_cases c3:Y<97
                        · by_cases c4:Y=95
                          · subst c4;have u1:(95:Int)<97:=by omega
                            have hv:hostI ((95:Nat):Int)=true:=by decide
                            go_wp2_with (go_at_call 94;refine(rdigit_any _ _ (by omega) (by omega)).mono ?_;rintro e w' ⟨rfl,hw'⟩;subst hw');go_roundg (xl-(k9+1)+1)
                            case measure=>omega
                            case rel=>exact⟨k9+1,by omega,rfl,by push_cast;go_num,by rw [HT.out,hv],rfl⟩
                          · have n2:¬(Y:Int)=95:=by omega
                            have n1:¬(Y:Int)=45:=by omega
                            have u1:(Y:Int)<97:=by omega
                            have u2:¬(Y:Int)<65:=by omega
                            have u3:(90:Int)<(Y:Int):=by omega
                            have n3:((Y:Int)== 45)=false:=by simpa using n1
                            have n4:((Y:Int)== 95)=false:=by simpa using n2
                            have n5:((Y:Int) != 45)=true:=by simpa using n1
                            have n6:((Y:Int) != 95)=true:=by simpa using n2
                            have hv:hostI (Y:Int)=false:=by unfold hostI digB;simp;omega
                            go_wp2_with (go_at_call 94;refine(rdigit_any _ _ (by omega) (by omega)).mono ?_;rintro e w' ⟨rfl,hw'⟩;subst hw');go_ret2;exact labAns_no (HF.out hv) rfl HB3.out
                        · by_cases c4:Y≤122
                          · have u1:¬(Y:Int)<97:=by omega
                            have u2:¬(122:Int)<(Y:Int):=by omega
                            have hv:hostI (Y:Int)=true:=by unfold hostI digB;simp;omega
                            go_wp2_with (go_at_call 94;refine(rdigit_any _ _ (by omega) (by omega)).mono ?_;rintro e w' ⟨rfl,hw'⟩;subst hw');go_roundg (xl-(k9+1)+1)
                            case measure=>omega
                            case rel=>exact⟨k9+1,by omega,rfl,by push_cast;go_num,by rw [HT.out,hv],rfl⟩
                          · have n1:¬(Y:Int)=45:=by omega
                            have n2:¬(Y:Int)=95:=by omega
                            have u1:¬(Y:Int)<97:=by omega
                            have u2:(122:Int)<(Y:Int):=by omega
                            have u3:¬(Y:Int)<65:=by omega
                            have u4:(90:Int)<(Y:Int):=by omega
                            have n3:((Y:Int)== 45)=false:=by simpa using n1
                            have n4:((Y:Int)== 95)=false:=by simpa using n2
                            have n5:((Y:Int) != 45)=true:=by simpa using n1
                            have n6:((Y:Int) != 95)=true:=by simpa using n2
                            have hv:hostI (Y:Int)=false:=by unfold hostI digB;simp;omega
                            go_wp2_with (go_at_call 94;refine(rdigit_any _ _ (by omega) (by omega)).mono ?_;rintro e w' ⟨rfl,hw'⟩;subst hw');go_ret2;exact labAns_no (HF.out hv) rfl HB3.out
                  · obtain rfl:xl=k9:=by omega
                    have HOk:=hid (HGood.out (by omega) (by omega) (by rw [List.take_of_length_le (by rw [HXL.out];exact Nat.le_refl _)] at hall;exact hall));clear hall;go_wp2;go_roundg (n+1-(i+1)+1)
                    case measure=>omega
                    case rel=>exact⟨i+1,i+1,k+1,c7,p7,acc++ [x],by omega,by omega,rfl,by push_cast;go_num,by push_cast;go_num,rfl,by rw [List.map_append,List.length_append,HKm.out];rfl,by omega,by rw [List.map_append,HOm.out];exact HO3.out,by rw [List.all_append,HAll.out];simpa using HOk.out,HNx.out,HB3.out⟩
                |true=>
                 by_cases hst:x= [42]
                 · obtain rfl:(⟨#[42]⟩:ByteArray)=SX:=by rw [←HSX.out,hst]
                   have HOk:=hid (show okLab true x=true from by rw [hst];rfl);go_wp2_with (first|(go_at_call 69;(with_reducible refine(HLo.out _).mono ?_);rintro e w2 ⟨rfl,hb2⟩;have HB2:=hid (HB.out.trans (hb2.mono HB.out.size));have HO2:=hid (HO.out.keep hb2);clear hb2)|(at_builtin;refine wpList_append_own_at _ rfl (.tmp 49) (.tmp 52) 36 rfl w.heap.size 9 j0 _ 1 16 Tryz.underlying36 hj0 hy0 hy1 hy2 rfl (by decide) (.slice q k d) k (strC outs) (by go_simp) (by have h8:=HO2.out.alloc (.cells #[.string SL] 9 (0,0));unfold OwnS at h8;rw [HK.out] at h8;exact h8) ⟨w2.heap.size,0,none⟩ 1 1 [.string SL] (by go_simp) rfl (cells_new w2 _ _) (by simp [Value.oneCell']) (by unfold maxLen;omega) (by omega) (by have h1:=HB2.out.size;simp;omega) ?_;intro v6 w3 hown hgr _ _;obtain⟨p7,L7,c7,rfl⟩:=own_slice3 hown;have HO3:=hid (show OwnS w3 w.heap.size (.slice p7 L7 c7) (outs++ [lowH x]) from OwnS.put (by rw [HK.out,HSL.out];exact hown));have HB3:=hid ((HB2.out.trans ((below_new w2 _).mono HB2.out.size)).trans (OwnS.below (HO2.out.alloc _) (by have h1:=HB2.out.size;simp;omega) hgr));obtain⟨hL7,_⟩:L7=k+1∧True:=⟨row_lenH hown,trivial⟩;subst hL7;clear hown hgr));go_roundg (n+1-(i+1)+1)
                   case measure=>omega
                   case rel=>exact⟨i+1,i+1,k+1,c7,p7,acc++ [x],by omega,by omega,rfl,by push_cast;go_num,by push_cast;go_num,rfl,by rw [List.map_append,List.length_append,HKm.out];rfl,by omega,by rw [List.map_append,HOm.out];exact HO3.out,by rw [List.all_append,HAll.out];simpa using HOk.out,HNx.out,HB3.out⟩
                 · have hst1:¬SX=(⟨#[42]⟩:ByteArray):=fun e=>hst (str_inj (by rw [HSX.out,e]))
                   have hst2:(SX.toList== (⟨#[42]⟩:ByteArray).toList)=false:=ne_list hst1;have hst3:(SX.toList== [42])=false:=by have h:=hst2;rw [ByteArray.toList_eq,ByteArray.toList_eq] at h;rw [ByteArray.toList_eq];exact h
                   go_wp2_with (first|(go_at_call 69;(with_reducible refine(HLo.out _).mono ?_);rintro e w2 ⟨rfl,hb2⟩;have HB2:=hid (HB.out.trans (hb2.mono HB.out.size));have HO2:=hid (HO.out.keep hb2);clear hb2)|(at_builtin;refine wpList_append_own_at _ rfl (.tmp 49) (.tmp 52) 36 rfl w.heap.size 9 j0 _ 1 16 Tryz.underlying36 hj0 hy0 hy1 hy2 rfl (by decide) (.slice q k d) k (strC outs) (by go_simp) (by have h8:=HO2.out.alloc (.cells #[.string SL] 9 (0,0));unfold OwnS at h8;rw [HK.out] at h8;exact h8) ⟨w2.heap.size,0,none⟩ 1 1 [.string SL] (by go_simp) rfl (cells_new w2 _ _) (by simp [Value.oneCell']) (by unfold maxLen;omega) (by omega) (by have h1:=HB2.out.size;simp;omega) ?_;intro v6 w3 hown hgr _ _;obtain⟨p7,L7,c7,rfl⟩:=own_slice3 hown;have HO3:=hid (show OwnS w3 w.heap.size (.slice p7 L7 c7) (outs++ [lowH x]) from OwnS.put (by rw [HK.out,HSL.out];exact hown));have HB3:=hid ((HB2.out.trans ((below_new w2 _).mono HB2.out.size)).trans (OwnS.below (HO2.out.alloc _) (by have h1:=HB2.out.size;simp;omega) hgr));obtain⟨hL7,_⟩:L7=k+1∧True:=⟨row_lenH hown,trivial⟩;subst hL7;clear hown hgr));go_loopg [10] (xl+1) (fun gk s10 wv=>∃ k9:Nat,k9≤xl∧gk=xl-k9+1∧s10= .int .i64 (k9:Int)∧(x.take k9).all hostU=true∧wv=w3)
                   case atStart=>exact⟨0,by omega,rfl,rfl,rfl,rfl⟩
                   case round=>
                    obtain⟨k9,hk9,rfl,rfl,hall,hwv⟩:=hrel
                    rename World=>wv
                    subst hwv;by_cases hlt:k9<xl
                    · have h3:k9<x.length:=by rw [HXL.out];exact hlt
                      obtain⟨y,hy⟩:∃ y,x[k9]=y:=⟨_,rfl⟩;obtain⟨Y,hY⟩:∃ Y:Nat,y.toNat=Y:=⟨_,rfl⟩;have hY256:Y<256:=by rw [←hY];exact y.toNat_lt
                      have hbyte9:∀ h:k9<SX.size,(SX[k9]'h).toNat=Y:=fun h=>by rw [HBx.out k9 h3 h,hy,hY]
                      have hvy:hostU y=hostI (Y:Int):=by unfold hostU;rw [hY]
                      have HT:=hid (show (x.take (k9+1)).all hostU=hostI (Y:Int) from by rw [List.take_succ_eq_append_getElem h3,List.all_append,hall,hy];simp [hvy]);have HF:=hid (show hostI (Y:Int)=false→labsH true s=none from fun h=>HBad.out (fun _=>hst) (host_stop h3 (by rw [hy,hvy];exact h)));clear hy hY hall hvy h3;by_cases c1:Y<65
                      · by_cases c2:48≤Y∧Y≤57
                        · have hd:digB (Y:Int)=true:=by unfold digB;simp;omega
                          have u1:(Y:Int)<97:=by omega
                          have u2:(Y:Int)<65:=by omega
                          have hv:hostI (Y:Int)=true:=by unfold hostI digB;simp;omega
                          go_wp2_with (go_at_call 94;refine(rdigit_any _ _ (by omega) (by omega)).mono ?_;rintro e w' ⟨rfl,hw'⟩;subst hw');go_roundg (xl-(k9+1)+1)
                          case measure=>omega
                          case rel=>exact⟨k9+1,by omega,rfl,by push_cast;go_num,by rw [HT.out,hv],rfl⟩
                        · have hd:digB (Y:Int)=false:=by unfold digB;simp;omega
                          by_cases c3:Y=45
                          · subst c3;have u1:(45:Int)<97:=by omega
                            have hv:hostI ((45:Nat):Int)=true:=by decide
                            go_wp2_with (go_at_call 94;refine(rdigit_any _ _ (by omega) (by omega)).mono ?_;rintro e w' ⟨rfl,hw'⟩;subst hw');go_roundg (xl-(k9+1)+1)
                            case measure=>omega
                            case rel=>exact⟨k9+1,by omega,rfl,by push_cast;go_num,by rw [HT.out,hv],rfl⟩
                          · have n1:¬(Y:Int)=45:=by omega
                            have u1:(Y:Int)<97:=by omega
                            have u2:(Y:Int)<65:=by omega
                            have n2:¬(Y:Int)=95:=by omega
                            have n3:((Y:Int)== 45)=false:=by simpa using n1
                            have n4:((Y:Int)== 95)=false:=by simpa using n2
                            have n5:((Y:Int) != 45)=true:=by simpa using n1
                            have n6:((Y:Int) != 95)=true:=by simpa using n2
                            have hv:hostI (Y:Int)=false:=by unfold hostI digB;simp;omega
                            go_wp2_with (go_at_call 94;refine(rdigit_any _ _ (by omega) (by omega)).mono ?_;rintro e w' ⟨rfl,hw'⟩;subst hw');go_ret2;exact labAns_no (HF.out hv) rfl HB3.out
                      · by_cases c2:Y≤90
                        · have u1:(Y:Int)<97:=by omega
                          have u2:¬(Y:Int)<65:=by omega
                          have u3:¬(90:Int)<(Y:Int):=by omega
                          have hv:hostI (Y:Int)=true:=by unfold hostI digB;simp;omega
                          go_wp2_with (go_at_call 94;refine(rdigit_any _ _ (by omega) (by omega)).mono ?_;rintro e w' ⟨rfl,hw'⟩;subst hw');go_roundg (xl-(k9+1)+1)
                          case measure=>omega
                          case rel=>exact⟨k9+1,by omega,rfl,by push_cast;go_num,by rw [HT.out,hv],rfl⟩
                        · have hd:digB (Y:Int)=false:=by unfold digB;simp;omega
                          by_cases c3:Y<97
                          · by_cases c4:Y=95
                            · subst c4;have u1:(95:Int)<97:=by omega
                              have hv:hostI ((95:Nat):Int)=true:=by decide
                              go_wp2_with (go_at_call 94;refine(rdigit_any _ _ (by omega) (by omega)).mono ?_;rintro e w' ⟨rfl,hw'⟩;subst hw');go_roundg (xl-(k9+1)+1)
                              case measure=>omega
                              case rel=>exact⟨k9+1,by omega,rfl,by push_cast;go_num,by rw [HT.out,hv],rfl⟩
                            · have n2:¬(Y:Int)=95:=by omega
                              have n1:¬(Y:Int)=45:=by omega
                              have u1:(Y:Int)<97:=by omega
                              have u2:¬(Y:Int)<65:=by omega
                              have u3:(90:Int)<(Y:Int):=by omega
                              have n3:((Y:Int)== 45)=false:=by simpa using n1
                              have n4:((Y:Int)== 95)=false:=by simpa using n2
                              have n5:((Y:Int) != 45)=true:=by simpa using n1
                              have n6:((Y:Int) != 95)=true:=by simpa using n2
                              have hv:hostI (Y:Int)=false:=by unfold hostI digB;simp;omega
                              go_wp2_with (go_at_call 94;refine(rdigit_any _ _ (by omega) (by omega)).mono ?_;rintro e w' ⟨rfl,hw'⟩;subst hw');go_ret2;exact labAns_no (HF.out hv) rfl HB3.out
                          · by_cases c4:Y≤122
                            · have u1:¬(Y:Int)<97:=by omega
                              have u2:¬(122:Int)<(Y:Int):=by omega
                              have hv:hostI (Y:Int)=true:=by unfold hostI digB;simp;omega
                              go_wp2_with (go_at_call 94;refine(rdigit_any _ _ (by omega) (by omega)).mono ?_;rintro e w' ⟨rfl,hw'⟩;subst hw');go_roundg (xl-(k9+1)+1)
                              case measure=>omega
                              case rel=>exact⟨k9+1,by omega,rfl,by push_cast;go_num,by rw [HT.out,hv],rfl⟩
                            · have n1:¬(Y:Int)=45:=by omega
                              have n2:¬(Y:Int)=95:=by omega
                              have u1:¬(Y:Int)<97:=by omega
                              have u2:(122:Int)<(Y:Int):=by omega
                              have u3:¬(Y:Int)<65:=by omega
                              have u4:(90:Int)<(Y:Int):=by omega
                              have n3:((Y:Int)== 45)=false:=by simpa using n1
                              have n4:((Y:Int)== 95)=false:=by simpa using n2
                              have n5:((Y:Int) != 45)=true:=by simpa using n1
                              have n6:((Y:Int) != 95)=true:=by simpa using n2
                              have hv:hostI (Y:Int)=false:=by unfold hostI digB;simp;omega
                              go_wp2_with (go_at_call 94;refine(rdigit_any _ _ (by omega) (by omega)).mono ?_;rintro e w' ⟨rfl,hw'⟩;subst hw');go_ret2;exact labAns_no (HF.out hv) rfl HB3.out
                    · obtain rfl:xl=k9:=by omega
                      have HOk:=hid (HGood.out (by omega) (by omega) (by rw [List.take_of_length_le (by rw [HXL.out];exact Nat.le_refl _)] at hall;exact hall));clear hall;go_wp2;go_roundg (n+1-(i+1)+1)
                      case measure=>omega
                      case rel=>exact⟨i+1,i+1,k+1,c7,p7,acc++ [x],by omega,by omega,rfl,by push_cast;go_num,by push_cast;go_num,rfl,by rw [List.map_append,List.length_append,HKm.out];rfl,by omega,by rw [List.map_append,HOm.out];exact HO3.out,by rw [List.all_append,HAll.out];simpa using HOk.out,HNx.out,HB3.out⟩
        · have hltn:i<n:=by
           by_cases h:i=n
           · exact absurd (.inl h) hgo
           · omega
          have h5:i<s.length:=by rw [HN.out];exact hltn
          obtain⟨y,hy⟩:∃ y,s[i]=y:=⟨_,rfl⟩;have hy46:¬y=46:=fun e=>hgo (.inr (by rw [List.getElem?_eq_getElem h5,hy,e]))
          obtain⟨Y,hY⟩:∃ Y:Nat,y.toNat=Y:=⟨_,rfl⟩;have hY256:Y<256:=by rw [←hY];exact y.toNat_lt
          have hbyte:∀ h:i<S.size,(S[i]'h).toNat=Y:=fun h=>by rw [HByte.out i h5 h,hy,hY]
          have z1:¬(Y:Int)=46:=fun e=>hy46 (UInt8.toNat_inj.1 (by rw [hY];show Y=46;omega))
          have z2:((Y:Int)== 46)=false:=by simpa using z1
          have z3:((Y:Int) != 46)=true:=by simpa using z1
          have hdn:decide ((i:Int)<(n:Int))=true:=decide_eq_true (by omega);have HNy:=hid (show ∀ y∈(s.drop f).take (i+1-f),y≠46 from fun z hz=>by
           rw [show i+1-f=i-f+1 by omega,List.take_add_one,List.getElem?_drop,show f+(i-f)=i by omega,List.getElem?_eq_getElem h5,hy] at hz;rcases List.mem_append.1 hz with hz|hz
           · exact HNo.out z hz
           · simp at hz;rw [hz];exact hy46)
          clear hgo hy hY hy46 h5 hexf;go_wp2;go_roundg (n+1-(i+1)+1)
          case measure=>omega
          case rel=>exact⟨i+1,f,k,d,q,acc,by omega,by omega,rfl,by push_cast;go_num,rfl,rfl,HKm.out,by omega,by rw [HOm.out];exact HO.out,HAll.out,.inl ⟨by omega,HNy.out,HRX.out⟩,HB.out⟩
      · obtain rfl:i=n+1:=by omega
        have hXa:X=acc:=hR.elim (fun h=>absurd h.1 (by omega)) (fun h=>h.2);subst hXa;have HFin:=hid (show labsH wild s=some outs from by rw [HLb.out,if_pos HAll.out,HOm.out]);clear hR;go_wp2;go_ret2;exact labAns_yes HFin.out HK.out rfl HO.out HB.out
end Go.Proofs.YtlmlljlappjjjaaGreatDoor
